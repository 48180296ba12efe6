/-
  Songs with a tone ahead.
-/
import Derived.Test.YthnofdkkocpjhaaDoorSg3
import Derived.Test.YthnofdkkocpjhaaDoorSbm
import Derived.BigQuiet
import Derived.Laws.MakeOwn
namespace Go.Proofs.YthnofdkkocpjhaaDoor
open Go.RowKit
set_option maxRecDepth 100000
set_option linter.unusedVariables false

theorem Ba.made {w : World} {lo base A n : Nat} (h : w.ownsRow base 58 1 (.slice (some ⟨A, 0, none⟩) n n) n (madeCells #[.pointer none] n).toList) : Ba w lo A n (fun _ => []) := by
  obtain ⟨_, h1 | ⟨g, cap, cur, hv, _, hh, _, _, hsz, ht⟩⟩ := h
  · cases h1.1
  · injection hv with hv1 _ hv2
    injection hv1 with hv1
    injection hv1 with hv1
    subst hv1 hv2
    refine ⟨cur, hh, by omega, fun i hi => ⟨none, ?_, rfl⟩⟩
    have e : (cur.toList.take (n * 1))[i]? = (madeCells #[.pointer none] n).toList[i]? := by rw [ht]
    rw [List.getElem?_take_of_lt (by omega), Array.getElem?_toList, Array.getElem?_toList] at e
    rw [e]
    have h1 : (Array.range n)[i]? = some i := by simp [hi]
    simp [madeCells, h1, Nat.mod_one]
theorem drewN_qs {w : World} {lo Q : Nat} {v : Value} {ps : List (Option Addr)} (h : Qs w lo Q v ps) (k : Nat) : Qs (w.drewN k) lo Q v ps := ⟨h.blk, h.low, h.row⟩
theorem AhI.drewN {w0 wr : World} {lo Q A : Nat} {vs : Value} {hs : List Int} {v : Value} {ps : List (Option Addr)} {R : List (List Int)} {p : Option Addr} {l : List Int} {f : Nat → List Int} (h : AhI w0 wr lo Q A vs hs v ps R p l f) (k : Nat) : AhI w0 (wr.drewN k) lo Q A vs hs v ps R p l f :=
  h.below ⟨rfl, rfl, rfl, Nat.le_refl _, fun _ _ => rfl⟩

def Ahead (w : World) (lo Q : Nat) (ls : List (List Int)) (e : Ending) (w' : World) : Prop :=
  e = .returned (.tuple #[]) ∧ ∃ v' ps', Qs w' lo Q v' ps' ∧ SgL w' lo ps' ls ∧ Below lo w w' ∧ Kt w w'
/-- what the first loop's head knows -/
def AhO (w wr : World) (lo Q A : Nat) (vs : Value) (hs : List Int) (D R : List (List Int)) (r o : Value) : Prop :=
  ∃ p v ps, r = .pointer p ∧ o = .bool (!R.isEmpty) ∧ AhI w wr lo Q A vs hs v ps R.tail p (R.headD []) (fun i => bso (hs.getD i 0) D)
def Ahf (hs : List Int) (D : List (List Int)) (l : List Int) (m i : Nat) : List Int := if i < m then bso (hs.getD i 0) (D ++ [l]) else bso (hs.getD i 0) D
theorem ahf_at {hs : List Int} {D : List (List Int)} {l : List Int} {m : Nat} {x : Int} (h : hs[m]? = some x) : Ahf hs D l m m = bso x D ∧ Ahf hs D l (m + 1) m = sstep (bso x D) (x :: l) := by
  have e : hs.getD m 0 = x := by rw [List.getD_eq_getElem?_getD, h]; rfl
  unfold Ahf
  rw [if_neg (Nat.lt_irrefl _), if_pos (Nat.lt_succ_self _), e, bso_snoc]
  exact ⟨rfl, rfl⟩
theorem ahf_other {hs : List Int} {D : List (List Int)} {l : List Int} {m i : Nat} (h : i ≠ m) : Ahf hs D l (m + 1) i = Ahf hs D l m i := by
  unfold Ahf
  by_cases k : i < m
  · rw [if_pos k, if_pos (by omega)]
  · rw [if_neg k, if_neg (by omega)]
theorem ahf_last {hs : List Int} {D : List (List Int)} {l : List Int} {i : Nat} (h : i < hs.length) : bso (hs.getD i 0) (D ++ [l]) = Ahf hs D l hs.length i := by unfold Ahf; rw [if_pos h]
theorem ahf_zero {hs : List Int} {D : List (List Int)} {l : List Int} {i : Nat} : Ahf hs D l 0 i = bso (hs.getD i 0) D := by unfold Ahf; rw [if_neg (Nat.not_lt_zero _)]

set_option maxHeartbeats 8000000 in
theorem singAhead_any (s : Int) (b : Bool) (lo Q : Nat) (v : Value) (ps : List (Option Addr)) (ls : List (List Int)) (w : World) (h : Qs w lo Q v ps) (hs : SgL w lo ps ls) (hl : ∀ l ∈ ls, l.length ≤ 1000) :
    Calls Tryd.prog 27 #[.agg #[.int .i64 s, .bool b], .pointer (some ⟨Q, 0, none⟩)] w (Ahead w lo Q ((rall s b 7).map fun h => bso h ls)) := by
  obtain ⟨i0, hi, hq0, hq1, hq2⟩ := info_parts infoSg
  have h7 := rall_len s b 7
  have hlo : lo ≤ w.heap.size := by have := h.low; have := h.lt; omega
  have HQ := Lib.hid h
  have HS := Lib.hid hs
  have HL := Lib.hid hl
  clear h hs hl
  obtain ⟨hs, hhs⟩ : ∃ hs, rall s b 7 = hs := ⟨_, rfl⟩
  rw [hhs] at h7 ⊢
  have HH := Lib.hid hhs
  clear hhs
  go_enter Tryd.func27, Tryd.ntmps27
  go_wp2_with (fail)
  (go_at_call 30; refine (hexAll_any s b _).mono ?_; rintro e w1 ⟨u, rfl, hu, hb1⟩)
  rw [HH.out] at hu
  have hb1' : Below w.heap.size w w1 := bl_step ((Below.refl _ _).alloc (Nat.le_refl _) _) hb1
  have hsz1 := hb1'.size
  have hi1 := IAt.of hu
  have HQ1 := Lib.hid (HQ.out.below hb1')
  have HK1 : Hid (Kt w w1) := Kt.below hb1'
  have HS1 := Lib.hid (HS.out.kept (.below hb1'))
  have HB1 := Lib.hid (hb1'.mono hlo)
  clear hu hb1 hb1'
  clear HH
  obtain ⟨a, cap, rfl⟩ : ∃ a cap, u = .slice a hs.length cap := by obtain ⟨a, cap, h1, _⟩ := hi1; exact ⟨a, cap, h1⟩
  have HI1 := Lib.hid hi1
  clear hi1
  go_wp2_with (at_make; refine wpList_make_full _ rfl _ _ 54 rfl w1.heap.size 58 i0 (.pointer none) 1 Tryd.underlying54 hi hq0 hq1 _ _ _ _ hs.length rfl rfl rfl rfl ?c1 ?c2 ?c3 ?_)
  case c1 => rw [hq2]; omega
  case c2 => unfold maxLen; omega
  case c3 => exact Nat.le_refl _
  intro w2 hown hg
  have hb2 : Below w1.heap.size w1 w2 := ⟨hg.os, hg.tape, hg.output, hg.size, fun k hk => hg.block k hk (by simp)⟩
  have hBa : Ba w2 lo w1.heap.size hs.length (fun i => bso (hs.getD i 0) []) := Ba.made hown
  have HI2 := Lib.hid (HI1.out.kept (.below hb2))
  have HQ2 := Lib.hid (HQ1.out.below hb2)
  have HK2 : Hid (Kt w w2) := HK1.out.trans (Kt.below hb2)
  have HS2 := Lib.hid (HS1.out.kept (.below hb2))
  have HB2 := Lib.hid (HB1.out.trans (hb2.mono (by omega)))
  have HA2 : Hid (v.ownBlock ≠ some w1.heap.size) := fun e => by have := (HQ1.out.row.lt e).2; omega
  have HBa := Lib.hid hBa
  have hAl : lo ≤ w1.heap.size := by omega
  clear hown hg hb2 hBa
  generalize w1.heap.size = A at HA2 HBa hAl ⊢
  go_wp2_with (fail)
  (go_at_call 28; refine (take_any lo Q v ps ls _ HQ2.out HS2.out).mono ?_; rintro e w3 ⟨p, v', ps', rfl, hq3, hr3, hc3, hf3⟩)
  have H3 : AhO w w3 lo Q A (.slice a hs.length cap) hs [] ls (.pointer p) (.bool (!ls.isEmpty)) := by
    have hk := Kt.fr HQ2.out hf3
    obtain ⟨h1, h2⟩ := hf3.oth A HBa.out.lt (HQ2.out.neA HBa.out) HA2.out
    exact ⟨p, v', ps', rfl, rfl, hq3, hr3, h2, HBa.out.kept h1 hk, HI2.out.kept hk, hc3, HB2.out.trans hf3.bl, hAl, HK2.out.trans hk⟩
  have H3 := Lib.hid H3
  clear hq3 hr3 hc3 hf3
  go_wp2
  go_loopg [6, 7] ls.length (fun k r o wr => ∃ D R, D ++ R = ls ∧ R.length = k ∧ AhO w wr lo Q A (.slice a hs.length cap) hs D R r o)
  case atStart => exact ⟨[], ls, rfl, rfl, H3.out⟩
  case round =>
    obtain ⟨D, R, hD, hk, p, v, ps, rfl, rfl, hA⟩ := hrel
    cases R with
    | nil =>
      have hDl : D = ls := by simpa using hD
      subst hDl
      have hps : ps = [] := hA.r.nil_right
      subst hps
      have H0 : Hid (∃ m v ps, m + hs.length = hs.length ∧ (Value.int .i64 0) = .int .i64 (m : Int) ∧ Qs wr lo Q v ps ∧ SgL wr lo ps ((hs.take m).map fun h => bso h D) ∧ v.ownBlock ≠ some A ∧ Ba wr lo A hs.length (fun i => bso (hs.getD i 0) D) ∧ Below lo w wr ∧ Kt w wr) := ⟨0, v, [], by omega, rfl, hA.q, trivial, hA.a, hA.b, hA.bl, hA.kt⟩
      clear hA HQ HS HL HQ1 HS1 HB1 HI1 HI2 HQ2 HS2 HB2 HA2 HBa H3
      go_wp2
      go_loopg [65] hs.length (fun k i wr => ∃ m v ps, m + k = hs.length ∧ i = .int .i64 (m : Int) ∧ Qs wr lo Q v ps ∧ SgL wr lo ps ((hs.take m).map fun h => bso h D) ∧ v.ownBlock ≠ some A ∧ Ba wr lo A hs.length (fun i => bso (hs.getD i 0) D) ∧ Below lo w wr ∧ Kt w wr)
      case atStart => exact H0.out
      case round =>
        clear H0
        obtain ⟨m, v, ps, hm, rfl, hq, hr, ha, hB, hbl, hkt⟩ := hrel
        have HKt := Lib.hid hkt
        clear hkt
        by_cases hlt : m < hs.length
        · obtain ⟨p, c0, f0, hp⟩ := hB.at_ hlt
          have hx : hs[m]? = some hs[m] := List.getElem?_eq_getElem hlt
          have ht : ((hs.take (m + 1)).map fun h => bso h D) = ((hs.take m).map fun h => bso h D) ++ [bso (hs.getD m 0) D] := by
            rw [List.take_add_one, hx, List.map_append, List.getD_eq_getElem?_getD, hx]; rfl
          have hpl : ps.length ≤ 1000000 := by rw [hr.len]; simp; omega
          have hm0 : (0 : Int) ≤ (m : Int) := by omega
          have hm1 : (m : Int) < (hs.length : Int) := by omega
          have HQ := Lib.hid hq
          have HR := Lib.hid hr
          have HP := Lib.hid hp
          have HB := Lib.hid hB
          have HT := Lib.hid ht
          have HX := Lib.hid hbl
          have HA := Lib.hid ha
          have HM := Lib.hid hm
          clear hq hr hp hB ht hbl ha hx hm
          go_wp2_with (fail)
          (go_at_call 25; refine (put_any lo Q v ps p _ HQ.out hpl).mono ?_; rintro e w5 ⟨rfl, v', hq5, hf5⟩)
          have hk := Kt.fr HQ.out hf5
          obtain ⟨h1, h2⟩ := hf5.oth A HB.out.lt (HQ.out.neA HB.out) HA.out
          have HE : Hid (∀ k, (m + 1) + k = hs.length → ∃ m' v ps, m' + k = hs.length ∧ (Value.int .i64 ((m : Int) + 1)) = .int .i64 (m' : Int) ∧ Qs w5 lo Q v ps ∧ SgL w5 lo ps ((hs.take m').map fun h => bso h D) ∧ v.ownBlock ≠ some A ∧ Ba w5 lo A hs.length (fun i => bso (hs.getD i 0) D) ∧ Below lo w w5 ∧ Kt w w5) := fun k hk' =>
            ⟨m + 1, v', ps ++ [p], hk', by simp, hq5, by rw [HT.out]; exact (HR.out.kept hk.sgs).snoc (HP.out.kept hk.sgs), h2, HB.out.kept h1 hk, HX.out.trans hf5.bl, HKt.out.trans hk⟩
          clear hq5 hf5 hk h1 h2 c0 f0
          go_wp2
          have hm := HM.out
          go_roundg (gk - 1)
          case measure => omega
          case rel => exact HE.out _ (by omega)
        · have hm0 : m = hs.length := by omega
          subst hm0
          rw [List.take_length] at hr
          have HE : Hid (Ahead w lo Q (hs.map fun h => bso h D) (.returned (.tuple #[])) wr) := ⟨rfl, v, ps, hq, hr, hbl, HKt.out⟩
          clear hq hr ha hB hbl
          go_wp2
          go_end0
          exact HE.out
    | cons l R =>
      have hll : l.length ≤ 1000 := HL.out l (by rw [← hD]; simp)
      have HD := Lib.hid hD
      have HK := Lib.hid hk
      have h0 : AhI w wr lo Q A (.slice a hs.length cap) hs v ps R p l (Ahf hs D l 0) := hA.congr fun i _ => ahf_zero
      have H0 := Lib.hid h0
      clear hA h0 HQ HS HL HQ1 HS1 HB1 HI1 HI2 HQ2 HS2 HB2 HA2 HBa H3 hD hk
      go_wp2
      go_loopg [31] hs.length (fun k i wr => ∃ m, m + k = hs.length ∧ i = .int .i64 (m : Int) ∧ AhI w wr lo Q A (.slice a hs.length cap) hs v ps R p l (Ahf hs D l m))
      case atStart => exact ⟨0, by omega, rfl, H0.out⟩
      case round =>
        clear H0
        obtain ⟨m, hm, rfl, hA⟩ := hrel
        have HM := Lib.hid hm
        by_cases hlt : m < hs.length
        · obtain ⟨x, hx⟩ : ∃ x, hs[m]? = some x := ⟨_, List.getElem?_eq_getElem hlt⟩
          obtain ⟨fa, fb⟩ := ahf_at (D := D) (l := l) hx
          obtain ⟨g, rfl, hg, cg⟩ := hA.i.cell hx
          have hm0 : (0 : Int) ≤ (m : Int) := by omega
          have hm1 : (m : Int) < (hs.length : Int) := by omega
          have HA := Lib.hid hA
          have FA := Lib.hid fa
          have FB := Lib.hid fb
          clear hA fa fb hx hm
          go_wp2_with (fail)
          (go_at_call 41; refine (newSong_any x p l lo _ HA.out.c hll).mono ?_; rintro e w5 ⟨B, rfl, hBl, hBh, hb5⟩)
          have hlo5 := HA.out.loq
          have HN0 := NewSg.sg hBh hb5 hBl hlo5 HA.out.c
          have n1 : w5.cell? ⟨B, 1, none⟩ = some (.int .i64 ((chs (x :: l) : Nat) : Int)) := by simp [World.cell?, hBh]
          have HA5 := Lib.hid (HA.out.below hb5)
          obtain ⟨pb, c0, f0, hp⟩ := HA5.out.b.at_ hlt
          rw [FA.out] at hp
          have HN := Lib.hid HN0
          have HSt : Hid (sstep (bso x D) (x :: l) = x :: l → ∀ n, AhI w ((w5.drewN n).setCell ⟨A, m, none⟩ (.pointer (some ⟨B, 0, none⟩))) lo Q A (.slice (some ⟨g, 0, none⟩) hs.length cap) hs v ps R p l (Ahf hs D l (m + 1))) := fun e n =>
            (HA5.out.drewN n).store hlt (by rw [FB.out, e]; exact HN.out.below ⟨rfl, rfl, rfl, Nat.le_refl _, fun _ _ => rfl⟩) (fun i _ h => ahf_other h)
          have HNo : Hid (sstep (bso x D) (x :: l) = bso x D → ∀ n, AhI w (w5.drewN n) lo Q A (.slice (some ⟨g, 0, none⟩) hs.length cap) hs v ps R p l (Ahf hs D l (m + 1))) := fun e n =>
            (HA5.out.drewN n).congr fun i _ => by
              by_cases h : i = m
              · subst h; rw [FB.out, FA.out, e]
              · exact ahf_other h
          clear hb5 hBh hBl HN0 HA5 FA FB HN HA hg cg
          cases hbo : bso x D with
          | nil =>
            rw [hbo] at hp HSt
            have hp0 : pb = none := hp
            subst hp0
            have HE := Lib.hid (HSt.out (by simp [sstep]))
            clear hp HSt HNo hbo
            generalize ((chs (x :: l) : Nat) : Int) = m1 at n1
            go_wp2
            go_quiet (fail)
            go_wp2
            have hm := HM.out
            go_roundg (gk - 1)
            case measure => omega
            case rel => exact ⟨m + 1, by omega, by simp, HE.out _⟩
          | cons h1 r1 =>
            rw [hbo] at hp HSt HNo
            obtain ⟨Bb, q, rfl, _, _, _, d1, _, _⟩ := hp.head
            clear hp
            by_cases hc : chs (x :: l) < chs (h1 :: r1)
            · have HE := Lib.hid (HSt.out (by simp [sstep, hc]))
              have hd : decide (((chs (x :: l) : Nat) : Int) < ((chs (h1 :: r1) : Nat) : Int)) = true := by simp; exact hc
              clear HSt HNo hbo hc
              generalize ((chs (x :: l) : Nat) : Int) = m1 at n1 hd
              generalize ((chs (h1 :: r1) : Nat) : Int) = m2 at d1 hd
              go_wp2
              go_quiet (fail)
              go_wp2
              have hm := HM.out
              go_roundg (gk - 1)
              case measure => omega
              case rel => exact ⟨m + 1, by omega, by simp, HE.out _⟩
            · have HE := Lib.hid (HNo.out (by simp [sstep, hc]))
              have hd : decide (((chs (x :: l) : Nat) : Int) < ((chs (h1 :: r1) : Nat) : Int)) = false := by simp; omega
              clear HSt HNo hbo hc
              generalize ((chs (x :: l) : Nat) : Int) = m1 at n1 hd
              generalize ((chs (h1 :: r1) : Nat) : Int) = m2 at d1 hd
              go_wp2
              go_quiet (fail)
              go_wp2
              have hm := HM.out
              go_roundg (gk - 1)
              case measure => omega
              case rel => exact ⟨m + 1, by omega, by simp, HE.out _⟩
        · have hm0 : m = hs.length := by omega
          subst hm0
          have HA := Lib.hid hA
          clear hA hm
          go_wp2_with (fail)
          (go_at_call 28; refine (take_any lo Q v ps R _ HA.out.q HA.out.r).mono ?_; rintro e w5 ⟨p', v', ps', rfl, hq5, hr5, hc5, hf5⟩)
          have HE : Hid (AhO w w5 lo Q A (.slice a hs.length cap) hs (D ++ [l]) R (.pointer p') (.bool (!R.isEmpty))) := ⟨p', v', ps', rfl, rfl, (HA.out.next hq5 hr5 hc5 hf5).congr fun i hi => ahf_last hi⟩
          clear hq5 hr5 hc5 hf5
          go_wp2
          have hk := HK.out
          simp only [List.length_cons] at hk
          go_roundg R.length
          case measure => omega
          case rel => exact ⟨D ++ [l], R, by rw [List.append_assoc]; exact HD.out, rfl, HE.out⟩
end Go.Proofs.YthnofdkkocpjhaaDoor
