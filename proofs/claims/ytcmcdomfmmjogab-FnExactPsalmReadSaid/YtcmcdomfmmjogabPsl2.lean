/-
  Lists of psalm tones made into the program's, and compared.
-/
import Derived.Test.YtcmcdomfmmjogabPsl
import Derived.Laws.MakeOwn
namespace Go.Proofs.Ytcmcdomfmmjogab
open Go.RowKit
set_option maxRecDepth 100000
set_option linter.unusedVariables false

theorem infoPsalm : (Try.prog.info? 47).map (fun i => (i.zero, i.size, i.bytes)) = some (some (.agg #[.slice none 0 0, .int .i64 0, .bool false, .slice none 0 0, .slice none 0 0]), 5, 88) := by kernel_rfl
/-- k psalm tones have been stored -/
def PsAt (g : Nat) (cur : Array Value) (wr : World) (i : Nat) (p : Psa) : Prop :=
  ∃ v0 v1 v2, cur[i * 5]? = some v0 ∧ cur[i * 5 + 1]? = some (.int .i64 p.tn.1) ∧ cur[i * 5 + 2]? = some (.bool p.tn.2) ∧ cur[i * 5 + 3]? = some v1 ∧ cur[i * 5 + 4]? = some v2 ∧
    TRow wr (g + 1) wr.heap.size v0 p.st ∧ TRow wr (g + 1) wr.heap.size v1 p.mi ∧ TRow wr (g + 1) wr.heap.size v2 p.en
structure PsI (w wr : World) (n : Nat) (ps : List Psa) (k : Nat) : Prop where
  at_ : ∃ cur, wr.heap[w.heap.size]? = some (.cells cur 47 (0, 0)) ∧ cur.size = n * 5 ∧ ∀ i p, i < k → ps[i]? = some p → PsAt w.heap.size cur wr i p
  bl : Below w.heap.size w wr
theorem PsI.next {w wr w2 : World} {n k : Nat} {ps : List Psa} {p : Psa} {v0 v1 v2 : Value} {m1 m2 : Nat} (h : PsI w wr n ps k) (hb : Below wr.heap.size wr w2) (hr : PRow w2 wr.heap.size m1 m2 w2.heap.size v0 v1 v2 p) (hp : ps[k]? = some p) (hk : k < n) (hg : w.heap.size < wr.heap.size) :
    PsI w (((((w2.setCell ⟨w.heap.size, k * 5, none⟩ v0).setCell ⟨w.heap.size, k * 5 + 1, none⟩ (.int .i64 p.tn.1)).setCell ⟨w.heap.size, k * 5 + 2, none⟩ (.bool p.tn.2)).setCell ⟨w.heap.size, k * 5 + 3, none⟩ v1).setCell ⟨w.heap.size, k * 5 + 4, none⟩ v2) n ps (k + 1) := by
  obtain ⟨⟨cur, hh, hsz, hat⟩, hbw⟩ := h
  have hh2 := (hb.block _ hg).trans hh
  refine ⟨⟨((((cur.setIfInBounds (k * 5) v0).setIfInBounds (k * 5 + 1) (.int .i64 p.tn.1)).setIfInBounds (k * 5 + 2) (.bool p.tn.2)).setIfInBounds (k * 5 + 3) v1).setIfInBounds (k * 5 + 4) v2, ?_, by simpa using hsz, fun i q hi hq => ?_⟩, ?_⟩
  · simp [World.setCell, Array.getElem?_modify, hh2]
  · have hset : ∀ {lo hi : Nat} {v : Value} {xs : List (Int × Bool)}, TRow w2 lo hi v xs → w.heap.size < lo → TRow (((((w2.setCell ⟨w.heap.size, k * 5, none⟩ v0).setCell ⟨w.heap.size, k * 5 + 1, none⟩ (.int .i64 p.tn.1)).setCell ⟨w.heap.size, k * 5 + 2, none⟩ (.bool p.tn.2)).setCell ⟨w.heap.size, k * 5 + 3, none⟩ v1).setCell ⟨w.heap.size, k * 5 + 4, none⟩ v2) lo hi v xs := fun h hl => ((((h.set hl).set hl).set hl).set hl).set hl
    have hse : (((((w2.setCell ⟨w.heap.size, k * 5, none⟩ v0).setCell ⟨w.heap.size, k * 5 + 1, none⟩ (.int .i64 p.tn.1)).setCell ⟨w.heap.size, k * 5 + 2, none⟩ (.bool p.tn.2)).setCell ⟨w.heap.size, k * 5 + 3, none⟩ v1).setCell ⟨w.heap.size, k * 5 + 4, none⟩ v2).heap.size = w2.heap.size := by simp [World.setCell]
    by_cases e : i = k
    · subst e
      obtain rfl : p = q := Option.some.inj (hp.symm.trans hq)
      have l0 := hr.le0
      have l1 := hr.le1
      have l2 := hr.le2
      have z := hb.size
      refine ⟨v0, v1, v2, ?_, ?_, ?_, ?_, ?_, ?_, ?_, ?_⟩
      · simp [Array.getElem?_setIfInBounds, hsz]; omega
      · simp [Array.getElem?_setIfInBounds, hsz]; omega
      · simp [Array.getElem?_setIfInBounds, hsz]; omega
      · simp [Array.getElem?_setIfInBounds, hsz]; omega
      · simp [Array.getElem?_setIfInBounds, hsz]; omega
      · rw [hse]; exact hset (hr.st.lohi (by omega) (by omega)) (by omega)
      · rw [hse]; exact hset (hr.mi.lohi (by omega) (by omega)) (by omega)
      · rw [hse]; exact hset (hr.en.lohi (by omega) (by omega)) (by omega)
    · obtain ⟨u0, u1, u2, e0, e1, e2, e3, e4, r0, r1, r2⟩ := hat i q (by omega) hq
      have z := hb.size
      refine ⟨u0, u1, u2, ?_, ?_, ?_, ?_, ?_, ?_, ?_, ?_⟩
      · rw [← e0]; simp only [Array.getElem?_setIfInBounds]; (repeat rw [if_neg (by omega)])
      · rw [← e1]; simp only [Array.getElem?_setIfInBounds]; (repeat rw [if_neg (by omega)])
      · rw [← e2]; simp only [Array.getElem?_setIfInBounds]; (repeat rw [if_neg (by omega)])
      · rw [← e3]; simp only [Array.getElem?_setIfInBounds]; (repeat rw [if_neg (by omega)])
      · rw [← e4]; simp only [Array.getElem?_setIfInBounds]; (repeat rw [if_neg (by omega)])
      · rw [hse]; exact hset ((r0.below hb (.inr (Nat.le_refl _))).lohi (Nat.le_refl _) z) (by omega)
      · rw [hse]; exact hset ((r1.below hb (.inr (Nat.le_refl _))).lohi (Nat.le_refl _) z) (by omega)
      · rw [hse]; exact hset ((r2.below hb (.inr (Nat.le_refl _))).lohi (Nat.le_refl _) z) (by omega)
  · exact (((((bl_step hbw hb).setCell (by simp) _).setCell (by simp) _).setCell (by simp) _).setCell (by simp) _).setCell (by simp) _
theorem PsI.done {w wr : World} {n : Nat} {ps : List Psa} (h : PsI w wr n ps n) (hn : n = ps.length) (hm : n ≤ maxLen) : PLV wr (.slice (some ⟨w.heap.size, 0, none⟩) n n) ps := by
  obtain ⟨⟨cur, hh, hsz, hat⟩, hbw⟩ := h
  have hgs : w.heap.size < wr.heap.size := by
    rcases Nat.lt_or_ge w.heap.size wr.heap.size with h | h
    · exact h
    · rw [Array.getElem?_eq_none h] at hh; cases hh
  refine ⟨_, n, by rw [hn], .inr ⟨w.heap.size, 0, rfl, hgs, fun i p hp => ?_⟩, by omega, hm⟩
  obtain ⟨v0, v1, v2, e0, e1, e2, e3, e4, r0, r1, r2⟩ := hat i p (by rw [hn]; exact (List.getElem?_eq_some_iff.1 hp).1) hp
  refine ⟨v0, v1, v2, ?_, ?_, ?_, ?_, ?_, ⟨_, _, r0⟩, ⟨_, _, r1⟩, ⟨_, _, r2⟩⟩
  all_goals (rw [Nat.zero_add]; simp [World.cell?, hh, e0, e1, e2, e3, e4])

set_option maxHeartbeats 3000000 in
theorem toPsalmS_any (a : Option Addr) (c : Nat) (ps : List Psa) (w : World) (h : PLst ArgL w a ps) (hn : ps.length + szp ps ≤ 1048576) :
    Calls Try.prog 7 #[.slice a ps.length c] w fun e w' => ∃ v, e = .returned v ∧ PLV w' v ps ∧ Below w.heap.size w w' := by
  obtain ⟨i0, hi, hq0, hq1, hq2⟩ := info_parts infoPsalm
  go_enter Try.func7, Try.ntmps7
  go_wp2_with (at_make; refine wpList_make_full _ rfl _ _ 26 rfl w.heap.size 47 i0 (.agg #[.slice none 0 0, .int .i64 0, .bool false, .slice none 0 0, .slice none 0 0]) 5 Try.underlying26 hi hq0 hq1 _ _ _ _ ps.length rfl rfl rfl rfl ?c1 ?c2 ?c3 ?_)
  case c1 => rw [hq2]; omega
  case c2 => unfold maxLen; omega
  case c3 => exact Nat.le_refl _
  intro w1 hown hg
  have h0 : PsI w w1 ps.length ps 0 := by
    obtain ⟨hl, h1 | ⟨g, cap, cur, hv, _, hh, _, _, hsz, _⟩⟩ := hown
    · cases h1.1
    · injection hv with hv1 _ hv2
      injection hv1 with hv1
      injection hv1 with hv1
      subst hv1 hv2
      exact ⟨⟨cur, hh, hsz, fun i p hi _ => absurd hi (Nat.not_lt_zero _)⟩, ⟨hg.os, hg.tape, hg.output, hg.size, fun i hi => hg.block i hi (fun e => by cases e)⟩⟩
  have HI0 := Lib.hid h0
  have HA := Lib.hid (fun W (hb : Below w.heap.size w W) => argPs_below h hb)
  have HGET := Lib.hid (fun i p (hp : ps[i]? = some p) => szp_get hp)
  clear hown hg h0 h
  go_wp2
  go_loopw [4] (fun i wr => ∃ k : Nat, k ≤ ps.length ∧ i = .int .i64 k ∧ PsI w wr ps.length ps k) (fun i _ => ps.length - (intOf i).toNat)
  case atStart => exact ⟨0, Nat.zero_le _, rfl, HI0.out⟩
  case round =>
    obtain ⟨k, hk, rfl, hI⟩ := hrel
    by_cases hlt : k < ps.length
    · obtain ⟨p, hx⟩ := ps_get hlt
      have hne : ps ≠ [] := by rintro rfl; simp at hlt
      have hsz := HGET.out k p hx
      unfold psz at hsz
      rcases HA.out wr hI.bl with h | ⟨A, off, rfl, hA, hc⟩
      · exact absurd h hne
      obtain ⟨v0, v1, v2, e0, e1, e2, e3, e4, ⟨b0, d0, rfl, l0, n0, m0⟩, ⟨b1, d1, rfl, l1, n1, m1⟩, ⟨b2, d2, rfl, l2, n2, m2⟩⟩ := hc k _ hx
      have KT := Lib.hid (toPsalm_any b0 b1 b2 d0 d1 d2 p wr l0 l1 l2 (by omega) (by omega) (by omega))
      unfold PsBuilt at KT
      have hk0 : (0 : Int) ≤ (k : Int) := by omega
      have hk1 : (k : Int) < (ps.length : Int) := by omega
      have HI := Lib.hid hI
      have HX := Lib.hid hx
      have hgs : w.heap.size < wr.heap.size := by
        obtain ⟨⟨cur, hh, _⟩, _⟩ := hI
        rcases Nat.lt_or_ge w.heap.size wr.heap.size with h | h
        · exact h
        · rw [Array.getElem?_eq_none h] at hh; cases hh
      clear hc hne l0 l1 l2 hI hx hsz
      have HN : Hid (∃ n0 n1 n2, p.st.length = n0 ∧ p.mi.length = n1 ∧ p.en.length = n2) := ⟨_, _, _, rfl, rfl, rfl⟩
      obtain ⟨q0, q1, q2, f0, f1, f2⟩ := HN.out
      have F0 := Lib.hid f0
      have F1 := Lib.hid f1
      have F2 := Lib.hid f2
      rw [f0] at KT e0
      rw [f1] at KT e3
      rw [f2] at KT e4
      clear f0 f1 f2 n0 n1 n2 HN
      go_wp2_with (fail)
      (go_at_call 19; refine KT.out.mono ?_; rintro e w2 ⟨u0, u1, u2, j1, j2, rfl, hr, hb2⟩)
      have HNX := Lib.hid (HI.out.next hb2 hr HX.out hlt hgs)
      obtain ⟨⟨cur, hh, hcs, _⟩, _⟩ := HI.out
      have hh2 := (hb2.block _ hgs).trans hh
      have x0 : k * 5 < cur.size := by omega
      have x1 : k * 5 + 1 < cur.size := by omega
      have x2 : k * 5 + 2 < cur.size := by omega
      have x3 : k * 5 + 3 < cur.size := by omega
      have x4 : k * 5 + 4 < cur.size := by omega
      have y0 : w2.cell? ⟨w.heap.size, k * 5, none⟩ = some cur[k * 5] := by simp [World.cell?, hh2, Array.getElem?_eq_getElem x0]
      have y1 : w2.cell? ⟨w.heap.size, k * 5 + 1, none⟩ = some cur[k * 5 + 1] := by simp [World.cell?, hh2, Array.getElem?_eq_getElem x1]
      have y2 : w2.cell? ⟨w.heap.size, k * 5 + 2, none⟩ = some cur[k * 5 + 2] := by simp [World.cell?, hh2, Array.getElem?_eq_getElem x2]
      have y3 : w2.cell? ⟨w.heap.size, k * 5 + 3, none⟩ = some cur[k * 5 + 3] := by simp [World.cell?, hh2, Array.getElem?_eq_getElem x3]
      have y4 : w2.cell? ⟨w.heap.size, k * 5 + 4, none⟩ = some cur[k * 5 + 4] := by simp [World.cell?, hh2, Array.getElem?_eq_getElem x4]
      have df : ∀ o, w2.frozen? ⟨w.heap.size, o, none⟩ = false := fun o => by simp [World.frozen?, hh2]
      obtain ⟨z0, y0c, rfl, _, _⟩ := (LV.sl ⟨_, _, hr.st⟩)
      obtain ⟨z1, y1c, rfl, _, _⟩ := (LV.sl ⟨_, _, hr.mi⟩)
      obtain ⟨z2, y2c, rfl, _, _⟩ := (LV.sl ⟨_, _, hr.en⟩)
      clear hh hh2 hcs hr hb2 HI
      go_wp2
      go_roundw
      case rel => exact ⟨k + 1, by omega, by go_num, HNX.out⟩
      case measure => simp [intOf]; omega
    · have hkn : k = ps.length := by omega
      subst hkn
      have HD := Lib.hid (hI.done rfl (by unfold maxLen; omega))
      have HB := Lib.hid hI.bl
      clear hI
      go_wp2
      go_ret
      exact ⟨_, rfl, HD.out, HB.out⟩

set_option maxHeartbeats 3000000 in
theorem eqPsalmS_yes (v u : Value) (ps : List Psa) (w : World) (h : PLV w v ps) (k : PLV w u ps) :
    Calls Try.prog 9 #[v, u] w fun e w' => e = .returned (.bool true) ∧ Below w.heap.size w w' := by
  have HV := Lib.hid (fun W (hb : Below w.heap.size w W) => h.below hb)
  have HU := Lib.hid (fun W (hb : Below w.heap.size w W) => k.below hb)
  obtain ⟨a, c, rfl, _, hc1, hc2⟩ := h
  obtain ⟨a', c', rfl, _, hc1', hc2'⟩ := k
  unfold maxLen at hc2 hc2'
  go_enter Try.func9, Try.ntmps9
  go_wp2
  go_loopw [5] (fun i wr => ∃ k : Nat, k ≤ ps.length ∧ i = .int .i64 k ∧ Below w.heap.size w wr) (fun i _ => ps.length - (intOf i).toNat)
  case atStart => exact ⟨0, Nat.zero_le _, rfl, Below.refl _ _⟩
  case round =>
    obtain ⟨k, hk, rfl, hb⟩ := hrel
    by_cases hlt : k < ps.length
    · obtain ⟨p, hx⟩ := ps_get hlt
      have hne : ps ≠ [] := by rintro rfl; simp at hlt
      obtain ⟨_, _, q1, hv, _, _⟩ := HV.out wr hb
      injection q1 with q1 q1n q1c; clear q1n q1c
      obtain ⟨_, _, q2, hu, _, _⟩ := HU.out wr hb
      injection q2 with q2 q2n q2c; clear q2n q2c
      rcases hv with h | ⟨A, off, e, hA, hc⟩
      · exact absurd h hne
      rcases hu with h | ⟨A', off', e', hA', hc'⟩
      · exact absurd h hne
      obtain rfl := q1.trans e
      obtain rfl := q2.trans e'
      obtain ⟨v0, v1, v2, e0, e1, e2, e3, e4, l0, l1, l2⟩ := hc k _ hx
      obtain ⟨u0, u1, u2, f0, f1, f2, f3, f4, g0, g1, g2⟩ := hc' k _ hx
      have KE := Lib.hid (fun W (hb' : Below wr.heap.size wr W) => eqPsalm_yes (.agg #[v0, .int .i64 p.tn.1, .bool p.tn.2, v1, v2]) (.agg #[u0, .int .i64 p.tn.1, .bool p.tn.2, u1, u2]) p W ⟨v0, v1, v2, rfl, l0.below hb', l1.below hb', l2.below hb'⟩ ⟨u0, u1, u2, rfl, g0.below hb', g1.below hb', g2.below hb'⟩)
      obtain ⟨x0, y0, rfl, _, _⟩ := l0.sl
      obtain ⟨x1, y1, rfl, _, _⟩ := l1.sl
      obtain ⟨x2, y2, rfl, _, _⟩ := l2.sl
      obtain ⟨x3, y3, rfl, _, _⟩ := g0.sl
      obtain ⟨x4, y4, rfl, _, _⟩ := g1.sl
      obtain ⟨x5, y5, rfl, _, _⟩ := g2.sl
      have hk0 : (0 : Int) ≤ (k : Int) := by omega
      have hk1 : (k : Int) < (ps.length : Int) := by omega
      clear hc hc' hne l0 l1 l2 g0 g1 g2 hx q1 q2 e e'
      go_wp2_with (fail)
      go_region_with (go_at_call 23; refine (KE.out _ (by (repeat' (first | (with_reducible exact Below.refl _ _) | (with_reducible refine Below.alloc ?_ ?_ _) | (with_reducible refine Below.drew ?_) | (with_reducible refine Below.setCell ?_ ?_ _) | (with_reducible refine bl_step ?_ (by assumption)) | go_size)))).mono ?_; rintro e w1 ⟨rfl, hb1⟩; have hbb : Below wr.heap.size wr w1 := by (repeat' (first | (with_reducible exact Below.refl _ _) | (with_reducible refine Below.alloc ?_ ?_ _) | (with_reducible refine Below.drew ?_) | (with_reducible refine Below.setCell ?_ ?_ _) | (with_reducible refine bl_step ?_ (by assumption)) | go_size)))
      all_goals
        go_wp2
        go_roundw
        case rel => exact ⟨k + 1, by omega, by go_num, bl_step hb hbb⟩
        case measure => simp [intOf]; omega
    · go_wp2
      go_ret
      exact ⟨rfl, hb⟩
end Go.Proofs.Ytcmcdomfmmjogab
