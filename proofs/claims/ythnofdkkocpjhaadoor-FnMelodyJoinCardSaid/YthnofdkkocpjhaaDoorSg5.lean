/-
  The list that sings a melody with the fewest mutations: the program's.
-/
import Derived.Test.YthnofdkkocpjhaaDoorSg4
import Derived.Test.YthnofdkkocpjhaaDoorMelB
namespace Go.Proofs.YthnofdkkocpjhaaDoor
open Go.RowKit
set_option maxRecDepth 100000
set_option linter.unusedVariables false

theorem irow_mono {w : World} {lo lo' hi : Nat} {v : Value} {xs : List Int} (h : IRow w lo hi v xs) (hl : lo' ≤ lo) : IRow w lo' hi v xs := by
  obtain ⟨⟨h1, h2⟩, h3⟩ := h
  refine ⟨⟨h1, ?_⟩, h3⟩
  rcases h2 with h2 | ⟨g, cap, cur, hv, hg, r⟩
  · exact .inl h2
  · exact .inr ⟨g, cap, cur, hv, Nat.le_trans hl hg, r⟩
/-- a list that a call has built, and whether there is one -/
def IMade2 (w : World) (xs : List Int) (ok : Bool) (e : Ending) (w' : World) : Prop :=
  ∃ v, e = .returned (.tuple #[v, .bool ok]) ∧ IRow w' w.heap.size w'.heap.size v xs ∧ Below w.heap.size w w'
theorem empty_row {w w1 : World} (hb : Below w.heap.size w w1) : IMade2 w [] false (.returned (.tuple #[.slice (some ⟨w1.heap.size, 0, none⟩) 0 0, .bool false])) (w1.alloc (.cells #[] 3)) :=
  ⟨_, rfl, ⟨⟨by simp, .inr ⟨w1.heap.size, 0, #[], rfl, hb.size, heap_alloc_new w1 _, by simp, by simp [maxLen], by simp, by simp⟩⟩, fun g hg => by
    have : g = w1.heap.size := by simpa [Value.ownBlock] using hg.symm
    subst this; simp⟩, hb.alloc hb.size _⟩

theorem sgs_len (r : List (Int × Bool)) : ∀ l ∈ sgs r, l.length = r.length := by
  cases r with
  | nil => intro l hl; simp [sgs] at hl; subst hl; rfl
  | cons t r => intro l hl; obtain ⟨h, _, rfl⟩ := List.mem_map.1 hl; simp [gre_len]
theorem sgo_app (a b : List (Int × Bool)) : sgo (a ++ b) = (sgo a && sgo b) := by simp [sgo]
theorem sgo_rev {xs D R : List (Int × Bool)} (h : sgo xs = true) (e : D ++ R = xs.reverse) : sgo D.reverse = true := by
  have : xs = R.reverse ++ D.reverse := by rw [← List.reverse_append, e, List.reverse_reverse]
  rw [this, sgo_app, Bool.and_eq_true] at h
  exact h.2
theorem sgs_nonempty {r : List (Int × Bool)} (h : sgo r = true) : sgs r ≠ [] := by
  cases r with
  | nil => simp [sgs]
  | cons t r => simp [sgs]; exact (sgo_cons h).1
theorem bsl_mem (D : List (List Int)) (h : D ≠ []) : bsl D ∈ D := by
  suffices hs : ∀ m : List (List Int), m ≠ [] → bsl m.reverse ∈ m.reverse by
    have := hs D.reverse (by simpa using h)
    rwa [List.reverse_reverse] at this
  intro m
  induction m with
  | nil => intro h; exact absurd rfl h
  | cons x m ih =>
    intro _
    rw [List.reverse_cons, bsl_snoc]
    unfold sstep
    split
    · simp
    · rename_i hn
      by_cases hm : m = []
      · subst hm; exact absurd (.inl rfl) hn
      · exact List.mem_append_left _ (ih hm)

/-- the queue between two tones -/
structure SbO (w wr : World) (lo Q : Nat) (q : Option Addr) (D R : List (Int × Bool)) (v : Value) (ps : List (Option Addr)) : Prop where
  m : Mel wr lo q R
  q : Qs wr lo Q v ps
  r : SgL wr lo ps (sgs D.reverse)
  bl : Below lo w wr
/-- the search for the best -/
structure SbI (w wr : World) (lo Q : Nat) (pb p : Option Addr) (D R : List (List Int)) (v : Value) (ps : List (Option Addr)) : Prop where
  q : Qs wr lo Q v ps
  r : SgL wr lo ps R.tail
  b : Sg wr lo pb (bsl D)
  c : Sg wr lo p (R.headD [])
  bl : Below lo w wr

theorem SbI.drewN {w wr : World} {lo Q : Nat} {pb p : Option Addr} {D R : List (List Int)} {v : Value} {ps : List (Option Addr)} (h : SbI w wr lo Q pb p D R v ps) (n : Nat) : SbI w (wr.drewN n) lo Q pb p D R v ps :=
  have hb : Below wr.heap.size wr (wr.drewN n) := ⟨rfl, rfl, rfl, Nat.le_refl _, fun _ _ => rfl⟩
  ⟨h.q.below hb, h.r.kept (.below hb), h.b.below hb, h.c.below hb, h.bl.trans ⟨rfl, rfl, rfl, Nat.le_refl _, fun _ _ => rfl⟩⟩

set_option maxHeartbeats 8000000 in
theorem singBest_any (lo hi : Nat) (v : Value) (xs : List (Int × Bool)) (w : World) (h : TRow w lo hi v xs) :
    Calls Tryd.prog 9 #[v] w (IMade2 w (sbL xs) (sbB xs)) := by
  by_cases hv : mv xs = false
  · obtain ⟨e1, e2⟩ := sb_no1 hv
    rw [e1, e2]
    have HE := Lib.hid (fun w1 (hb : Below w.heap.size w w1) => empty_row hb)
    have HV := Lib.hid hv
    clear e1 e2 hv
    go_enter Tryd.func9, Tryd.ntmps9
    go_wp2_with (fail)
    (go_at_call 21; refine (newMelody_any lo hi v xs _ h).mono ?_; rintro e w1 ⟨p, rfl, hm, hb1⟩)
    have HE1 := Lib.hid (HE.out w1 hb1)
    rw [HV.out]
    clear hm h hb1
    go_wp2
    go_ret2
    exact HE1.out
  rw [Bool.not_eq_false] at hv
  have HV := Lib.hid hv
  have HM := Lib.hid (mvl_yes hv)
  by_cases hg : sgo xs = false
  · obtain ⟨e1, e2⟩ := sb_no2 hg
    rw [e1, e2]
    have HZ : Hid (sangM xs = 0) := (sangM_yes hv).trans ((manyOf_zero xs).2 hg)
    have HE := Lib.hid (fun w1 (hb : Below w.heap.size w w1) => empty_row hb)
    clear e1 e2 hv hg
    go_enter Tryd.func9, Tryd.ntmps9
    go_wp2_with (fail)
    (go_at_call 21; refine (newMelody_any lo hi v xs _ h).mono ?_; rintro e w1 ⟨p, rfl, hm, hb1⟩)
    rw [HV.out]
    have h1 := h.below hb1 (.inr (Nat.le_refl _))
    clear hm h
    go_wp2_with (fail)
    (go_at_call 10; refine (singMany_any lo hi v xs _ h1).mono ?_; rintro e w2 ⟨rfl, hb2⟩)
    rw [HZ.out]
    have HE1 := Lib.hid (HE.out w2 (bl_step hb1 hb2))
    clear h1 hb1 hb2
    go_wp2
    go_ret2
    exact HE1.out
  rw [Bool.not_eq_false] at hg
  obtain ⟨e1, e2⟩ := sb_yes hv hg
  rw [e1, e2]
  have hz : (sangM xs == 0) = false := by
    rw [beq_eq_false_iff_ne, sangM_yes hv]
    intro e
    rw [(manyOf_zero xs).1 e] at hg
    cases hg
  have hlx : xs.length ≤ 24 := by simp [mv] at hv; exact hv.1
  have HG := Lib.hid hg
  clear e1 e2 hv hg
  have HZ : Hid (∃ n, sangM xs = n ∧ (n == 0) = false) := ⟨_, rfl, hz⟩
  clear hz
  go_enter Tryd.func9, Tryd.ntmps9
  go_wp2_with (fail)
  (go_at_call 21; refine (newMelody_any lo hi v xs _ h).mono ?_; rintro e w1 ⟨p, rfl, hm, hb1⟩)
  rw [HV.out]
  rw [HM.out] at hm
  have h1 := h.below hb1 (.inr (Nat.le_refl _))
  clear h
  go_wp2_with (fail)
  (go_at_call 10; refine (singMany_any lo hi v xs _ h1).mono ?_; rintro e w2 ⟨rfl, hb2⟩)
  obtain ⟨n, en, hn⟩ := HZ.out
  rw [en]
  have hm2 := hm.below hb2
  have hb2' := bl_step hb1 hb2
  have hs2 := hb2'.size
  have hq2 : Qs (w2.alloc (.cells #[.slice none 0 0] 56)) w.heap.size w2.heap.size (.slice none 0 0) [] := ⟨heap_alloc_new w2 _, hs2, .inl ⟨rfl, rfl⟩⟩
  have HM2 := Lib.hid (hm2.below ((Below.refl _ _).alloc (Nat.le_refl _) (.cells #[.slice none 0 0] 56)))
  have HQ2 := Lib.hid hq2
  have HB2 := Lib.hid (hb2'.alloc hs2 (.cells #[.slice none 0 0] 56))
  clear hm hb1 h1 hb2 en HZ hm2 hb2' hq2
  go_wp2_with (fail)
  (go_at_call 25; refine (put_any w.heap.size w2.heap.size (.slice none 0 0) [] none _ HQ2.out (by simp)).mono ?_; rintro e w3 ⟨rfl, v3, hq3, hf3⟩)
  have hk3 := Kt.fr HQ2.out hf3
  have HM3 := Lib.hid (HM2.out.kt hk3)
  have HQ3 := Lib.hid hq3
  have HB3 := Lib.hid (HB2.out.trans hf3.bl)
  clear hq3 hf3 hk3 HQ2 HB2 HM2 HV
  generalize w2.heap.size = Q at hs2 HQ3 ⊢
  go_wp2_with (fail)
  (go_at_call 26; refine (back_any _ _ _ _ HM3.out).mono ?_; rintro e w4 ⟨q, rfl, hm4, hb4⟩)
  have h4 : ∃ (D R : List (Int × Bool)), D ++ R = xs.reverse ∧ R.length = xs.length ∧ ∃ q' v ps, (Value.pointer q) = .pointer q' ∧ SbO w w4 w.heap.size Q q' D R v ps :=
    ⟨[], xs.reverse, rfl, by simp, q, v3, [none], rfl, hm4.mono HB3.out.size, HQ3.out.below hb4, ⟨rfl, trivial⟩, bl_step HB3.out hb4⟩
  have H4 := Lib.hid h4
  clear h4 hm4 hb4 HM3 HQ3 HB3
  go_wp2
  go_loopg [7] xs.length (fun k m wr => ∃ (D R : List (Int × Bool)), D ++ R = xs.reverse ∧ R.length = k ∧ ∃ q' v ps, m = .pointer q' ∧ SbO w wr w.heap.size Q q' D R v ps)
  case atStart => exact H4.out
  case round =>
    clear H4
    obtain ⟨D, R, hD, hk, q, v, ps, rfl, hO⟩ := hrel
    have HD := Lib.hid hD
    cases R with
    | cons t R =>
      obtain ⟨s, b⟩ := t
      obtain ⟨B, r, rfl, hlo, hh, hr⟩ := hO.m
      have c0 : wr.cell? ⟨B, 0, none⟩ = some (.int .i64 s) := by simp [World.cell?, hh]
      have c1 : wr.cell? ⟨B, 1, none⟩ = some (.bool b) := by simp [World.cell?, hh]
      have HH := Lib.hid hh
      have hgo := sgo_rev HG.out hD
      have hle : ∀ l ∈ sgs D.reverse, l.length ≤ 1000 := fun l hl => by
        rw [sgs_len _ l hl, List.length_reverse]
        have : (D ++ (s, b) :: R).length = xs.length := by rw [hD]; simp
        simp at this
        omega
      have HK := Lib.hid hk
      have HO := Lib.hid hO
      have HR := Lib.hid hr
      clear hD hk hO hr hh
      go_wp2_with (fail)
      (go_at_call 27; refine (singAhead_any s b w.heap.size Q v ps (sgs D.reverse) _ HO.out.q HO.out.r hle).mono ?_; rintro e w5 ⟨rfl, v5, ps5, hq5, hr5, hb5, hk5⟩)
      have c2' : w5.cell? ⟨B, 2, none⟩ = some (.pointer r) := by
        have h5 := hk5 B _ _ _ (.inr (.inr rfl)) HH.out
        simp [World.cell?, h5]
      have HE : Hid (SbO w w5 w.heap.size Q r (D ++ [(s, b)]) R v5 ps5) := ⟨HR.out.kt hk5, hq5, by
        rw [List.reverse_append]
        show SgL w5 w.heap.size ps5 (sgs ((s, b) :: D.reverse))
        rw [← sgs_step hgo]
        show SgL w5 w.heap.size ps5 ((hall s b 21).map _)
        rw [hall_rall]
        exact hr5, HO.out.bl.trans hb5⟩
      clear hq5 hr5 hb5 hk5 c0 c1 hgo hle
      go_wp2
      have hk := HK.out
      simp only [List.length_cons] at hk
      go_roundg R.length
      case measure => omega
      case rel => exact ⟨D ++ [(s, b)], R, by rw [List.append_assoc]; exact HD.out, rfl, r, v5, ps5, rfl, HE.out⟩
    | nil =>
      have hDl : D = xs.reverse := by simpa using hD
      have hq0 : q = none := hO.m
      subst hq0
      have hrr := hO.r
      rw [hDl, List.reverse_reverse] at hrr
      have hE := bsl_sgs HG.out
      have hN := sgs_nonempty HG.out
      have hX : ∀ l ∈ sgs xs, sgs xs ≠ [l] → l ≠ [] := fun l hl hne => by
        cases hxs : xs with
        | nil => rw [hxs] at hl hne; simp [sgs] at hl; subst hl; exact absurd rfl hne
        | cons t r => rw [hxs] at hl; exact sgs_ne l hl
      have hlb : (sgb xs).length ≤ 1000 := by rw [sgb_len]; omega
      generalize sgs xs = S at hrr hE hN hX
      cases S with
      | nil => exact absurd rfl hN
      | cons b0 R0 =>
        have HX := Lib.hid hX
        have HEq := Lib.hid hE
        have HR := Lib.hid hrr
        have HO := Lib.hid hO.q
        have HB := Lib.hid hO.bl
        clear hX hE hrr hO hN hDl HD hD hk
        go_wp2_with (fail)
        (go_at_call 28; refine (take_any w.heap.size Q v ps (b0 :: R0) _ HO.out HR.out).mono ?_; rintro e w5 ⟨p5, v5, ps5, rfl, hq5, hr5, hc5, hf5⟩)
        have HQ5 := Lib.hid hq5
        have HR5 := Lib.hid (show SgL w5 w.heap.size ps5 R0 from hr5)
        have HC5 := Lib.hid (show Sg w5 w.heap.size p5 b0 from hc5)
        have HB5 := Lib.hid (HB.out.trans hf5.bl)
        clear hq5 hr5 hc5 hf5
        go_wp2_with (fail)
        (go_at_call 28; refine (take_any w.heap.size Q v5 ps5 R0 _ HQ5.out HR5.out).mono ?_; rintro e w6 ⟨p6, v6, ps6, rfl, hq6, hr6, hc6, hf6⟩)
        have H6 : Hid (∃ (D R : List (List Int)) (pb p : Option Addr) (v : Value) (ps : List (Option Addr)), D ++ R = b0 :: R0 ∧ D ≠ [] ∧ R.length = R0.length ∧ (Value.pointer p5) = .pointer pb ∧ (Value.pointer p6) = .pointer p ∧ (Value.bool (!R0.isEmpty)) = .bool (!R.isEmpty) ∧ SbI w w6 w.heap.size Q pb p D R v ps) :=
          ⟨[b0], R0, p5, p6, v6, ps6, rfl, by simp, rfl, rfl, rfl, rfl, hq6, hr6, by
            have : bsl [b0] = b0 := by simp [bsl, sstep]
            rw [this]
            exact HC5.out.kept (Kt.fr HQ5.out hf6).sgs, hc6, HB5.out.trans hf6.bl⟩
        clear hq6 hr6 hc6 hf6 HQ5 HR5 HC5 HB5 HR HO HB
        go_wp2
        go_loopg [8, 10, 11] R0.length (fun k y z o wr => ∃ (D R : List (List Int)) (pb p : Option Addr) (v : Value) (ps : List (Option Addr)), D ++ R = b0 :: R0 ∧ D ≠ [] ∧ R.length = k ∧ y = .pointer pb ∧ z = .pointer p ∧ o = .bool (!R.isEmpty) ∧ SbI w wr w.heap.size Q pb p D R v ps)
        case atStart => exact H6.out
        case round =>
          clear H6
          obtain ⟨D, R, pb, p, v, ps, hD, hDn, hk, rfl, rfl, rfl, hI⟩ := hrel
          cases R with
          | nil =>
            have hDl : D = b0 :: R0 := by simpa using hD
            have hb := hI.b
            rw [hDl, HEq.out] at hb
            have HBl := Lib.hid hI.bl
            clear hI hD hDn hk hDl
            go_wp2_with (fail)
            (go_at_call 29; refine (songSteps_any pb (sgb xs) w.heap.size _ hb hlb).mono ?_; rintro e w7 ⟨u, rfl, hu, hb7⟩)
            have HE : Hid (IMade2 w (sgb xs) true (.returned (.tuple #[u, .bool true])) w7) := ⟨u, rfl, irow_mono hu HBl.out.size, bl_step HBl.out hb7⟩
            clear hb hu hb7
            go_wp2
            go_ret2
            exact HE.out
          | cons l R =>
            have hmem := bsl_mem D hDn
            have hn2 : ∀ x, b0 :: R0 ≠ [x] := fun x e => by
              rw [← hD] at e
              have := congrArg List.length e
              have hDp := List.length_pos_iff.2 hDn
              simp at this
              omega
            have n1 : bsl D ≠ [] := HX.out _ (by rw [← hD]; exact List.mem_append_left _ hmem) (hn2 _)
            have n2 : l ≠ [] := HX.out _ (by rw [← hD]; simp) (hn2 _)
            have hst : sstep (bsl D) l = if chs l < chs (bsl D) then l else bsl D := by simp [sstep, n1]
            have hD2 : (D ++ [l]) ++ R = b0 :: R0 := by rw [List.append_assoc]; exact hD
            have hb := hI.b
            have hc : Sg wr w.heap.size p l := hI.c
            have HS1 := Lib.hid (bsl_snoc D l)
            have HI := Lib.hid hI
            have HD2 := Lib.hid hD2
            have HST := Lib.hid hst
            have HK := Lib.hid hk
            obtain ⟨x1, l1, rfl⟩ := List.exists_cons_of_ne_nil n2
            obtain ⟨y1, t1, hy⟩ := List.exists_cons_of_ne_nil n1
            rw [hy] at hb
            obtain ⟨Bb, q1, rfl, _, _, _, d2, _, _⟩ := hb.head
            obtain ⟨Bc, q2, rfl, _, _, _, d1, _, _⟩ := hc.head
            rw [hy] at hst
            clear hI hD hDn hk hmem hn2 n1 n2 hD2
            by_cases hcc : chs (x1 :: l1) < chs (y1 :: t1)
            · have hs2 : sstep (bsl D) (x1 :: l1) = x1 :: l1 := by rw [hy, hst, if_pos hcc]
              have hd : decide (((chs (x1 :: l1) : Nat) : Int) < ((chs (y1 :: t1) : Nat) : Int)) = true := by simp; exact hcc
              clear hst hy
              clear hb hc HST hcc
              generalize ((chs (x1 :: l1) : Nat) : Int) = m1 at d1 hd
              generalize ((chs (y1 :: t1) : Nat) : Int) = m2 at d2 hd
              go_wp2
              go_quiet (fail)
              go_wp2_with (fail)
              (go_at_call 28; refine (take_any w.heap.size Q v ps R _ (HI.out.drewN _).q (HI.out.drewN _).r).mono ?_; rintro e w6 ⟨p6, v6, ps6, rfl, hq6, hr6, hc6, hf6⟩)
              have hkk := Kt.fr (HI.out.drewN _).q hf6
              have HE : Hid (SbI w w6 w.heap.size Q (some ⟨Bc, 0, none⟩) p6 (D ++ [x1 :: l1]) R v6 ps6) := ⟨hq6, hr6, by
                rw [HS1.out, hs2]
                exact (HI.out.drewN _).c.kept hkk.sgs, hc6, (HI.out.drewN _).bl.trans hf6.bl⟩
              clear hq6 hr6 hc6 hf6 hkk hs2
              go_wp2
              have hk := HK.out
              simp only [List.length_cons] at hk
              go_roundg R.length
              case measure => omega
              case rel => exact ⟨D ++ [x1 :: l1], R, _, _, v6, ps6, HD2.out, by simp, rfl, rfl, rfl, rfl, HE.out⟩
            · have hs2 : sstep (bsl D) (x1 :: l1) = bsl D := by rw [hy, hst, if_neg hcc]
              have hd : decide (((chs (x1 :: l1) : Nat) : Int) < ((chs (y1 :: t1) : Nat) : Int)) = false := by simp; omega
              clear hst hy
              clear hb hc HST hcc
              generalize ((chs (x1 :: l1) : Nat) : Int) = m1 at d1 hd
              generalize ((chs (y1 :: t1) : Nat) : Int) = m2 at d2 hd
              go_wp2
              go_quiet (fail)
              go_wp2_with (fail)
              (go_at_call 28; refine (take_any w.heap.size Q v ps R _ (HI.out.drewN _).q (HI.out.drewN _).r).mono ?_; rintro e w6 ⟨p6, v6, ps6, rfl, hq6, hr6, hc6, hf6⟩)
              have hkk := Kt.fr (HI.out.drewN _).q hf6
              have HE : Hid (SbI w w6 w.heap.size Q (some ⟨Bb, 0, none⟩) p6 (D ++ [x1 :: l1]) R v6 ps6) := ⟨hq6, hr6, by
                rw [HS1.out, hs2]
                exact (HI.out.drewN _).b.kept hkk.sgs, hc6, (HI.out.drewN _).bl.trans hf6.bl⟩
              clear hq6 hr6 hc6 hf6 hkk hs2
              go_wp2
              have hk := HK.out
              simp only [List.length_cons] at hk
              go_roundg R.length
              case measure => omega
              case rel => exact ⟨D ++ [x1 :: l1], R, _, _, v6, ps6, HD2.out, by simp, rfl, rfl, rfl, rfl, HE.out⟩
end Go.Proofs.YthnofdkkocpjhaaDoor
