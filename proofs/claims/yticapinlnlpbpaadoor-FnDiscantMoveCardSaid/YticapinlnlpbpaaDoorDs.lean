/-
  Two parts beat by beat, in the model.
-/
import Derived.Test.YticapinlnlpbpaaDoorSp8
import Derived.Deep.RegionWith
namespace Go.Proofs.YticapinlnlpbpaaDoor
open Go.RowKit
set_option maxRecDepth 100000
set_option linter.unusedVariables false

theorem pbt_in (xs : List Vc) : -1 ≤ pbt xs ∧ pbt xs ≤ 24 := by
  cases hp : pval xs with
  | false => rw [pbt_no hp]; omega
  | true => rw [pbt_yes hp]; have := pval_in hp; have := bsm_in this.1; omega

set_option maxHeartbeats 2000000 in
theorem sDiscantTogether_any (v u : Value) (xs ys : List Vc) (w : World) (h : VV w v xs) (k : VV w u ys) : Calls Tryd.prog 45 #[v, u] w fun e w' => e = .returned (.bool (tog xs ys)) ∧ Below w.heap.size w w' := by
  have H1 := Lib.hid (fun w' (hb : Below w.heap.size w w') => sPartBeats_any v xs w' (h.below (w' := w') hb))
  have H2 := Lib.hid (fun w' (hb : Below w.heap.size w w') => sPartBeats_any u ys w' (k.below (w' := w') hb))
  clear h k
  cases hp : pval xs with
  | false =>
    rw [pbt_no hp] at H1
    rw [tog_no1 hp]
    clear hp
    go_enter Tryd.func45, Tryd.ntmps45
    go_wp2_with (fail)
    (go_at_call 77; refine (H1.out _ (Below.refl _ _)).mono ?_; rintro e w1 ⟨rfl, hb1⟩)
    have HB := Lib.hid hb1
    clear hb1
    go_wp2
    go_ret
    exact ⟨rfl, HB.out⟩
  | true =>
    have hb0 := bsm_in (pval_in hp).1
    have e : tog xs ys = (pbt xs == pbt ys) := by
      cases hq : pval ys with
      | false => rw [tog_no2 hq, pbt_no hq, pbt_yes hp]; symm; rw [beq_eq_false_iff_ne]; omega
      | true => rw [pbt_yes hp, pbt_yes hq]; simp [tog, hp, hq]
    rw [e]
    have g0 : 0 ≤ pbt xs := by rw [pbt_yes hp]; omega
    clear e hp hb0
    generalize pbt xs = x at H1 g0 ⊢
    generalize pbt ys = y at H2 ⊢
    have g1 : decide (0 ≤ x) = true := decide_eq_true g0
    go_enter Tryd.func45, Tryd.ntmps45
    go_wp2_with (fail)
    (go_at_call 77; refine (H1.out _ (Below.refl _ _)).mono ?_; rintro e w1 ⟨rfl, hb1⟩)
    have HB1 := Lib.hid hb1
    clear hb1
    go_wp2_with (fail)
    (go_at_call 77; refine (H1.out _ HB1.out).mono ?_; rintro e w2 ⟨rfl, hb2⟩)
    have HB2 := Lib.hid (bl_step HB1.out hb2)
    clear hb2
    go_wp2_with (fail)
    (go_at_call 77; refine (H2.out _ HB2.out).mono ?_; rintro e w3 ⟨rfl, hb3⟩)
    have HB3 := Lib.hid (bl_step HB2.out hb3)
    clear hb3
    go_wp2
    go_ret
    exact ⟨rfl, HB3.out⟩

theorem tone_field (a : Int) (b : Bool) (W : World) : (Instr.field 41 (.agg #[.int .i64 a, .bool b]) 0).run Tryd.prog W = .ok (.int .i64 a) W := rfl

/-- what is known of two parts that are together -/
theorem tog_facts {xs ys : List Vc} (h : tog xs ys = true) : (xs.all vok = true ∧ xs.length ≤ 12) ∧ (ys.all vok = true ∧ ys.length ≤ 12) ∧ ∃ n : Nat, n ≤ 24 ∧ bsm xs = (n : Int) ∧ bsm ys = (n : Int) ∧ (snd8 xs).length = n ∧ (snd8 ys).length = n := by
  obtain ⟨h1, h2, h3⟩ := tog_in h
  have a := pval_in h1
  have b := pval_in h2
  have la := snd_len a.1
  have lb := snd_len b.1
  exact ⟨⟨a.1, a.2.1⟩, ⟨b.1, b.2.1⟩, (snd8 xs).length, by omega, la.symm, by omega, rfl, by omega⟩

set_option maxHeartbeats 4000000 in
theorem sDiscantCross_any (v u : Value) (xs ys : List Vc) (w : World) (h : VV w v xs) (k : VV w u ys) : Calls Tryd.prog 39 #[v, u] w fun e w' => e = .returned (.int .i64 (dcr xs ys)) ∧ Below w.heap.size w w' := by
  have HT := Lib.hid (sDiscantTogether_any v u xs ys w h k)
  cases ht : tog xs ys with
  | false =>
    rw [ht] at HT
    rw [show dcr xs ys = -1 by simp [dcr, ht]]
    clear ht h k
    go_enter Tryd.func39, Tryd.ntmps39
    go_wp2_with (fail)
    (go_at_call 45; refine (HT.out).mono ?_; rintro e w1 ⟨rfl, hb1⟩)
    have HB := Lib.hid hb1
    clear hb1
    go_wp2
    go_ret
    exact ⟨rfl, HB.out⟩
  | true =>
    rw [ht] at HT
    obtain ⟨⟨ax, lx⟩, ⟨ay, ly⟩, n, hn, bx, by8, sx, sy⟩ := tog_facts ht
    rw [show dcr xs ys = cnt (crs (snd8 xs) (snd8 ys)) n by simp [dcr, ht, sx]]
    have HL := Lib.hid (fun w' (hb : Below w.heap.size w w') => l8Beats_any v xs w' (h.below (w' := w') hb) ax lx)
    have HA := Lib.hid (fun w' (hb : Below w.heap.size w w') (j : Nat) (hj : j < n) => l8At_any v xs j w' (h.below (w' := w') hb) ax lx (by omega))
    have HC := Lib.hid (fun w' (hb : Below w.heap.size w w') (j : Nat) (hj : j < n) => l8At_any u ys j w' (k.below (w' := w') hb) ay ly (by omega))
    rw [bx] at HL
    clear ht h k bx by8 sx sy ax ay
    generalize snd8 xs = ts at HA ⊢
    generalize snd8 ys = us at HC ⊢
    have hfd := tone_field
    go_enter Tryd.func39, Tryd.ntmps39
    go_wp2_with (fail)
    (go_at_call 45; refine (HT.out).mono ?_; rintro e w1 ⟨rfl, hb1⟩)
    have HB := Lib.hid hb1
    clear hb1 HT
    go_wp2
    go_loopw [5, 6] (fun m i wr => ∃ j : Nat, j ≤ n ∧ i = .int .i64 (j : Int) ∧ m = .int .i64 (cnt (crs ts us) j) ∧ Below w.heap.size w wr) (fun _ i _ => n - (intOf i).toNat)
    case atStart => exact ⟨0, by omega, rfl, rfl, HB.out⟩
    case round =>
      obtain ⟨j, hj, rfl, rfl, hb⟩ := hrel
      have HW := Lib.hid hb
      clear hb
      by_cases hlt : j < n
      · have hc := cnt_in (crs ts us) j
        have hcr : crs ts us j = decide ((tnA us j).1 < (tnA ts j).1) := rfl
        have HA1 := Lib.hid (fun w' hb => HA.out w' hb j hlt)
        have HC1 := Lib.hid (fun w' hb => HC.out w' hb j hlt)
        generalize tnA ts j = x at HA1 hcr
        generalize tnA us j = y at HC1 hcr
        go_wp2_with (fail)
        (go_at_call 46; refine (HL.out _ HW.out).mono ?_; rintro e wx ⟨rfl, rfl⟩)
        go_wp2_with (fail)
        (go_at_call 48; refine (HA1.out _ HW.out).mono ?_; rintro e w2 ⟨rfl, hb2⟩)
        have HW2 := Lib.hid (bl_step HW.out hb2)
        clear hb2
        go_wp2_with (fail)
        (go_at_call 48; refine (HC1.out _ HW2.out).mono ?_; rintro e w3 ⟨rfl, hb3⟩)
        have HW3 := Lib.hid (bl_step HW2.out hb3)
        clear hb3
        cases hx : crs ts us j with
        | true =>
          have HX := Lib.hid (cnt_hit hx)
          rw [hx] at hcr
          have g1 : decide (y.1 < x.1) = true := hcr.symm
          have g2 : y.1 < x.1 := of_decide_eq_true g1
          generalize cnt (crs ts us) j = z at hc HX ⊢
          have wz : IntKind.i64.wrap (z + 1) = z + 1 := IntWalk.i64_in _ (by omega)
          clear hx hcr
          go_wp2
          go_roundw
          case rel => exact ⟨j + 1, by omega, by go_num, by rw [HX.out], HW3.out⟩
          case measure => simp [intOf]; omega
        | false =>
          have HX := Lib.hid (cnt_miss hx)
          rw [hx] at hcr
          have g1 : decide (y.1 < x.1) = false := hcr.symm
          clear hx hcr
          go_wp2
          go_roundw
          case rel => exact ⟨j + 1, by omega, by go_num, by rw [HX.out], HW3.out⟩
          case measure => simp [intOf]; omega
      · have hjn : j = n := by omega
        subst hjn
        go_wp2_with (fail)
        (go_at_call 46; refine (HL.out _ HW.out).mono ?_; rintro e wx ⟨rfl, rfl⟩)
        go_wp2
        go_ret
        exact ⟨rfl, HW.out⟩

set_option maxHeartbeats 4000000 in
theorem l8Moves_any (v u : Value) (xs ys : List Vc) (n j : Nat) (w : World) (h : VV w v xs) (k : VV w u ys) (ax : xs.all vok = true) (lx : xs.length ≤ 12) (ay : ys.all vok = true) (ly : ys.length ≤ 12) (bx : bsm xs = (n : Int)) (by8 : bsm ys = (n : Int)) (hj : j + 1 < n) (hn : n ≤ 24) :
    Calls Tryd.prog 54 #[v, u, .int .i64 (j : Int)] w fun e w' => e = .returned (.tuple #[.int .i64 (chg8 (snd8 xs) j), .int .i64 (chg8 (snd8 ys) j)]) ∧ Below w.heap.size w w' := by
  have HA1 := Lib.hid (fun w' (hb : Below w.heap.size w w') => l8At_any v xs j w' (h.below (w' := w') hb) ax lx (by omega))
  have HA2 : Hid (∀ w', Below w.heap.size w w' → Calls Tryd.prog 48 #[v, .int .i64 ((j : Int) + 1)] w' fun e w2 => e = .returned (.agg #[.int .i64 (tnA (snd8 xs) (j + 1)).1, .bool (tnA (snd8 xs) (j + 1)).2]) ∧ Below w'.heap.size w' w2) := fun w' hb => by
    have h9 := l8At_any v xs (j + 1) w' (h.below (w' := w') hb) ax lx (by omega)
    rw [show ((j + 1 : Nat) : Int) = (j : Int) + 1 by omega] at h9
    exact h9
  have HC1 := Lib.hid (fun w' (hb : Below w.heap.size w w') => l8At_any u ys j w' (k.below (w' := w') hb) ay ly (by omega))
  have HC2 : Hid (∀ w', Below w.heap.size w w' → Calls Tryd.prog 48 #[u, .int .i64 ((j : Int) + 1)] w' fun e w2 => e = .returned (.agg #[.int .i64 (tnA (snd8 ys) (j + 1)).1, .bool (tnA (snd8 ys) (j + 1)).2]) ∧ Below w'.heap.size w' w2) := fun w' hb => by
    have h9 := l8At_any u ys (j + 1) w' (k.below (w' := w') hb) ay ly (by omega)
    rw [show ((j + 1 : Nat) : Int) = (j : Int) + 1 by omega] at h9
    exact h9
  have la := snd_len ax
  have lb := snd_len ay
  have r1 := vd_in (tnA_valid ax (k := j) (by omega))
  have r2 := vd_in (tnA_valid ax (k := j + 1) (by omega))
  have r3 := vd_in (tnA_valid ay (k := j) (by omega))
  have r4 := vd_in (tnA_valid ay (k := j + 1) (by omega))
  unfold chg8
  clear h k ax ay lx ly bx by8 la lb
  generalize tnA (snd8 xs) j = x1 at HA1 r1 ⊢
  generalize tnA (snd8 xs) (j + 1) = x2 at HA2 r2 ⊢
  generalize tnA (snd8 ys) j = y1 at HC1 r3 ⊢
  generalize tnA (snd8 ys) (j + 1) = y2 at HC2 r4 ⊢
  have wa : IntKind.i64.wrap (x2.1 - x1.1) = x2.1 - x1.1 := IntWalk.i64_in _ (by omega)
  have wb : IntKind.i64.wrap (y2.1 - y1.1) = y2.1 - y1.1 := IntWalk.i64_in _ (by omega)
  have wj : IntKind.i64.wrap ((j : Int) + 1) = (j : Int) + 1 := IntWalk.i64_in _ (by omega)
  have hfd := tone_field
  go_enter Tryd.func54, Tryd.ntmps54
  go_wp2_with (fail)
  (go_at_call 48; refine (HA2.out _ (Below.refl _ _)).mono ?_; rintro e w1 ⟨rfl, hb1⟩)
  have HW1 := Lib.hid hb1
  clear hb1
  go_wp2_with (fail)
  (go_at_call 48; refine (HA1.out _ HW1.out).mono ?_; rintro e w2 ⟨rfl, hb2⟩)
  have HW2 := Lib.hid (bl_step HW1.out hb2)
  clear hb2
  go_wp2_with (fail)
  (go_at_call 48; refine (HC2.out _ HW2.out).mono ?_; rintro e w3 ⟨rfl, hb3⟩)
  have HW3 := Lib.hid (bl_step HW2.out hb3)
  clear hb3
  go_wp2_with (fail)
  (go_at_call 48; refine (HC1.out _ HW3.out).mono ?_; rintro e w4 ⟨rfl, hb4⟩)
  have HW4 := Lib.hid (bl_step HW3.out hb4)
  clear hb4
  go_wp2
  go_ret2
  exact ⟨rfl, HW4.out⟩

theorem mul_in {x y : Int} (h : -20 ≤ x ∧ x ≤ 20) (k : -20 ≤ y ∧ y ≤ 20) : -400 ≤ x * y ∧ x * y ≤ 400 := by
  have h1 := Int.mul_le_mul_of_nonneg_left k.2 (by omega : (0 : Int) ≤ x + 20)
  have h2 := Int.mul_le_mul_of_nonneg_left k.1 (by omega : (0 : Int) ≤ x + 20)
  have h3 : (x + 20) * y = x * y + 20 * y := Int.add_mul _ _ _
  have h4 := Int.mul_le_mul_of_nonneg_left k.2 (by omega : (0 : Int) ≤ 20 - x)
  have h5 := Int.mul_le_mul_of_nonneg_left k.1 (by omega : (0 : Int) ≤ 20 - x)
  have h6 : (20 - x) * y = 20 * y - x * y := Int.sub_mul _ _ _
  omega
end Go.Proofs.YticapinlnlpbpaaDoor
