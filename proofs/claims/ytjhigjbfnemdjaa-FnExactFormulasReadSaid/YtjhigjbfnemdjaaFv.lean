/-
  What is a formula, and what are formulas, in both programs.
-/
import Derived.Test.YtjhigjbfnemdjaaFm
import Derived.Test.YtjhigjbfnemdjaaFh
import Derived.Test.YtjhigjbfnemdjaaIe
namespace Go.Proofs.Ytjhigjbfnemdjaa
open Go.RowKit
set_option maxRecDepth 100000
set_option linter.unusedVariables false

theorem l6In_any (n lo hi : Int) (w : World) : Calls Try.prog 48 #[.int .i64 n, .int .i64 lo, .int .i64 hi] w fun e w' => e = .returned (.bool (decide (lo ≤ n) && decide (n ≤ hi))) ∧ w = w' := by
  by_cases h : lo ≤ n
  · have e : (decide (lo ≤ n) && decide (n ≤ hi)) = decide (n ≤ hi) := by simp [h]
    rw [e]
    go_enter Try.func48, Try.ntmps48
    go_wp2
    go_ret
    exact ⟨rfl, rfl⟩
  · have e : (decide (lo ≤ n) && decide (n ≤ hi)) = false := by simp [h]
    rw [e]
    go_enter Try.func48, Try.ntmps48
    go_wp2
    go_ret
    exact ⟨rfl, rfl⟩

theorem stq_end {most reach : Int} {xs : List Int} (h : reaches reach xs = true) : stq most reach xs = decide ((xs.length : Int) ≤ most) := by
  unfold stq; rw [h, Bool.true_and]
theorem stq_bad {most reach : Int} {xs : List Int} {k : Nat} (hk : k < xs.length) (h : ¬(-reach ≤ xs.getD k 0 ∧ xs.getD k 0 ≤ reach)) : stq most reach xs = false := by
  unfold stq; rw [reaches_bad hk h]; rfl

set_option maxHeartbeats 2000000 in
theorem stepsValid_any (v : Value) (xs : List Int) (most reach : Int) (hr0 : 0 ≤ reach) (hr1 : reach ≤ 1000) (w : World) (h : IV w v xs) :
    Calls Try.prog 67 #[v, .int .i64 most, .int .i64 reach] w fun e w' => e = .returned (.bool (stq most reach xs)) ∧ w = w' := by
  obtain ⟨a, c, rfl, ha, hc1, hc2⟩ := h
  unfold maxLen at hc2
  have HA := Lib.hid ha
  clear ha
  go_enter Try.func67, Try.ntmps67
  go_wp2
  go_loop [11] (fun i => ∃ k : Nat, k ≤ xs.length ∧ i = .int .i64 k ∧ reaches reach (xs.take k) = true) (fun i => xs.length - (intOf i).toNat)
  case atStart => exact ⟨0, Nat.zero_le _, rfl, by simp [reaches]⟩
  case round =>
    obtain ⟨k, hk, rfl, hq⟩ := hrel
    have HQ := Lib.hid hq
    clear hq
    by_cases hlt : k < xs.length
    · rcases HA.out with h | ⟨A, off, rfl, hA, hc⟩
      · subst h; simp at hlt
      have e1 := hc k hlt
      have hk0 : (0 : Int) ≤ (k : Int) := by omega
      have hk1 : (k : Int) < (xs.length : Int) := by omega
      clear hc
      by_cases hd : -reach ≤ xs.getD k 0 ∧ xs.getD k 0 ≤ reach
      · have HX := Lib.hid (reaches_take HQ.out hlt hd.1 hd.2)
        obtain ⟨hd1, hd2⟩ := hd
        generalize xs.getD k 0 = d at e1 hd1 hd2
        have t1 : decide (d < -reach) = false := by simp; omega
        have t2 : decide (reach < d) = false := by simp; omega
        go_wp2
        go_round
        case rel => exact ⟨k + 1, by omega, by go_num, HX.out⟩
        case measure => simp [intOf]; omega
      · have HX := Lib.hid (stq_bad (most := most) hlt hd)
        generalize xs.getD k 0 = d at e1 hd
        by_cases hd1 : d < -reach
        · have t1 : decide (d < -reach) = true := by simp; omega
          clear hd
          go_wp2
          go_ret
          exact ⟨by rw [HX.out]; rfl, rfl⟩
        · have t1 : decide (d < -reach) = false := by simp; omega
          have t2 : decide (reach < d) = true := by simp; omega
          clear hd
          go_wp2
          go_ret
          exact ⟨by rw [HX.out]; rfl, rfl⟩
    · have hk0 : k = xs.length := by omega
      subst hk0
      have hq2 := HQ.out
      rw [List.take_length] at hq2
      have HE := Lib.hid (stq_end (most := most) hq2)
      clear hq2
      go_wp2
      go_ret
      exact ⟨by rw [HE.out]; rfl, rfl⟩

theorem fo_no1 {xs : List Int} {wt : Int} (h : xs.length = 0) : fo (xs, wt) = false := by unfold fo; simp [h]
theorem fo_no2 {xs : List Int} {wt : Int} (h : stq 5 7 xs = false) : fo (xs, wt) = false := by unfold fo; simp [h]
theorem fo_no3 {xs : List Int} {wt : Int} (h : ¬ 1 ≤ wt) : fo (xs, wt) = false := by unfold fo; simp [h]
theorem fo_no4 {xs : List Int} {wt : Int} (h : ¬ wt ≤ 9) : fo (xs, wt) = false := by unfold fo; simp [h]
theorem fo_ok {xs : List Int} {wt : Int} (h1 : 0 < xs.length) (h2 : stq 5 7 xs = true) (h3 : 1 ≤ wt) (h4 : wt ≤ 9) : fo (xs, wt) = true := by unfold fo; rw [h2, decide_eq_true h1, decide_eq_true h3, decide_eq_true h4]; rfl

set_option maxHeartbeats 2000000 in
theorem formValid_any (v : Value) (xs : List Int) (wt : Int) (w : World) (h : IV w v xs) :
    Calls Try.prog 73 #[.agg #[v, .int .i64 wt]] w fun e w' => e = .returned (.bool (fo (xs, wt))) ∧ Below w.heap.size w w' := by
  have HT := Lib.hid (fun w' (hb : Below w.heap.size w w') => stepsValid_any v xs 5 7 (by omega) (by omega) w' (h.below hb))
  obtain ⟨a, c, rfl, ha, hc1, hc2⟩ := h
  clear ha
  by_cases h1 : xs.length = 0
  · have HX := Lib.hid (fo_no1 (wt := wt) h1)
    have t1 : decide (0 < xs.length) = false := decide_eq_false (by omega)
    go_enter Try.func73, Try.ntmps73
    go_wp2
    go_ret
    exact ⟨by rw [HX.out]; rfl, by (repeat' (first | (with_reducible exact Below.refl _ _) | (with_reducible refine Below.alloc ?_ ?_ _) | (with_reducible refine Below.drew ?_) | (with_reducible refine Below.setCell ?_ ?_ _) | (with_reducible refine bl_step ?_ (by assumption)) | go_size))⟩
  have t1 : decide (0 < xs.length) = true := decide_eq_true (by omega)
  by_cases h2 : stq 5 7 xs = true
  · by_cases h3 : 1 ≤ wt
    · by_cases h4 : wt ≤ 9
      · have HX := Lib.hid (fo_ok (by omega) h2 h3 h4)
        go_enter Try.func73, Try.ntmps73
        go_wp2_with (go_at_call 67; refine (HT.out _ (by (repeat' (first | (with_reducible exact Below.refl _ _) | (with_reducible refine Below.alloc ?_ ?_ _) | (with_reducible refine Below.drew ?_) | (with_reducible refine Below.setCell ?_ ?_ _) | (with_reducible refine bl_step ?_ (by assumption)) | go_size)))).mono ?_; rintro e w1 ⟨rfl, rfl⟩)
        go_ret
        exact ⟨by rw [HX.out]; rfl, by (repeat' (first | (with_reducible exact Below.refl _ _) | (with_reducible refine Below.alloc ?_ ?_ _) | (with_reducible refine Below.drew ?_) | (with_reducible refine Below.setCell ?_ ?_ _) | (with_reducible refine bl_step ?_ (by assumption)) | go_size))⟩
      · have HX := Lib.hid (fo_no4 (xs := xs) h4)
        have t4 : decide (wt ≤ 9) = false := decide_eq_false h4
        go_enter Try.func73, Try.ntmps73
        go_wp2_with (go_at_call 67; refine (HT.out _ (by (repeat' (first | (with_reducible exact Below.refl _ _) | (with_reducible refine Below.alloc ?_ ?_ _) | (with_reducible refine Below.drew ?_) | (with_reducible refine Below.setCell ?_ ?_ _) | (with_reducible refine bl_step ?_ (by assumption)) | go_size)))).mono ?_; rintro e w1 ⟨rfl, rfl⟩)
        go_ret
        exact ⟨by rw [HX.out]; rfl, by (repeat' (first | (with_reducible exact Below.refl _ _) | (with_reducible refine Below.alloc ?_ ?_ _) | (with_reducible refine Below.drew ?_) | (with_reducible refine Below.setCell ?_ ?_ _) | (with_reducible refine bl_step ?_ (by assumption)) | go_size))⟩
    · have HX := Lib.hid (fo_no3 (xs := xs) h3)
      have t3 : decide (1 ≤ wt) = false := decide_eq_false h3
      go_enter Try.func73, Try.ntmps73
      go_wp2_with (go_at_call 67; refine (HT.out _ (by (repeat' (first | (with_reducible exact Below.refl _ _) | (with_reducible refine Below.alloc ?_ ?_ _) | (with_reducible refine Below.drew ?_) | (with_reducible refine Below.setCell ?_ ?_ _) | (with_reducible refine bl_step ?_ (by assumption)) | go_size)))).mono ?_; rintro e w1 ⟨rfl, rfl⟩)
      go_ret
      exact ⟨by rw [HX.out]; rfl, by (repeat' (first | (with_reducible exact Below.refl _ _) | (with_reducible refine Below.alloc ?_ ?_ _) | (with_reducible refine Below.drew ?_) | (with_reducible refine Below.setCell ?_ ?_ _) | (with_reducible refine bl_step ?_ (by assumption)) | go_size))⟩
  · rw [Bool.not_eq_true] at h2
    have HX := Lib.hid (fo_no2 (wt := wt) h2)
    go_enter Try.func73, Try.ntmps73
    go_wp2_with (go_at_call 67; refine (HT.out _ (by (repeat' (first | (with_reducible exact Below.refl _ _) | (with_reducible refine Below.alloc ?_ ?_ _) | (with_reducible refine Below.drew ?_) | (with_reducible refine Below.setCell ?_ ?_ _) | (with_reducible refine bl_step ?_ (by assumption)) | go_size)))).mono ?_; rintro e w1 ⟨rfl, rfl⟩)
    go_ret
    exact ⟨by rw [HX.out]; rfl, by (repeat' (first | (with_reducible exact Below.refl _ _) | (with_reducible refine Below.alloc ?_ ?_ _) | (with_reducible refine Below.drew ?_) | (with_reducible refine Below.setCell ?_ ?_ _) | (with_reducible refine bl_step ?_ (by assumption)) | go_size))⟩

theorem l6fOne_bad {xs : List Int} {wt : Int} {k : Nat} (hk : k < xs.length) (h : (decide (-7 ≤ xs.getD k 0) && decide (xs.getD k 0 ≤ 7)) = false) : fo (xs, wt) = false := by
  refine fo_no2 (stq_bad hk ?_)
  simpa using h
theorem l6fOne_end {xs : List Int} {wt : Int} (h : reaches 7 xs = true) : fo (xs, wt) = ((decide (1 ≤ (xs.length : Int)) && decide ((xs.length : Int) ≤ 5)) && (decide (1 ≤ wt) && decide (wt ≤ 9))) := by
  unfold fo stq
  rw [h]
  by_cases h1 : 0 < xs.length
  · have : decide (1 ≤ (xs.length : Int)) = true := decide_eq_true (by omega)
    simp [h1, this, Bool.and_assoc]
  · have : decide (1 ≤ (xs.length : Int)) = false := decide_eq_false (by omega)
    simp [h1, this]

set_option maxHeartbeats 2000000 in
theorem l6fOne_any (v : Value) (xs : List Int) (wt : Int) (w : World) (h : IV w v xs) :
    Calls Try.prog 71 #[.agg #[v, .int .i64 wt]] w fun e w' => e = .returned (.bool (fo (xs, wt))) ∧ Below w.heap.size w w' := by
  obtain ⟨a, c, rfl, ha, hc1, hc2⟩ := h
  unfold maxLen at hc2
  have HA := Lib.hid ha
  clear ha
  go_enter Try.func71, Try.ntmps71
  go_wp2
  go_loop [3] (fun i => ∃ k : Nat, k ≤ xs.length ∧ i = .int .i64 k ∧ reaches 7 (xs.take k) = true) (fun i => xs.length - (intOf i).toNat)
  case atStart => exact ⟨0, Nat.zero_le _, rfl, by simp [reaches]⟩
  case round =>
    obtain ⟨k, hk, rfl, hq⟩ := hrel
    have HQ := Lib.hid hq
    clear hq
    by_cases hlt : k < xs.length
    · rcases HA.out with h | ⟨A, off, rfl, hA, hc⟩
      · subst h; simp at hlt
      have e1 : (w.alloc (.cells #[.slice (some ⟨A, off, none⟩) xs.length c, .int .i64 wt] 59)).cell? ⟨A, off + k, none⟩ = some (.int .i64 (xs.getD k 0)) := by
        rw [← hc k hlt]
        exact ((Below.refl w.heap.size w).alloc (Nat.le_refl _) _).cell (p := ⟨A, off + k, none⟩) hA
      have hk0 : (0 : Int) ≤ (k : Int) := by omega
      have hk1 : (k : Int) < (xs.length : Int) := by omega
      clear hc
      by_cases hd : (decide (-7 ≤ xs.getD k 0) && decide (xs.getD k 0 ≤ 7)) = true
      · have hd' : -7 ≤ xs.getD k 0 ∧ xs.getD k 0 ≤ 7 := by simpa using hd
        have HX := Lib.hid (reaches_take (r := 7) HQ.out hlt hd'.1 hd'.2)
        clear hd'
        generalize xs.getD k 0 = d at e1 hd
        have HL := Lib.hid (l6In_any d (-7) 7)
        rw [hd] at HL
        go_wp2_with (fail)
        (go_at_call 48; refine (HL.out _).mono ?_; rintro e wx ⟨rfl, rfl⟩)
        go_wp2
        go_round
        case rel => exact ⟨k + 1, by omega, by go_num, HX.out⟩
        case measure => simp [intOf]; omega
      · rw [Bool.not_eq_true] at hd
        have HX := Lib.hid (l6fOne_bad (wt := wt) hlt hd)
        generalize xs.getD k 0 = d at e1 hd
        have HL := Lib.hid (l6In_any d (-7) 7)
        rw [hd] at HL
        go_wp2_with (fail)
        (go_at_call 48; refine (HL.out _).mono ?_; rintro e wx ⟨rfl, rfl⟩)
        go_wp2
        go_ret
        exact ⟨by rw [HX.out]; rfl, by (repeat' (first | (with_reducible exact Below.refl _ _) | (with_reducible refine Below.alloc ?_ ?_ _) | (with_reducible refine Below.drew ?_) | (with_reducible refine Below.setCell ?_ ?_ _) | (with_reducible refine bl_step ?_ (by assumption)) | go_size))⟩
    · have hk0 : k = xs.length := by omega
      subst hk0
      have hq2 := HQ.out
      rw [List.take_length] at hq2
      have HE := Lib.hid (l6fOne_end (wt := wt) hq2)
      clear hq2
      have HL1 := Lib.hid (l6In_any (xs.length : Int) 1 5)
      have HL2 := Lib.hid (l6In_any wt 1 9)
      cases hb1 : (decide (1 ≤ (xs.length : Int)) && decide ((xs.length : Int) ≤ 5)) with
      | false =>
        rw [hb1] at HL1 HE
        go_wp2_with (fail)
        (go_at_call 48; refine (HL1.out _).mono ?_; rintro e wx ⟨rfl, rfl⟩)
        go_wp2
        go_ret
        exact ⟨by rw [HE.out]; rfl, by (repeat' (first | (with_reducible exact Below.refl _ _) | (with_reducible refine Below.alloc ?_ ?_ _) | (with_reducible refine Below.drew ?_) | (with_reducible refine Below.setCell ?_ ?_ _) | (with_reducible refine bl_step ?_ (by assumption)) | go_size))⟩
      | true =>
        rw [hb1] at HL1 HE
        go_wp2_with (fail)
        (go_at_call 48; refine (HL1.out _).mono ?_; rintro e wx ⟨rfl, rfl⟩)
        go_wp2_with (fail)
        (go_at_call 48; refine (HL2.out _).mono ?_; rintro e wx ⟨rfl, rfl⟩)
        go_wp2
        go_ret
        exact ⟨by rw [HE.out]; rfl, by (repeat' (first | (with_reducible exact Below.refl _ _) | (with_reducible refine Below.alloc ?_ ?_ _) | (with_reducible refine Below.drew ?_) | (with_reducible refine Below.setCell ?_ ?_ _) | (with_reducible refine bl_step ?_ (by assumption)) | go_size))⟩
end Go.Proofs.Ytjhigjbfnemdjaa
