/-
  The contracts of the small functions on tones, second part: impl's wrappers, spec's functions, the laws' helpers.
-/
import Derived.Test.YtcmcdomfmmjogaaTone
namespace Go.Proofs.Ytcmcdomfmmjogaa
open Go.RowKit
set_option maxRecDepth 100000
set_option linter.unusedVariables false

theorem in_any (n lo hi : Int) (w : World) :
    Calls Try.prog 84 #[.int .i64 n, .int .i64 lo, .int .i64 hi] w fun e w' => e = .returned (.bool (decide (lo ≤ n) && decide (n ≤ hi))) ∧ w = w' := by
  by_cases h : lo ≤ n
  · go_enter Try.func84, Try.ntmps84
    go_wp2
    go_ret
    exact ⟨by simp [h], rfl⟩
  · go_enter Try.func84, Try.ntmps84
    go_wp2
    go_ret
    exact ⟨by simp; omega, rfl⟩

theorem in_no (n lo hi : Int) (h : n < lo ∨ hi < n) (w : World) :
    Calls Try.prog 84 #[.int .i64 n, .int .i64 lo, .int .i64 hi] w fun e w' => e = .returned (.bool false) ∧ w = w' := by
  have e : (decide (lo ≤ n) && decide (n ≤ hi)) = false := by simp; omega
  rw [← e]
  exact in_any n lo hi w

theorem in_yes (n lo hi : Int) (h : lo ≤ n) (k : n ≤ hi) (w : World) :
    Calls Try.prog 84 #[.int .i64 n, .int .i64 lo, .int .i64 hi] w fun e w' => e = .returned (.bool true) ∧ w = w' := by
  have e : (decide (lo ≤ n) && decide (n ≤ hi)) = true := by simp; omega
  rw [← e]
  exact in_any n lo hi w

theorem l1Letter_any (s : Int) (h0 : 0 ≤ s) (w : World) :
    Calls Try.prog 82 #[.int .i64 s] w fun e w' => e = .returned (.int .i64 (s % 7)) ∧ w = w' := by
  go_enter Try.func82, Try.ntmps82
  go_wp2
  go_ret
  exact ⟨rfl, rfl⟩

theorem toneValid_any (s : Int) (b : Bool) (w : World) :
    Calls Try.prog 56 #[.agg #[.int .i64 s, .bool b]] w fun e w' => e = .returned (.bool (vd s b)) ∧ Below w.heap.size w w' := by
  go_enter Try.func56, Try.ntmps56
  go_wp2_with (go_at_call 80; refine (valid_any _ _ _).mono ?_; rintro e w1 ⟨rfl, hb1⟩; obtain ⟨hc1, hf1, hz1⟩ := bl hb1; (try simp at hz1); clear hc1 hf1)
  go_ret
  exact ⟨rfl, by (repeat' (first | (with_reducible exact Below.refl _ _) | (with_reducible refine Below.alloc ?_ ?_ _) | (with_reducible refine Below.drew ?_) | (with_reducible refine Below.setCell ?_ ?_ _) | (with_reducible refine bl_step ?_ (by assumption)) | go_size))⟩

set_option maxHeartbeats 400000 in
theorem sToneValid_any (s : Int) (b : Bool) (w : World) :
    Calls Try.prog 71 #[.agg #[.int .i64 s, .bool b]] w fun e w' => e = .returned (.bool (vd s b)) ∧ Below w.heap.size w w' := by
  by_cases h0 : s < 0
  · rw [vd_lo h0]
    go_enter Try.func71, Try.ntmps71
    go_wp2_with (go_at_call 84; refine (in_any _ _ _ _).mono ?_; rintro e wx ⟨rfl, rfl⟩)
    go_ret
    exact ⟨rfl, by (repeat' (first | (with_reducible exact Below.refl _ _) | (with_reducible refine Below.alloc ?_ ?_ _) | (with_reducible refine Below.drew ?_) | (with_reducible refine Below.setCell ?_ ?_ _) | (with_reducible refine bl_step ?_ (by assumption)) | go_size))⟩
  by_cases h1 : 20 < s
  · rw [vd_hi h1]
    go_enter Try.func71, Try.ntmps71
    go_wp2_with (go_at_call 84; refine (in_any _ _ _ _).mono ?_; rintro e wx ⟨rfl, rfl⟩)
    go_ret
    exact ⟨rfl, by (repeat' (first | (with_reducible exact Below.refl _ _) | (with_reducible refine Below.alloc ?_ ?_ _) | (with_reducible refine Below.drew ?_) | (with_reducible refine Below.setCell ?_ ?_ _) | (with_reducible refine bl_step ?_ (by assumption)) | go_size))⟩
  rw [vd_mid (by omega) (by omega)]
  cases b
  · go_enter Try.func71, Try.ntmps71
    go_wp2_with (go_at_call 84; refine (in_any _ _ _ _).mono ?_; rintro e wx ⟨rfl, rfl⟩)
    go_ret
    exact ⟨rfl, by (repeat' (first | (with_reducible exact Below.refl _ _) | (with_reducible refine Below.alloc ?_ ?_ _) | (with_reducible refine Below.drew ?_) | (with_reducible refine Below.setCell ?_ ?_ _) | (with_reducible refine bl_step ?_ (by assumption)) | go_size))⟩
  · go_enter Try.func71, Try.ntmps71
    go_wp2_with (first | (go_at_call 84; refine (in_any _ _ _ _).mono ?_; rintro e wx ⟨rfl, rfl⟩) | (go_at_call 82; refine (l1Letter_any _ (by omega) _).mono ?_; rintro e wx ⟨rfl, rfl⟩))
    go_ret
    exact ⟨by simp, by (repeat' (first | (with_reducible exact Below.refl _ _) | (with_reducible refine Below.alloc ?_ ?_ _) | (with_reducible refine Below.drew ?_) | (with_reducible refine Below.setCell ?_ ?_ _) | (with_reducible refine bl_step ?_ (by assumption)) | go_size))⟩

theorem toTone_any (s : Int) (b : Bool) (w : World) :
    Calls Try.prog 73 #[.agg #[.int .i64 s, .bool b]] w fun e w' => e = .returned (.agg #[.int .i64 s, .bool b]) ∧ Below w.heap.size w w' := by
  go_enter Try.func73, Try.ntmps73
  go_wp2
  refine bodyPost_ret (v := .agg #[.int .i64 s, .bool b]) (by simp only [results, Try.results73]; go_simp) rfl ⟨rfl, ?_⟩; (repeat' (first | (with_reducible exact Below.refl _ _) | (with_reducible refine Below.alloc ?_ ?_ _) | (with_reducible refine Below.drew ?_) | (with_reducible refine Below.setCell ?_ ?_ _) | (with_reducible refine bl_step ?_ (by assumption)) | go_size))

theorem eqTone_any (s t : Int) (b c : Bool) (w : World) :
    Calls Try.prog 74 #[.agg #[.int .i64 s, .bool b], .agg #[.int .i64 t, .bool c]] w fun e w' => e = .returned (.bool (teq s b t c)) ∧ Below w.heap.size w w' := by
  by_cases h : s = t
  · subst h
    by_cases k : b = c
    · subst k
      rw [teq_yes]
      go_enter Try.func74, Try.ntmps74
      go_wp2
      go_ret
      exact ⟨rfl, by (repeat' (first | (with_reducible exact Below.refl _ _) | (with_reducible refine Below.alloc ?_ ?_ _) | (with_reducible refine Below.drew ?_) | (with_reducible refine Below.setCell ?_ ?_ _) | (with_reducible refine bl_step ?_ (by assumption)) | go_size))⟩
    · rw [teq_no2 k]
      have k' : (b == c) = false := by simpa using k
      have k2 : ((!b) == c) = true := by cases b <;> cases c <;> simp_all
      go_enter Try.func74, Try.ntmps74
      go_wp2
      go_ret
      exact ⟨rfl, by (repeat' (first | (with_reducible exact Below.refl _ _) | (with_reducible refine Below.alloc ?_ ?_ _) | (with_reducible refine Below.drew ?_) | (with_reducible refine Below.setCell ?_ ?_ _) | (with_reducible refine bl_step ?_ (by assumption)) | go_size))⟩
  · rw [teq_no1 h]
    go_enter Try.func74, Try.ntmps74
    go_wp2
    go_ret
    exact ⟨rfl, by (repeat' (first | (with_reducible exact Below.refl _ _) | (with_reducible refine Below.alloc ?_ ?_ _) | (with_reducible refine Below.drew ?_) | (with_reducible refine Below.setCell ?_ ?_ _) | (with_reducible refine bl_step ?_ (by assumption)) | go_size))⟩
end Go.Proofs.Ytcmcdomfmmjogaa
