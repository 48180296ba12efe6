/-
  The contracts of the small functions on tones, second part: impl's wrappers, spec's functions, the laws' helpers.
-/
import Derived.Test.YticapinlnlpbpaaDoorTone
namespace Go.Proofs.YticapinlnlpbpaaDoor
open Go.RowKit
set_option maxRecDepth 100000
set_option linter.unusedVariables false

theorem in_any (n lo hi : Int) (w : World) :
    Calls Tryd.prog 85 #[.int .i64 n, .int .i64 lo, .int .i64 hi] w fun e w' => e = .returned (.bool (decide (lo ≤ n) && decide (n ≤ hi))) ∧ w = w' := by
  by_cases h : lo ≤ n
  · go_enter Tryd.func85, Tryd.ntmps85
    go_wp2
    go_ret
    exact ⟨by simp [h], rfl⟩
  · go_enter Tryd.func85, Tryd.ntmps85
    go_wp2
    go_ret
    exact ⟨by simp; omega, rfl⟩

theorem in_no (n lo hi : Int) (h : n < lo ∨ hi < n) (w : World) :
    Calls Tryd.prog 85 #[.int .i64 n, .int .i64 lo, .int .i64 hi] w fun e w' => e = .returned (.bool false) ∧ w = w' := by
  have e : (decide (lo ≤ n) && decide (n ≤ hi)) = false := by simp; omega
  rw [← e]
  exact in_any n lo hi w

theorem in_yes (n lo hi : Int) (h : lo ≤ n) (k : n ≤ hi) (w : World) :
    Calls Tryd.prog 85 #[.int .i64 n, .int .i64 lo, .int .i64 hi] w fun e w' => e = .returned (.bool true) ∧ w = w' := by
  have e : (decide (lo ≤ n) && decide (n ≤ hi)) = true := by simp; omega
  rw [← e]
  exact in_any n lo hi w

theorem l1Letter_any (s : Int) (h0 : 0 ≤ s) (w : World) :
    Calls Tryd.prog 93 #[.int .i64 s] w fun e w' => e = .returned (.int .i64 (s % 7)) ∧ w = w' := by
  go_enter Tryd.func93, Tryd.ntmps93
  go_wp2
  go_ret
  exact ⟨rfl, rfl⟩

set_option maxHeartbeats 400000 in
theorem sToneValid_any (s : Int) (b : Bool) (w : World) :
    Calls Tryd.prog 84 #[.agg #[.int .i64 s, .bool b]] w fun e w' => e = .returned (.bool (vd s b)) ∧ Below w.heap.size w w' := by
  by_cases h0 : s < 0
  · rw [vd_lo h0]
    go_enter Tryd.func84, Tryd.ntmps84
    go_wp2_with (go_at_call 85; refine (in_any _ _ _ _).mono ?_; rintro e wx ⟨rfl, rfl⟩)
    go_ret
    exact ⟨rfl, by (repeat' (first | (with_reducible exact Below.refl _ _) | (with_reducible refine Below.alloc ?_ ?_ _) | (with_reducible refine Below.drew ?_) | (with_reducible refine Below.setCell ?_ ?_ _) | (with_reducible refine bl_step ?_ (by assumption)) | go_size))⟩
  by_cases h1 : 20 < s
  · rw [vd_hi h1]
    go_enter Tryd.func84, Tryd.ntmps84
    go_wp2_with (go_at_call 85; refine (in_any _ _ _ _).mono ?_; rintro e wx ⟨rfl, rfl⟩)
    go_ret
    exact ⟨rfl, by (repeat' (first | (with_reducible exact Below.refl _ _) | (with_reducible refine Below.alloc ?_ ?_ _) | (with_reducible refine Below.drew ?_) | (with_reducible refine Below.setCell ?_ ?_ _) | (with_reducible refine bl_step ?_ (by assumption)) | go_size))⟩
  rw [vd_mid (by omega) (by omega)]
  cases b
  · go_enter Tryd.func84, Tryd.ntmps84
    go_wp2_with (go_at_call 85; refine (in_any _ _ _ _).mono ?_; rintro e wx ⟨rfl, rfl⟩)
    go_ret
    exact ⟨rfl, by (repeat' (first | (with_reducible exact Below.refl _ _) | (with_reducible refine Below.alloc ?_ ?_ _) | (with_reducible refine Below.drew ?_) | (with_reducible refine Below.setCell ?_ ?_ _) | (with_reducible refine bl_step ?_ (by assumption)) | go_size))⟩
  · go_enter Tryd.func84, Tryd.ntmps84
    go_wp2_with (first | (go_at_call 85; refine (in_any _ _ _ _).mono ?_; rintro e wx ⟨rfl, rfl⟩) | (go_at_call 93; refine (l1Letter_any _ (by omega) _).mono ?_; rintro e wx ⟨rfl, rfl⟩))
    go_ret
    exact ⟨by simp, by (repeat' (first | (with_reducible exact Below.refl _ _) | (with_reducible refine Below.alloc ?_ ?_ _) | (with_reducible refine Below.drew ?_) | (with_reducible refine Below.setCell ?_ ?_ _) | (with_reducible refine bl_step ?_ (by assumption)) | go_size))⟩

set_option maxHeartbeats 400000 in
theorem sToneSteps_any (s t : Int) (b c : Bool) (w : World) :
    Calls Tryd.prog 95 #[.agg #[.int .i64 s, .bool b], .agg #[.int .i64 t, .bool c]] w fun e w' =>
      e = .returned (.tuple #[.int .i64 (stp s b t c), .bool (both s b t c)]) ∧ Below w.heap.size w w' := by
  by_cases hv : vd s b = false
  · rw [stp_no1 hv, both_no1 hv]
    go_enter Tryd.func95, Tryd.ntmps95
    go_wp2_with (go_at_call 84; refine (sToneValid_any _ _ _).mono ?_; rintro e w1 ⟨rfl, hb1⟩; obtain ⟨hc1, hf1, hz1⟩ := bl hb1; (try simp at hz1); (try (refine got (p := w.heap.size < w1.heap.size) ?_ ?_; (focus (go_size; done)); intro q1_w0)); (try (refine got (p := w1.cell? ⟨w.heap.size, 0, none⟩ = some (.int .i64 s)) ?_ ?_; (focus (refine (hc1 _ _ ?_).trans ?_; (focus (go_size; done)); go_simp; done)); intro c1_w0_0)); (try (refine got (p := w1.cell? ⟨w.heap.size, 1, none⟩ = some (.bool b)) ?_ ?_; (focus (refine (hc1 _ _ ?_).trans ?_; (focus (go_size; done)); go_simp; done)); intro c1_w0_1)); (try (refine got (p := ∀ o, w1.frozen? ⟨w.heap.size, o, none⟩ = false) ?_ ?_; (focus (intro o; refine (hf1 _ _ ?_).trans ?_; (focus (go_size; done)); go_simp; done)); intro f1_w0)); (try (refine got (p := w.heap.size + 1 < w1.heap.size) ?_ ?_; (focus (go_size; done)); intro q1_w1)); (try (refine got (p := w1.cell? ⟨w.heap.size + 1, 0, none⟩ = some (.int .i64 t)) ?_ ?_; (focus (refine (hc1 _ _ ?_).trans ?_; (focus (go_size; done)); go_simp; done)); intro c1_w1_0)); (try (refine got (p := w1.cell? ⟨w.heap.size + 1, 1, none⟩ = some (.bool c)) ?_ ?_; (focus (refine (hc1 _ _ ?_).trans ?_; (focus (go_size; done)); go_simp; done)); intro c1_w1_1)); (try (refine got (p := ∀ o, w1.frozen? ⟨w.heap.size + 1, o, none⟩ = false) ?_ ?_; (focus (intro o; refine (hf1 _ _ ?_).trans ?_; (focus (go_size; done)); go_simp; done)); intro f1_w1)); clear hc1 hf1)
    go_ret2
    exact ⟨rfl, by (repeat' (first | (with_reducible exact Below.refl _ _) | (with_reducible refine Below.alloc ?_ ?_ _) | (with_reducible refine Below.drew ?_) | (with_reducible refine Below.setCell ?_ ?_ _) | (with_reducible refine bl_step ?_ (by assumption)) | go_size))⟩
  rw [Bool.not_eq_false] at hv
  by_cases hu : vd t c = false
  · rw [stp_no2 hu, both_no2 hu]
    go_enter Tryd.func95, Tryd.ntmps95
    go_wp2_with (go_at_call 84; refine (sToneValid_any _ _ _).mono ?_; rintro e w1 ⟨rfl, hb1⟩; obtain ⟨hc1, hf1, hz1⟩ := bl hb1; (try simp at hz1); (try (refine got (p := w.heap.size < w1.heap.size) ?_ ?_; (focus (go_size; done)); intro q1_w0)); (try (refine got (p := w1.cell? ⟨w.heap.size, 0, none⟩ = some (.int .i64 s)) ?_ ?_; (focus (refine (hc1 _ _ ?_).trans ?_; (focus (go_size; done)); go_simp; done)); intro c1_w0_0)); (try (refine got (p := w1.cell? ⟨w.heap.size, 1, none⟩ = some (.bool b)) ?_ ?_; (focus (refine (hc1 _ _ ?_).trans ?_; (focus (go_size; done)); go_simp; done)); intro c1_w0_1)); (try (refine got (p := ∀ o, w1.frozen? ⟨w.heap.size, o, none⟩ = false) ?_ ?_; (focus (intro o; refine (hf1 _ _ ?_).trans ?_; (focus (go_size; done)); go_simp; done)); intro f1_w0)); (try (refine got (p := w.heap.size + 1 < w1.heap.size) ?_ ?_; (focus (go_size; done)); intro q1_w1)); (try (refine got (p := w1.cell? ⟨w.heap.size + 1, 0, none⟩ = some (.int .i64 t)) ?_ ?_; (focus (refine (hc1 _ _ ?_).trans ?_; (focus (go_size; done)); go_simp; done)); intro c1_w1_0)); (try (refine got (p := w1.cell? ⟨w.heap.size + 1, 1, none⟩ = some (.bool c)) ?_ ?_; (focus (refine (hc1 _ _ ?_).trans ?_; (focus (go_size; done)); go_simp; done)); intro c1_w1_1)); (try (refine got (p := ∀ o, w1.frozen? ⟨w.heap.size + 1, o, none⟩ = false) ?_ ?_; (focus (intro o; refine (hf1 _ _ ?_).trans ?_; (focus (go_size; done)); go_simp; done)); intro f1_w1)); clear hc1 hf1)
    go_ret2
    exact ⟨rfl, by (repeat' (first | (with_reducible exact Below.refl _ _) | (with_reducible refine Below.alloc ?_ ?_ _) | (with_reducible refine Below.drew ?_) | (with_reducible refine Below.setCell ?_ ?_ _) | (with_reducible refine bl_step ?_ (by assumption)) | go_size))⟩
  rw [Bool.not_eq_false] at hu
  rw [stp_yes hv hu, both_yes hv hu]
  obtain ⟨h0, h1⟩ := vd_in hv
  obtain ⟨h2, h3⟩ := vd_in hu
  go_enter Tryd.func95, Tryd.ntmps95
  go_wp2_with (go_at_call 84; refine (sToneValid_any _ _ _).mono ?_; rintro e w1 ⟨rfl, hb1⟩; obtain ⟨hc1, hf1, hz1⟩ := bl hb1; (try simp at hz1); (try (refine got (p := w.heap.size < w1.heap.size) ?_ ?_; (focus (go_size; done)); intro q1_w0)); (try (refine got (p := w1.cell? ⟨w.heap.size, 0, none⟩ = some (.int .i64 s)) ?_ ?_; (focus (refine (hc1 _ _ ?_).trans ?_; (focus (go_size; done)); go_simp; done)); intro c1_w0_0)); (try (refine got (p := w1.cell? ⟨w.heap.size, 1, none⟩ = some (.bool b)) ?_ ?_; (focus (refine (hc1 _ _ ?_).trans ?_; (focus (go_size; done)); go_simp; done)); intro c1_w0_1)); (try (refine got (p := ∀ o, w1.frozen? ⟨w.heap.size, o, none⟩ = false) ?_ ?_; (focus (intro o; refine (hf1 _ _ ?_).trans ?_; (focus (go_size; done)); go_simp; done)); intro f1_w0)); (try (refine got (p := w.heap.size + 1 < w1.heap.size) ?_ ?_; (focus (go_size; done)); intro q1_w1)); (try (refine got (p := w1.cell? ⟨w.heap.size + 1, 0, none⟩ = some (.int .i64 t)) ?_ ?_; (focus (refine (hc1 _ _ ?_).trans ?_; (focus (go_size; done)); go_simp; done)); intro c1_w1_0)); (try (refine got (p := w1.cell? ⟨w.heap.size + 1, 1, none⟩ = some (.bool c)) ?_ ?_; (focus (refine (hc1 _ _ ?_).trans ?_; (focus (go_size; done)); go_simp; done)); intro c1_w1_1)); (try (refine got (p := ∀ o, w1.frozen? ⟨w.heap.size + 1, o, none⟩ = false) ?_ ?_; (focus (intro o; refine (hf1 _ _ ?_).trans ?_; (focus (go_size; done)); go_simp; done)); intro f1_w1)); clear hc1 hf1)
  go_ret2
  exact ⟨rfl, by (repeat' (first | (with_reducible exact Below.refl _ _) | (with_reducible refine Below.alloc ?_ ?_ _) | (with_reducible refine Below.drew ?_) | (with_reducible refine Below.setCell ?_ ?_ _) | (with_reducible refine bl_step ?_ (by assumption)) | go_size))⟩

theorem toTone_any (s : Int) (b : Bool) (w : World) :
    Calls Tryd.prog 80 #[.agg #[.int .i64 s, .bool b]] w fun e w' => e = .returned (.agg #[.int .i64 s, .bool b]) ∧ Below w.heap.size w w' := by
  go_enter Tryd.func80, Tryd.ntmps80
  go_wp2
  refine bodyPost_ret (v := .agg #[.int .i64 s, .bool b]) (by simp only [results, Tryd.results80]; go_simp) rfl ⟨rfl, ?_⟩; (repeat' (first | (with_reducible exact Below.refl _ _) | (with_reducible refine Below.alloc ?_ ?_ _) | (with_reducible refine Below.drew ?_) | (with_reducible refine Below.setCell ?_ ?_ _) | (with_reducible refine bl_step ?_ (by assumption)) | go_size))

theorem eqTone_any (s t : Int) (b c : Bool) (w : World) :
    Calls Tryd.prog 82 #[.agg #[.int .i64 s, .bool b], .agg #[.int .i64 t, .bool c]] w fun e w' => e = .returned (.bool (teq s b t c)) ∧ Below w.heap.size w w' := by
  by_cases h : s = t
  · subst h
    by_cases k : b = c
    · subst k
      rw [teq_yes]
      go_enter Tryd.func82, Tryd.ntmps82
      go_wp2
      go_ret
      exact ⟨rfl, by (repeat' (first | (with_reducible exact Below.refl _ _) | (with_reducible refine Below.alloc ?_ ?_ _) | (with_reducible refine Below.drew ?_) | (with_reducible refine Below.setCell ?_ ?_ _) | (with_reducible refine bl_step ?_ (by assumption)) | go_size))⟩
    · rw [teq_no2 k]
      have k' : (b == c) = false := by simpa using k
      have k2 : ((!b) == c) = true := by cases b <;> cases c <;> simp_all
      go_enter Tryd.func82, Tryd.ntmps82
      go_wp2
      go_ret
      exact ⟨rfl, by (repeat' (first | (with_reducible exact Below.refl _ _) | (with_reducible refine Below.alloc ?_ ?_ _) | (with_reducible refine Below.drew ?_) | (with_reducible refine Below.setCell ?_ ?_ _) | (with_reducible refine bl_step ?_ (by assumption)) | go_size))⟩
  · rw [teq_no1 h]
    go_enter Tryd.func82, Tryd.ntmps82
    go_wp2
    go_ret
    exact ⟨rfl, by (repeat' (first | (with_reducible exact Below.refl _ _) | (with_reducible refine Below.alloc ?_ ?_ _) | (with_reducible refine Below.drew ?_) | (with_reducible refine Below.setCell ?_ ?_ _) | (with_reducible refine bl_step ?_ (by assumption)) | go_size))⟩
end Go.Proofs.YticapinlnlpbpaaDoor
