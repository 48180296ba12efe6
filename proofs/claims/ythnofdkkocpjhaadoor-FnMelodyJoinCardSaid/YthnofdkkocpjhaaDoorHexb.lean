/-
  The contracts of the functions on hexachords, third part: a tone of a hexachord, its kind.
-/
import Derived.Test.YthnofdkkocpjhaaDoorHexa
namespace Go.Proofs.YthnofdkkocpjhaaDoor
open Go.RowKit
set_option maxRecDepth 100000
set_option linter.unusedVariables false

theorem hxv_lo {n : Int} (h : n < 0) : hxv n = false := by simp [hxv]; omega
theorem hxv_hi {n : Int} (h : 15 < n) : hxv n = false := by simp [hxv]; omega
theorem hxv_mid {n : Int} (h0 : 0 ≤ n) (h1 : n ≤ 15) : hxv n = (n % 7 == 0 || n % 7 == 3 || n % 7 == 6) := by
  have : n = 0 ∨ n = 1 ∨ n = 2 ∨ n = 3 ∨ n = 4 ∨ n = 5 ∨ n = 6 ∨ n = 7 ∨ n = 8 ∨ n = 9 ∨ n = 10 ∨ n = 11 ∨ n = 12 ∨ n = 13 ∨ n = 14 ∨ n = 15 := by omega
  rcases this with rfl | rfl | rfl | rfl | rfl | rfl | rfl | rfl | rfl | rfl | rfl | rfl | rfl | rfl | rfl | rfl <;> decide

theorem sHexValid_any (n : Int) (w : World) :
    Calls Tryd.prog 58 #[.int .i64 n] w fun e w' => e = .returned (.bool (hxv n)) ∧ Below w.heap.size w w' := by
  by_cases h0 : n < 0
  · rw [hxv_lo h0]
    go_enter Tryd.func58, Tryd.ntmps58
    go_wp2_with (go_at_call 53; refine (in_no _ _ _ (by omega) _).mono ?_; rintro e wx ⟨rfl, rfl⟩)
    go_ret
    exact ⟨rfl, by (repeat' (first | (with_reducible exact Below.refl _ _) | (with_reducible refine Below.alloc ?_ ?_ _) | (with_reducible refine Below.drew ?_) | (with_reducible refine Below.setCell ?_ ?_ _) | (with_reducible refine bl_step ?_ (by assumption)) | go_size))⟩
  by_cases h1 : 15 < n
  · rw [hxv_hi h1]
    go_enter Tryd.func58, Tryd.ntmps58
    go_wp2_with (go_at_call 53; refine (in_no _ _ _ (by omega) _).mono ?_; rintro e wx ⟨rfl, rfl⟩)
    go_ret
    exact ⟨rfl, by (repeat' (first | (with_reducible exact Below.refl _ _) | (with_reducible refine Below.alloc ?_ ?_ _) | (with_reducible refine Below.drew ?_) | (with_reducible refine Below.setCell ?_ ?_ _) | (with_reducible refine bl_step ?_ (by assumption)) | go_size))⟩
  rw [hxv_mid (by omega) (by omega)]
  rcases mod7 n with h | h | h | h | h | h | h
  all_goals
    rw [h]
    have H := Lib.hid h
    clear h
    go_enter Tryd.func58, Tryd.ntmps58
    go_wp2_with (fail)
    (go_at_call 53; refine (in_yes _ _ _ (by omega) (by omega) _).mono ?_; rintro e wx ⟨rfl, rfl⟩)
    go_wp2_with (fail)
    (go_at_call 38; refine (l1Letter_any _ (by omega) _).mono ?_; rintro e wx ⟨rfl, rfl⟩)
    rw [H.out]
    go_wp2
    go_ret
    exact ⟨rfl, by (repeat' (first | (with_reducible exact Below.refl _ _) | (with_reducible refine Below.alloc ?_ ?_ _) | (with_reducible refine Below.drew ?_) | (with_reducible refine Below.setCell ?_ ?_ _) | (with_reducible refine bl_step ?_ (by assumption)) | go_size))⟩

theorem hkd_0 {n : Int} (h : n % 7 = 0) : hkd n = ⟨#[104, 97, 114, 100]⟩ := by simp [hkd, h]
theorem hkd_3 {n : Int} (h : n % 7 = 3) : hkd n = ⟨#[110, 97, 116, 117, 114, 97, 108]⟩ := by simp [hkd, h]
theorem hkd_6 {n : Int} (h : n % 7 = 6) : hkd n = ⟨#[115, 111, 102, 116]⟩ := by simp [hkd, h]
theorem hxv_mod {n : Int} (h : hxv n = true) : n % 7 = 0 ∨ n % 7 = 3 ∨ n % 7 = 6 := by
  rcases hxv_cases h with rfl | rfl | rfl | rfl | rfl | rfl | rfl <;> decide

theorem hsf_6 {n k : Int} (h : n % 7 = 6) : hsf n k = (k == 3) := by simp [hsf, h]
theorem hsf_0 {n k : Int} (h : n % 7 = 0) : hsf n k = false := by simp [hsf, h]
theorem hsf_3 {n k : Int} (h : n % 7 = 3) : hsf n k = false := by simp [hsf, h]

set_option maxHeartbeats 1000000 in
theorem sHexTone_any (n k : Int) (w : World) :
    Calls Tryd.prog 51 #[.int .i64 n, .int .i64 k] w fun e w' => e = .returned (.tuple #[.agg #[.int .i64 (htS n k), .bool (htB n k)], .bool (hok n k)]) ∧ Below w.heap.size w w' := by
  by_cases hn : hxv n = false
  · have hh := hok_no1 (k := k) hn
    rw [(ht_no hh).1, (ht_no hh).2, hh]
    clear hh
    go_enter Tryd.func51, Tryd.ntmps51
    go_wp2_with (go_at_call 58; refine (sHexValid_any _ _).mono ?_; rintro e w1 ⟨rfl, hb1⟩; obtain ⟨hc1, hf1, hz1⟩ := bl hb1; (try simp at hz1); (try (refine got (p := w.heap.size < w1.heap.size) ?_ ?_; (focus (go_size; done)); intro q1_w0)); (try (refine got (p := w1.cell? ⟨w.heap.size, 0, none⟩ = some (.int .i64 0)) ?_ ?_; (focus (refine (hc1 _ _ ?_).trans ?_; (focus (go_size; done)); go_simp; done)); intro c1_w0_0)); (try (refine got (p := w1.cell? ⟨w.heap.size, 1, none⟩ = some (.bool false)) ?_ ?_; (focus (refine (hc1 _ _ ?_).trans ?_; (focus (go_size; done)); go_simp; done)); intro c1_w0_1)); (try (refine got (p := ∀ o, w1.frozen? ⟨w.heap.size, o, none⟩ = false) ?_ ?_; (focus (intro o; refine (hf1 _ _ ?_).trans ?_; (focus (go_size; done)); go_simp; done)); intro f1_w0)); clear hc1 hf1)
    refine bodyPost_ret (v := .tuple #[.agg #[.int .i64 0, .bool false], .bool false]) (by simp only [results, Tryd.results51]; go_simp) rfl ⟨rfl, ?_⟩; (repeat' (first | (with_reducible exact Below.refl _ _) | (with_reducible refine Below.alloc ?_ ?_ _) | (with_reducible refine Below.drew ?_) | (with_reducible refine Below.setCell ?_ ?_ _) | (with_reducible refine bl_step ?_ (by assumption)) | go_size))
  rw [Bool.not_eq_false] at hn
  by_cases h0 : k < 0 ∨ 5 < k
  · have hh : hok n k = false := by rcases h0 with h | h; exact hok_no2 h; exact hok_no3 h
    rw [(ht_no hh).1, (ht_no hh).2, hh]
    clear hh
    go_enter Tryd.func51, Tryd.ntmps51
    go_wp2_with (first | (go_at_call 58; refine (sHexValid_any _ _).mono ?_; rintro e w1 ⟨rfl, hb1⟩; obtain ⟨hc1, hf1, hz1⟩ := bl hb1; (try simp at hz1); (try (refine got (p := w.heap.size < w1.heap.size) ?_ ?_; (focus (go_size; done)); intro q1_w0)); (try (refine got (p := w1.cell? ⟨w.heap.size, 0, none⟩ = some (.int .i64 0)) ?_ ?_; (focus (refine (hc1 _ _ ?_).trans ?_; (focus (go_size; done)); go_simp; done)); intro c1_w0_0)); (try (refine got (p := w1.cell? ⟨w.heap.size, 1, none⟩ = some (.bool false)) ?_ ?_; (focus (refine (hc1 _ _ ?_).trans ?_; (focus (go_size; done)); go_simp; done)); intro c1_w0_1)); (try (refine got (p := ∀ o, w1.frozen? ⟨w.heap.size, o, none⟩ = false) ?_ ?_; (focus (intro o; refine (hf1 _ _ ?_).trans ?_; (focus (go_size; done)); go_simp; done)); intro f1_w0)); clear hc1 hf1) | (go_at_call 53; refine (in_no _ _ _ (by omega) _).mono ?_; rintro e wx ⟨rfl, rfl⟩))
    refine bodyPost_ret (v := .tuple #[.agg #[.int .i64 0, .bool false], .bool false]) (by simp only [results, Tryd.results51]; go_simp) rfl ⟨rfl, ?_⟩; (repeat' (first | (with_reducible exact Below.refl _ _) | (with_reducible refine Below.alloc ?_ ?_ _) | (with_reducible refine Below.drew ?_) | (with_reducible refine Below.setCell ?_ ?_ _) | (with_reducible refine bl_step ?_ (by assumption)) | go_size))
  have hh := hok_yes hn (by omega) (by omega : k ≤ 5)
  rw [(ht_yes hh).1, (ht_yes hh).2, hh]
  clear hh
  have hk0 : 0 ≤ k := by omega
  have hk1 : k ≤ 5 := by omega
  clear h0
  obtain ⟨hp, hp1⟩ := hxv_in hn
  rcases hxv_mod hn with h | h | h
  all_goals
    first | rw [hsf_0 h] | rw [hsf_3 h] | rw [hsf_6 h]
    have H := Lib.hid h
    clear h
    go_enter Tryd.func51, Tryd.ntmps51
    go_wp2_with (fail)
    (go_at_call 58; refine (sHexValid_any _ _).mono ?_; rintro e w1 ⟨rfl, hb1⟩; obtain ⟨hc1, hf1, hz1⟩ := bl hb1; (try simp at hz1); (try (refine got (p := w.heap.size < w1.heap.size) ?_ ?_; (focus (go_size; done)); intro q1_w0)); (try (refine got (p := w1.cell? ⟨w.heap.size, 0, none⟩ = some (.int .i64 0)) ?_ ?_; (focus (refine (hc1 _ _ ?_).trans ?_; (focus (go_size; done)); go_simp; done)); intro c1_w0_0)); (try (refine got (p := w1.cell? ⟨w.heap.size, 1, none⟩ = some (.bool false)) ?_ ?_; (focus (refine (hc1 _ _ ?_).trans ?_; (focus (go_size; done)); go_simp; done)); intro c1_w0_1)); (try (refine got (p := ∀ o, w1.frozen? ⟨w.heap.size, o, none⟩ = false) ?_ ?_; (focus (intro o; refine (hf1 _ _ ?_).trans ?_; (focus (go_size; done)); go_simp; done)); intro f1_w0)); clear hc1 hf1)
    go_wp2_with (fail)
    (go_at_call 53; refine (in_yes _ _ _ (by omega) (by omega) _).mono ?_; rintro e wx ⟨rfl, rfl⟩)
    go_wp2_with (fail)
    (go_at_call 38; refine (l1Letter_any _ (by omega) _).mono ?_; rintro e wx ⟨rfl, rfl⟩)
    rw [H.out]
    go_wp2
    first | (refine bodyPost_ret (v := .tuple #[.agg #[.int .i64 (n + k), .bool false], .bool true]) (by simp only [results, Tryd.results51]; go_simp) rfl ⟨rfl, ?_⟩; (repeat' (first | (with_reducible exact Below.refl _ _) | (with_reducible refine Below.alloc ?_ ?_ _) | (with_reducible refine Below.drew ?_) | (with_reducible refine Below.setCell ?_ ?_ _) | (with_reducible refine bl_step ?_ (by assumption)) | go_size)); done) | (refine bodyPost_ret (v := .tuple #[.agg #[.int .i64 (n + k), .bool (k == 3)], .bool true]) (by simp only [results, Tryd.results51]; go_simp) rfl ⟨rfl, ?_⟩; (repeat' (first | (with_reducible exact Below.refl _ _) | (with_reducible refine Below.alloc ?_ ?_ _) | (with_reducible refine Below.drew ?_) | (with_reducible refine Below.setCell ?_ ?_ _) | (with_reducible refine bl_step ?_ (by assumption)) | go_size)); done)
end Go.Proofs.YthnofdkkocpjhaaDoor
