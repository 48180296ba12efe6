/-
  The contracts of the functions on hexachords, second part.
-/
import Derived.Test.YthnofdkkocpjhaaDoorHex
import Derived.LaidEqlPtr
namespace Go.Proofs.YthnofdkkocpjhaaDoor
open Go.RowKit
set_option maxRecDepth 100000
set_option linter.unusedVariables false

set_option maxHeartbeats 1000000 in
theorem hexTone_row (B o : Nat) (n k : Int) (hn : hxv n = true) (h0 : 0 ≤ k) (h1 : k ≤ 5) (w : World) (c0 : w.cell? ⟨B, o, none⟩ = some (.int .i64 n)) (c1 : w.cell? ⟨B, o + 1, none⟩ = some (.string (hkd n))) (hB : B < w.heap.size) :
    Calls Tryd.prog 54 #[.pointer (some ⟨B, o, none⟩), .int .i64 k] w fun e w' => e = .returned (.agg #[.int .i64 (n + k), .bool (hsf n k)]) ∧ Below w.heap.size w w' := by
  obtain ⟨hn0, hn1⟩ := hxv_in hn
  have hs := hkd_soft hn
  have hm := hsf_mod hn h0 h1
  have hl := ltr_b (n + k)
  by_cases hk : (n % 7 == 6) = true
  · rw [hk] at hs hm
    rw [← hm]
    clear hm hk
    go_enter Tryd.func54, Tryd.ntmps54
    go_wp2_with (go_at_call 52; refine (letter_any _ _ (by omega) (by omega) _).mono ?_; rintro e w1 ⟨rfl, hb1⟩; obtain ⟨hc1, hf1, hz1⟩ := bl hb1; (try simp at hz1); (try (refine got (p := w.heap.size < w1.heap.size) ?_ ?_; (focus (go_size; done)); intro q1_w0)); (try (refine got (p := w1.cell? ⟨w.heap.size, 0, none⟩ = some (.int .i64 0)) ?_ ?_; (focus (refine (hc1 _ _ ?_).trans ?_; (focus (go_size; done)); go_simp; done)); intro c1_w0_0)); (try (refine got (p := w1.cell? ⟨w.heap.size, 1, none⟩ = some (.bool false)) ?_ ?_; (focus (refine (hc1 _ _ ?_).trans ?_; (focus (go_size; done)); go_simp; done)); intro c1_w0_1)); (try (refine got (p := ∀ o, w1.frozen? ⟨w.heap.size, o, none⟩ = false) ?_ ?_; (focus (intro o; refine (hf1 _ _ ?_).trans ?_; (focus (go_size; done)); go_simp; done)); intro f1_w0)); (try (refine got (p := w.heap.size + 1 < w1.heap.size) ?_ ?_; (focus (go_size; done)); intro q1_w1)); (try (refine got (p := w1.cell? ⟨w.heap.size + 1, 0, none⟩ = some (.int .i64 (n + k))) ?_ ?_; (focus (refine (hc1 _ _ ?_).trans ?_; (focus (go_size; done)); go_simp; done)); intro c1_w1_0)); (try (refine got (p := w1.cell? ⟨w.heap.size + 1, 1, none⟩ = some (.bool false)) ?_ ?_; (focus (refine (hc1 _ _ ?_).trans ?_; (focus (go_size; done)); go_simp; done)); intro c1_w1_1)); (try (refine got (p := ∀ o, w1.frozen? ⟨w.heap.size + 1, o, none⟩ = false) ?_ ?_; (focus (intro o; refine (hf1 _ _ ?_).trans ?_; (focus (go_size; done)); go_simp; done)); intro f1_w1)); clear hc1 hf1)
    refine bodyPost_ret (v := .agg #[.int .i64 (n + k), .bool (true && (n + k) % 7 == 2)]) (by simp only [results, Tryd.results54]; go_simp) rfl ⟨rfl, ?_⟩; (repeat' (first | (with_reducible exact Below.refl _ _) | (with_reducible refine Below.alloc ?_ ?_ _) | (with_reducible refine Below.drew ?_) | (with_reducible refine Below.setCell ?_ ?_ _) | (with_reducible refine bl_step ?_ (by assumption)) | go_size))
  · rw [Bool.not_eq_true] at hk
    rw [hk] at hs hm
    rw [← hm]
    clear hm hk
    go_enter Tryd.func54, Tryd.ntmps54
    go_wp2
    refine bodyPost_ret (v := .agg #[.int .i64 (n + k), .bool (false && (n + k) % 7 == 2)]) (by simp only [results, Tryd.results54]; go_simp) rfl ⟨rfl, ?_⟩; (repeat' (first | (with_reducible exact Below.refl _ _) | (with_reducible refine Below.alloc ?_ ?_ _) | (with_reducible refine Below.drew ?_) | (with_reducible refine Below.setCell ?_ ?_ _) | (with_reducible refine bl_step ?_ (by assumption)) | go_size))
end Go.Proofs.YthnofdkkocpjhaaDoor
