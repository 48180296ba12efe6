/-
  The draws of a hexachord's step and of HexTone's arguments return.
-/
import Derived.Test.YtjodcaeohkjlnaaDraw2
namespace Go.Proofs.Ytjodcaeohkjlnaa
open Go.RowKit
set_option maxRecDepth 100000
set_option linter.unusedVariables false

def HexPicked (B A q : Nat) (w : World) (e : Ending) (w' : World) : Prop :=
  ∃ n : Int, e = .returned (.int .i64 n) ∧ -1 ≤ n ∧ n ≤ 22 ∧ Rd w' B A (q + 2) ∧ w.grownBy w' (some B)

set_option maxHeartbeats 2000000 in
theorem l91Hex_any (B A q : Nat) (hq : q ≤ 900000) (w : World) (h : Rd w B A q) :
    Calls Try.prog 63 #[.pointer (some ⟨B, 0, none⟩)] w (HexPicked B A q w) := by
  have hB := h.lt
  have hA := h.ltA
  go_enter Try.func63, Try.ntmps63
  go_wp2_with (fail)
  (go_at_call 55; refine (pick_any 6 B A q (by omega) (by omega) (by omega) _ h).mono ?_; rintro e w1 ⟨k1, rfl, h10, h11, hr1, hb1⟩; obtain ⟨hc1, hf1, hz1⟩ := bg hb1; (try simp at hz1); clear hc1 hf1)
  by_cases g0 : k1 = 0
  · subst g0
    go_wp2_with (fail)
    (go_at_call 55; refine (pick_any 24 B A (q + 1) (by omega) (by omega) (by omega) _ hr1).mono ?_; rintro e w2 ⟨k2, rfl, h20, h21, hr2, hb2⟩; obtain ⟨hc2, hf2, hz2⟩ := bg hb2; (try simp at hz2); (try (refine got (p := w1.heap.size < w2.heap.size) ?_ ?_; (focus (go_size; done)); intro q2_w10)); (try (refine got (p := w2.cell? ⟨w1.heap.size, 0, none⟩ = some (.int .i64 0)) ?_ ?_; (focus (refine (hc2 _ _ ?_ ?_).trans ?_; (focus (go_size; done)); (focus (first | omega | (simp; omega))); go_simp; done)); intro c2_w10_0)); (try (refine got (p := w2.cell? ⟨w1.heap.size, 1, none⟩ = some (.int .i64 3)) ?_ ?_; (focus (refine (hc2 _ _ ?_ ?_).trans ?_; (focus (go_size; done)); (focus (first | omega | (simp; omega))); go_simp; done)); intro c2_w10_1)); (try (refine got (p := w2.cell? ⟨w1.heap.size, 2, none⟩ = some (.int .i64 6)) ?_ ?_; (focus (refine (hc2 _ _ ?_ ?_).trans ?_; (focus (go_size; done)); (focus (first | omega | (simp; omega))); go_simp; done)); intro c2_w10_2)); (try (refine got (p := w2.cell? ⟨w1.heap.size, 3, none⟩ = some (.int .i64 7)) ?_ ?_; (focus (refine (hc2 _ _ ?_ ?_).trans ?_; (focus (go_size; done)); (focus (first | omega | (simp; omega))); go_simp; done)); intro c2_w10_3)); (try (refine got (p := w2.cell? ⟨w1.heap.size, 4, none⟩ = some (.int .i64 10)) ?_ ?_; (focus (refine (hc2 _ _ ?_ ?_).trans ?_; (focus (go_size; done)); (focus (first | omega | (simp; omega))); go_simp; done)); intro c2_w10_4)); (try (refine got (p := w2.cell? ⟨w1.heap.size, 5, none⟩ = some (.int .i64 13)) ?_ ?_; (focus (refine (hc2 _ _ ?_ ?_).trans ?_; (focus (go_size; done)); (focus (first | omega | (simp; omega))); go_simp; done)); intro c2_w10_5)); (try (refine got (p := w2.cell? ⟨w1.heap.size, 6, none⟩ = some (.int .i64 14)) ?_ ?_; (focus (refine (hc2 _ _ ?_ ?_).trans ?_; (focus (go_size; done)); (focus (first | omega | (simp; omega))); go_simp; done)); intro c2_w10_6)); (try (refine got (p := ∀ o, w2.frozen? ⟨w1.heap.size, o, none⟩ = false) ?_ ?_; (focus (intro o; refine (hf2 _ _ ?_ ?_).trans ?_; (focus (go_size; done)); (focus (first | omega | (simp; omega))); go_simp; done)); intro f2_w10)); clear hc2 hf2)
    go_wp2
    go_ret
    exact ⟨_, rfl, by omega, by omega, by (repeat' (first | (with_reducible refine Rd.set_ ?_ ?_ ?_ _) | (with_reducible refine Rd.alloc ?_ _) | (with_reducible refine Rd.drew ?_) | (refine Rd.more (by assumption) ?_; (first | omega | (simp; omega))) | (show _ ≠ _; (first | omega | (simp; omega))))), by (repeat' (first | (with_reducible exact gb_refl _ _) | (with_reducible refine gb_alloc ?_ _) | (with_reducible refine gb_drew ?_) | (with_reducible refine gb_set ?_ ?_ _) | (with_reducible refine gb_step ?_ (by assumption)) | (with_reducible refine gb_bl ?_ (by assumption)) | (left; rfl) | (right; go_size) | go_size))⟩
  have e0 : (k1 == 0) = false := by simpa using g0
  clear g0
  go_wp2_with (fail)
  (go_at_call 55; refine (pick_any 7 B A (q + 1) (by omega) (by omega) (by omega) _ (hr1.alloc _)).mono ?_; rintro e w2 ⟨k2, rfl, h20, h21, hr2, hb2⟩; obtain ⟨hc2, hf2, hz2⟩ := bg hb2; (try simp at hz2); (try (refine got (p := w1.heap.size < w2.heap.size) ?_ ?_; (focus (go_size; done)); intro q2_w10)); (try (refine got (p := w2.cell? ⟨w1.heap.size, 0, none⟩ = some (.int .i64 0)) ?_ ?_; (focus (refine (hc2 _ _ ?_ ?_).trans ?_; (focus (go_size; done)); (focus (first | omega | (simp; omega))); go_simp; done)); intro c2_w10_0)); (try (refine got (p := w2.cell? ⟨w1.heap.size, 1, none⟩ = some (.int .i64 3)) ?_ ?_; (focus (refine (hc2 _ _ ?_ ?_).trans ?_; (focus (go_size; done)); (focus (first | omega | (simp; omega))); go_simp; done)); intro c2_w10_1)); (try (refine got (p := w2.cell? ⟨w1.heap.size, 2, none⟩ = some (.int .i64 6)) ?_ ?_; (focus (refine (hc2 _ _ ?_ ?_).trans ?_; (focus (go_size; done)); (focus (first | omega | (simp; omega))); go_simp; done)); intro c2_w10_2)); (try (refine got (p := w2.cell? ⟨w1.heap.size, 3, none⟩ = some (.int .i64 7)) ?_ ?_; (focus (refine (hc2 _ _ ?_ ?_).trans ?_; (focus (go_size; done)); (focus (first | omega | (simp; omega))); go_simp; done)); intro c2_w10_3)); (try (refine got (p := w2.cell? ⟨w1.heap.size, 4, none⟩ = some (.int .i64 10)) ?_ ?_; (focus (refine (hc2 _ _ ?_ ?_).trans ?_; (focus (go_size; done)); (focus (first | omega | (simp; omega))); go_simp; done)); intro c2_w10_4)); (try (refine got (p := w2.cell? ⟨w1.heap.size, 5, none⟩ = some (.int .i64 13)) ?_ ?_; (focus (refine (hc2 _ _ ?_ ?_).trans ?_; (focus (go_size; done)); (focus (first | omega | (simp; omega))); go_simp; done)); intro c2_w10_5)); (try (refine got (p := w2.cell? ⟨w1.heap.size, 6, none⟩ = some (.int .i64 14)) ?_ ?_; (focus (refine (hc2 _ _ ?_ ?_).trans ?_; (focus (go_size; done)); (focus (first | omega | (simp; omega))); go_simp; done)); intro c2_w10_6)); (try (refine got (p := ∀ o, w2.frozen? ⟨w1.heap.size, o, none⟩ = false) ?_ ?_; (focus (intro o; refine (hf2 _ _ ?_ ?_).trans ?_; (focus (go_size; done)); (focus (first | omega | (simp; omega))); go_simp; done)); intro f2_w10)); clear hc2 hf2)
  have h2 : k2 = 0 ∨ k2 = 1 ∨ k2 = 2 ∨ k2 = 3 ∨ k2 = 4 ∨ k2 = 5 ∨ k2 = 6 := by omega
  rcases h2 with rfl | rfl | rfl | rfl | rfl | rfl | rfl
  all_goals
    go_wp2
    go_ret
    exact ⟨_, rfl, by omega, by omega, by (repeat' (first | (with_reducible refine Rd.set_ ?_ ?_ ?_ _) | (with_reducible refine Rd.alloc ?_ _) | (with_reducible refine Rd.drew ?_) | (refine Rd.more (by assumption) ?_; (first | omega | (simp; omega))) | (show _ ≠ _; (first | omega | (simp; omega))))), by (repeat' (first | (with_reducible exact gb_refl _ _) | (with_reducible refine gb_alloc ?_ _) | (with_reducible refine gb_drew ?_) | (with_reducible refine gb_set ?_ ?_ _) | (with_reducible refine gb_step ?_ (by assumption)) | (with_reducible refine gb_bl ?_ (by assumption)) | (left; rfl) | (right; go_size) | go_size))⟩

def DrewHex (w : World) (e : Ending) (w' : World) : Prop :=
  ∃ n k : Int, e = .returned (.tuple #[.int .i64 n, .int .i64 k]) ∧ -1 ≤ n ∧ n ≤ 22 ∧ -1 ≤ k ∧ k ≤ 6 ∧ Below w.heap.size w w'
end Go.Proofs.Ytjodcaeohkjlnaa
