/-
  The texts of tones in the program.
-/
import Derived.Test.YthnofdkkocpjhaaDoorTone
import Derived.Test.YthnofdkkocpjhaaDoorTxt
import Derived.Test.YthnofdkkocpjhaaDoorShelf
namespace Go.Proofs.YthnofdkkocpjhaaDoor
open Go.RowKit
set_option maxRecDepth 100000
set_option linter.unusedVariables false

theorem itoa3 (q : Int) (h0 : 0 ≤ q) (h1 : q ≤ 2) (w : World) : Calls Tryd.prog 55 #[.int .i64 q] w fun e w' => e = .returned (.string (dg q)) ∧ w = w' := by
  have : q = 0 ∨ q = 1 ∨ q = 2 := by omega
  rcases this with rfl | rfl | rfl
  · exact (Tryd.strconv_Itoa_small 0 (by decide) w).mono fun e w' ⟨h1, h2⟩ => ⟨h1.trans (by rw [show Lib.decDigits 0 = [48] by first | decide +kernel | simp [Lib.decDigits]]; rfl), h2.symm⟩
  · exact (Tryd.strconv_Itoa_small 1 (by decide) w).mono fun e w' ⟨h1, h2⟩ => ⟨h1.trans (by rw [show Lib.decDigits 1 = [49] by first | decide +kernel | simp [Lib.decDigits]]; rfl), h2.symm⟩
  · exact (Tryd.strconv_Itoa_small 2 (by decide) w).mono fun e w' ⟨h1, h2⟩ => ⟨h1.trans (by rw [show Lib.decDigits 2 = [50] by first | decide +kernel | simp [Lib.decDigits]]; rfl), h2.symm⟩

set_option maxHeartbeats 2000000 in
theorem text_any (s : Int) (b : Bool) (hv : vd s b = true) (w : World) :
    Calls Tryd.prog 44 #[.agg #[.int .i64 s, .bool b]] w fun e w' => e = .returned (.string ⟨#[tb0 s b, tb1 s]⟩) ∧ Below w.heap.size w w' := by
  obtain ⟨h0, h1⟩ := vd_in hv
  have hd0 : (0 : Int) ≤ s / 7 := by omega
  have hd1 : s / 7 ≤ 2 := by omega
  have HT1 : Hid (dg (s / 7) = ⟨#[tb1 s]⟩) := (rfl : dg (s / 7) = ⟨#[tb1 s]⟩)
  cases b
  · have hadd : ∀ W : World, (Op.stringOp .add (ltr s) (dg (s / 7))).run Tryd.prog W = .ok (.string ⟨#[tb0 s false, tb1 s]⟩) W := fun W => by
      rw [HT1.out]
      exact run_string_add_sum W _ _ (by show 1 + 1 ≤ 9223372036854775807; omega)
    go_enter Tryd.func44, Tryd.ntmps44
    go_wp2_with (fail)
    (go_at_call 52; refine (letter_any _ _ h0 h1 _).mono ?_; rintro e w1 ⟨rfl, hb1⟩; obtain ⟨hc1, hf1, hz1⟩ := bl hb1; (try simp at hz1); (try (refine got (p := w.heap.size < w1.heap.size) ?_ ?_; (focus (go_size; done)); intro q1_w0)); (try (refine got (p := w1.cell? ⟨w.heap.size, 0, none⟩ = some (.int .i64 s)) ?_ ?_; (focus (refine (hc1 _ _ ?_).trans ?_; (focus (go_size; done)); go_simp; done)); intro c1_w0_0)); (try (refine got (p := w1.cell? ⟨w.heap.size, 1, none⟩ = some (.bool false)) ?_ ?_; (focus (refine (hc1 _ _ ?_).trans ?_; (focus (go_size; done)); go_simp; done)); intro c1_w0_1)); (try (refine got (p := ∀ o, w1.frozen? ⟨w.heap.size, o, none⟩ = false) ?_ ?_; (focus (intro o; refine (hf1 _ _ ?_).trans ?_; (focus (go_size; done)); go_simp; done)); intro f1_w0)); clear hc1 hf1)
    go_wp2_with (fail)
    (go_at_call 55; refine (itoa3 _ hd0 hd1 _).mono ?_; rintro e wx ⟨rfl, rfl⟩)
    go_wp2
    go_ret
    exact ⟨rfl, by (repeat' (first | (with_reducible exact Below.refl _ _) | (with_reducible refine Below.alloc ?_ ?_ _) | (with_reducible refine Below.drew ?_) | (with_reducible refine Below.setCell ?_ ?_ _) | (with_reducible refine bl_step ?_ (by assumption)) | go_size))⟩
  · have hadd : ∀ W : World, (Op.stringOp .add ⟨#[98]⟩ (dg (s / 7))).run Tryd.prog W = .ok (.string ⟨#[tb0 s true, tb1 s]⟩) W := fun W => by
      rw [HT1.out]
      exact run_string_add_sum W _ _ (by show 1 + 1 ≤ 9223372036854775807; omega)
    go_enter Tryd.func44, Tryd.ntmps44
    go_wp2_with (fail)
    (go_at_call 52; refine (letter_any _ _ h0 h1 _).mono ?_; rintro e w1 ⟨rfl, hb1⟩; obtain ⟨hc1, hf1, hz1⟩ := bl hb1; (try simp at hz1); (try (refine got (p := w.heap.size < w1.heap.size) ?_ ?_; (focus (go_size; done)); intro q1_w0)); (try (refine got (p := w1.cell? ⟨w.heap.size, 0, none⟩ = some (.int .i64 s)) ?_ ?_; (focus (refine (hc1 _ _ ?_).trans ?_; (focus (go_size; done)); go_simp; done)); intro c1_w0_0)); (try (refine got (p := w1.cell? ⟨w.heap.size, 1, none⟩ = some (.bool true)) ?_ ?_; (focus (refine (hc1 _ _ ?_).trans ?_; (focus (go_size; done)); go_simp; done)); intro c1_w0_1)); (try (refine got (p := ∀ o, w1.frozen? ⟨w.heap.size, o, none⟩ = false) ?_ ?_; (focus (intro o; refine (hf1 _ _ ?_).trans ?_; (focus (go_size; done)); go_simp; done)); intro f1_w0)); clear hc1 hf1)
    go_wp2_with (fail)
    (go_at_call 55; refine (itoa3 _ hd0 hd1 _).mono ?_; rintro e wx ⟨rfl, rfl⟩)
    go_wp2
    go_ret
    exact ⟨rfl, by (repeat' (first | (with_reducible exact Below.refl _ _) | (with_reducible refine Below.alloc ?_ ?_ _) | (with_reducible refine Below.drew ?_) | (with_reducible refine Below.setCell ?_ ?_ _) | (with_reducible refine bl_step ?_ (by assumption)) | go_size))⟩
end Go.Proofs.YthnofdkkocpjhaaDoor
