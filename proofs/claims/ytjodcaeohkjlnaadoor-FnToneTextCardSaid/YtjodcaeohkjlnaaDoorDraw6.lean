/-
  The draws of a tone alone for other laws return.
-/
import Derived.Test.YtjodcaeohkjlnaaDoorDraw4
namespace Go.Proofs.YtjodcaeohkjlnaaDoor
open Go.RowKit
set_option maxRecDepth 100000
set_option linter.unusedVariables false

set_option maxHeartbeats 2000000 in
theorem drawToneText_any (a : Option Addr) (n cap : Nat) (w : World) (h : CodeAt w a n) (hc : n ≤ cap) (hcap : cap ≤ maxLen) :
    Calls Tryd.prog 20 #[.slice a n cap] w (DrewTone w) := by
  go_enter Tryd.func20, Tryd.ntmps20
  go_wp2_with (fail)
  (go_at_call 77; refine (open_any a n cap _ (h.alloc _) hc hcap).mono ?_; rintro e w1 ⟨A, rfl, hr1, hb1, hs1⟩; obtain ⟨hc1, hf1, hz1⟩ := bl hb1; (try simp at hz1); (try (refine got (p := w.heap.size < w1.heap.size) ?_ ?_; (focus (go_size; done)); intro q1_w0)); (try (refine got (p := w1.cell? ⟨w.heap.size, 0, none⟩ = some (.int .i64 0)) ?_ ?_; (focus (refine (hc1 _ _ ?_).trans ?_; (focus (go_size; done)); go_simp; done)); intro c1_w0_0)); (try (refine got (p := w1.cell? ⟨w.heap.size, 1, none⟩ = some (.bool false)) ?_ ?_; (focus (refine (hc1 _ _ ?_).trans ?_; (focus (go_size; done)); go_simp; done)); intro c1_w0_1)); (try (refine got (p := ∀ o, w1.frozen? ⟨w.heap.size, o, none⟩ = false) ?_ ?_; (focus (intro o; refine (hf1 _ _ ?_).trans ?_; (focus (go_size; done)); go_simp; done)); intro f1_w0)); clear hc1 hf1)
  have hr1 : Rd w1 (w.heap.size + 1) A 0 := by simpa using hr1
  have hB := hr1.lt
  have hA : A < w1.heap.size := hr1.ltA
  have hb1w : Below w.heap.size w w1 := bl_step ((Below.refl _ _).alloc (Nat.le_refl _) _) hb1
  go_wp2_with (fail)
  (go_at_call 76; refine (l91Tone_any (w.heap.size + 1) A 0 (by omega) _ hr1).mono ?_; rintro e w2 ⟨s, b, rfl, hs0, hs9, hr2, hb2⟩; obtain ⟨hc2, hf2, hz2⟩ := bg hb2; (try simp at hz2); (try (refine got (p := w.heap.size < w2.heap.size) ?_ ?_; (focus (go_size; done)); intro q2_w0)); (try (refine got (p := w2.cell? ⟨w.heap.size, 0, none⟩ = some (.int .i64 0)) ?_ ?_; (focus (refine (hc2 _ _ ?_ ?_).trans ?_; (focus (go_size; done)); (focus (first | omega | (simp; omega))); go_simp; done)); intro c2_w0_0)); (try (refine got (p := w2.cell? ⟨w.heap.size, 1, none⟩ = some (.bool false)) ?_ ?_; (focus (refine (hc2 _ _ ?_ ?_).trans ?_; (focus (go_size; done)); (focus (first | omega | (simp; omega))); go_simp; done)); intro c2_w0_1)); (try (refine got (p := ∀ o, w2.frozen? ⟨w.heap.size, o, none⟩ = false) ?_ ?_; (focus (intro o; refine (hf2 _ _ ?_ ?_).trans ?_; (focus (go_size; done)); (focus (first | omega | (simp; omega))); go_simp; done)); intro f2_w0)); clear hc2 hf2)
  have hb2w := below_gb hb1w hb2 (by omega)
  go_wp2
  refine bodyPost_ret (v := .agg #[.int .i64 s, .bool b]) (by simp only [results, Tryd.results20]; go_simp) rfl ⟨s, b, rfl, hs0, hs9, by (repeat' (first | (with_reducible assumption) | (with_reducible exact Below.refl _ _) | (with_reducible refine Below.alloc ?_ ?_ _) | (with_reducible refine Below.drew ?_) | (with_reducible refine Below.setCell ?_ ?_ _) | (with_reducible refine below_gb ?_ (by assumption) ?_) | (with_reducible refine bl_step ?_ (by assumption)) | go_size))⟩

set_option maxHeartbeats 2000000 in
theorem drawHexAll_any (a : Option Addr) (n cap : Nat) (w : World) (h : CodeAt w a n) (hc : n ≤ cap) (hcap : cap ≤ maxLen) :
    Calls Tryd.prog 33 #[.slice a n cap] w (DrewTone w) := by
  go_enter Tryd.func33, Tryd.ntmps33
  go_wp2_with (fail)
  (go_at_call 77; refine (open_any a n cap _ (h.alloc _) hc hcap).mono ?_; rintro e w1 ⟨A, rfl, hr1, hb1, hs1⟩; obtain ⟨hc1, hf1, hz1⟩ := bl hb1; (try simp at hz1); (try (refine got (p := w.heap.size < w1.heap.size) ?_ ?_; (focus (go_size; done)); intro q1_w0)); (try (refine got (p := w1.cell? ⟨w.heap.size, 0, none⟩ = some (.int .i64 0)) ?_ ?_; (focus (refine (hc1 _ _ ?_).trans ?_; (focus (go_size; done)); go_simp; done)); intro c1_w0_0)); (try (refine got (p := w1.cell? ⟨w.heap.size, 1, none⟩ = some (.bool false)) ?_ ?_; (focus (refine (hc1 _ _ ?_).trans ?_; (focus (go_size; done)); go_simp; done)); intro c1_w0_1)); (try (refine got (p := ∀ o, w1.frozen? ⟨w.heap.size, o, none⟩ = false) ?_ ?_; (focus (intro o; refine (hf1 _ _ ?_).trans ?_; (focus (go_size; done)); go_simp; done)); intro f1_w0)); clear hc1 hf1)
  have hr1 : Rd w1 (w.heap.size + 1) A 0 := by simpa using hr1
  have hB := hr1.lt
  have hA : A < w1.heap.size := hr1.ltA
  have hb1w : Below w.heap.size w w1 := bl_step ((Below.refl _ _).alloc (Nat.le_refl _) _) hb1
  go_wp2_with (fail)
  (go_at_call 76; refine (l91Tone_any (w.heap.size + 1) A 0 (by omega) _ hr1).mono ?_; rintro e w2 ⟨s, b, rfl, hs0, hs9, hr2, hb2⟩; obtain ⟨hc2, hf2, hz2⟩ := bg hb2; (try simp at hz2); (try (refine got (p := w.heap.size < w2.heap.size) ?_ ?_; (focus (go_size; done)); intro q2_w0)); (try (refine got (p := w2.cell? ⟨w.heap.size, 0, none⟩ = some (.int .i64 0)) ?_ ?_; (focus (refine (hc2 _ _ ?_ ?_).trans ?_; (focus (go_size; done)); (focus (first | omega | (simp; omega))); go_simp; done)); intro c2_w0_0)); (try (refine got (p := w2.cell? ⟨w.heap.size, 1, none⟩ = some (.bool false)) ?_ ?_; (focus (refine (hc2 _ _ ?_ ?_).trans ?_; (focus (go_size; done)); (focus (first | omega | (simp; omega))); go_simp; done)); intro c2_w0_1)); (try (refine got (p := ∀ o, w2.frozen? ⟨w.heap.size, o, none⟩ = false) ?_ ?_; (focus (intro o; refine (hf2 _ _ ?_ ?_).trans ?_; (focus (go_size; done)); (focus (first | omega | (simp; omega))); go_simp; done)); intro f2_w0)); clear hc2 hf2)
  have hb2w := below_gb hb1w hb2 (by omega)
  go_wp2
  refine bodyPost_ret (v := .agg #[.int .i64 s, .bool b]) (by simp only [results, Tryd.results33]; go_simp) rfl ⟨s, b, rfl, hs0, hs9, by (repeat' (first | (with_reducible assumption) | (with_reducible exact Below.refl _ _) | (with_reducible refine Below.alloc ?_ ?_ _) | (with_reducible refine Below.drew ?_) | (with_reducible refine Below.setCell ?_ ?_ _) | (with_reducible refine below_gb ?_ (by assumption) ?_) | (with_reducible refine bl_step ?_ (by assumption)) | go_size))⟩
end Go.Proofs.YtjodcaeohkjlnaaDoor
