/-
  The draws of tones and hexachords return: the code may be any bytes.
-/
import Derived.Test.YtjodcaeohkjlnaaDoorPick
import Derived.Test.YtjodcaeohkjlnaaDoorTones
import Derived.Deep.RegionHeld3
import Derived.Deep.RegionWith
namespace Go.Proofs.YtjodcaeohkjlnaaDoor
open Go.RowKit
set_option maxRecDepth 100000
set_option linter.unusedVariables false

/-- a []byte that came in -/
def CodeAt (w : World) (a : Option Addr) (n : Nat) : Prop :=
  n = 0 ∨ ∃ A off, a = some ⟨A, off, none⟩ ∧ A < w.heap.size ∧ ∀ i, i < n → ∃ z : Int, 0 ≤ z ∧ z ≤ 255 ∧ w.cell? ⟨A, off + i, none⟩ = some (.int .u8 z)

/-- what opening gives: a reader in the new block -/
def Opened (w : World) (e : Ending) (w' : World) : Prop :=
  ∃ A, e = .returned (.pointer (some ⟨w.heap.size, 0, none⟩)) ∧ Rd w' w.heap.size A 0 ∧ Below w.heap.size w w' ∧ w.heap.size < w'.heap.size

theorem opened {w : World} {a : Option Addr} {n m cap : Nat} (h : CodeAt w a n) (hm : m ≤ n) (hl : m ≤ 2000) :
    Opened w (.returned (.pointer (some ⟨w.heap.size, 0, none⟩))) (w.alloc (.cells #[.slice a m cap, .int .i64 0] 137)) := by
  have hh : (w.alloc (.cells #[.slice a m cap, .int .i64 0] 137)).heap[w.heap.size]? = some (.cells #[.slice a m cap, .int .i64 ((0 : Nat) : Int)] 137 (0, 0)) := heap_alloc_new w _
  have hb : Below w.heap.size w (w.alloc (.cells #[.slice a m cap, .int .i64 0] 137)) := (Below.refl _ _).alloc (Nat.le_refl _) _
  rcases h with rfl | ⟨A, off, rfl, hA, hc⟩
  · exact ⟨w.heap.size, rfl, ⟨0, Nat.le_refl _, _, _, _, hh, hl, by simp, .inl (by omega)⟩, hb, by simp⟩
  · refine ⟨A, rfl, ⟨0, Nat.le_refl _, _, _, _, hh, hl, by simp; omega, .inr ⟨off, rfl, by omega, fun i hi => ?_⟩⟩, hb, by simp⟩
    obtain ⟨z, h0, h1, hz⟩ := hc i (by omega)
    exact ⟨z, h0, h1, (hb.cell (p := ⟨A, off + i, none⟩) hA).trans hz⟩

theorem open_any (a : Option Addr) (n cap : Nat) (w : World) (h : CodeAt w a n) (hc : n ≤ cap) (hcap : cap ≤ maxLen) :
    Calls Tryd.prog 77 #[.slice a n cap] w (Opened w) := by
  unfold maxLen at hcap
  have H : ∀ m c, m ≤ n → m ≤ 2000 → Opened w (.returned (.pointer (some ⟨w.heap.size, 0, none⟩))) (w.alloc (.cells #[.slice a m c, .int .i64 0] 137)) := fun m c h1 h2 => opened h h1 h2
  by_cases hn : n ≤ 2000
  · have g : decide ((2000 : Int) < (n : Int)) = false := by simp; omega
    go_enter Tryd.func77, Tryd.ntmps77
    go_wp2
    go_ret
    exact H n cap (Nat.le_refl _) hn
  · have g : (2000 : Int) < (n : Int) := by omega
    have g2 : (2000 : Int) ≤ (cap : Int) := by omega
    go_enter Tryd.func77, Tryd.ntmps77
    go_wp2
    go_ret
    exact H 2000 cap (by omega) (Nat.le_refl _)

/-- a tone that was drawn: its step lies near the gamut -/
def TonePicked (B A q : Nat) (w : World) (e : Ending) (w' : World) : Prop :=
  ∃ (s : Int) (b : Bool), e = .returned (.agg #[.int .i64 s, .bool b]) ∧ -1 ≤ s ∧ s ≤ 21 ∧ Rd w' B A (q + 3) ∧ w.grownBy w' (some B)

set_option maxHeartbeats 2000000 in
theorem l91Tone_any (B A q : Nat) (hq : q ≤ 900000) (w : World) (h : Rd w B A q) :
    Calls Tryd.prog 76 #[.pointer (some ⟨B, 0, none⟩)] w (TonePicked B A q w) := by
  have hB := h.lt
  have hA := h.ltA
  go_enter Tryd.func76, Tryd.ntmps76
  go_wp2_with (fail)
  (go_at_call 85; refine (pick_any 40 B A q (by omega) (by omega) (by omega) _ (h.alloc _)).mono ?_; rintro e w1 ⟨k1, rfl, h10, h11, hr1, hb1⟩; obtain ⟨hc1, hf1, hz1⟩ := bg hb1; (try simp at hz1); (try (refine got (p := w.heap.size < w1.heap.size) ?_ ?_; (focus (go_size; done)); intro q1_w0)); (try (refine got (p := w1.cell? ⟨w.heap.size, 0, none⟩ = some (.int .i64 0)) ?_ ?_; (focus (refine (hc1 _ _ ?_ ?_).trans ?_; (focus (go_size; done)); (focus (first | omega | (simp; omega))); go_simp; done)); intro c1_w0_0)); (try (refine got (p := w1.cell? ⟨w.heap.size, 1, none⟩ = some (.bool false)) ?_ ?_; (focus (refine (hc1 _ _ ?_ ?_).trans ?_; (focus (go_size; done)); (focus (first | omega | (simp; omega))); go_simp; done)); intro c1_w0_1)); (try (refine got (p := ∀ o, w1.frozen? ⟨w.heap.size, o, none⟩ = false) ?_ ?_; (focus (intro o; refine (hf1 _ _ ?_ ?_).trans ?_; (focus (go_size; done)); (focus (first | omega | (simp; omega))); go_simp; done)); intro f1_w0)); clear hc1 hf1)
  by_cases g0 : k1 = 0
  · subst g0
    go_wp2_with (fail)
    (go_at_call 85; refine (pick_any 4 B A (q + 1) (by omega) (by omega) (by omega) _ (hr1.alloc _)).mono ?_; rintro e w2 ⟨k2, rfl, h20, h21, hr2, hb2⟩; obtain ⟨hc2, hf2, hz2⟩ := bg hb2; (try simp at hz2); (try (refine got (p := w.heap.size < w2.heap.size) ?_ ?_; (focus (go_size; done)); intro q2_w0)); (try (refine got (p := w2.cell? ⟨w.heap.size, 0, none⟩ = some (.int .i64 0)) ?_ ?_; (focus (refine (hc2 _ _ ?_ ?_).trans ?_; (focus (go_size; done)); (focus (first | omega | (simp; omega))); go_simp; done)); intro c2_w0_0)); (try (refine got (p := w2.cell? ⟨w.heap.size, 1, none⟩ = some (.bool false)) ?_ ?_; (focus (refine (hc2 _ _ ?_ ?_).trans ?_; (focus (go_size; done)); (focus (first | omega | (simp; omega))); go_simp; done)); intro c2_w0_1)); (try (refine got (p := ∀ o, w2.frozen? ⟨w.heap.size, o, none⟩ = false) ?_ ?_; (focus (intro o; refine (hf2 _ _ ?_ ?_).trans ?_; (focus (go_size; done)); (focus (first | omega | (simp; omega))); go_simp; done)); intro f2_w0)); (try (refine got (p := w1.heap.size < w2.heap.size) ?_ ?_; (focus (go_size; done)); intro q2_w10)); (try (refine got (p := w2.cell? ⟨w1.heap.size, 0, none⟩ = some (.int .i64 (-1))) ?_ ?_; (focus (refine (hc2 _ _ ?_ ?_).trans ?_; (focus (go_size; done)); (focus (first | omega | (simp; omega))); go_simp; done)); intro c2_w10_0)); (try (refine got (p := w2.cell? ⟨w1.heap.size, 1, none⟩ = some (.int .i64 21)) ?_ ?_; (focus (refine (hc2 _ _ ?_ ?_).trans ?_; (focus (go_size; done)); (focus (first | omega | (simp; omega))); go_simp; done)); intro c2_w10_1)); (try (refine got (p := w2.cell? ⟨w1.heap.size, 2, none⟩ = some (.int .i64 20)) ?_ ?_; (focus (refine (hc2 _ _ ?_ ?_).trans ?_; (focus (go_size; done)); (focus (first | omega | (simp; omega))); go_simp; done)); intro c2_w10_2)); (try (refine got (p := w2.cell? ⟨w1.heap.size, 3, none⟩ = some (.int .i64 0)) ?_ ?_; (focus (refine (hc2 _ _ ?_ ?_).trans ?_; (focus (go_size; done)); (focus (first | omega | (simp; omega))); go_simp; done)); intro c2_w10_3)); (try (refine got (p := ∀ o, w2.frozen? ⟨w1.heap.size, o, none⟩ = false) ?_ ?_; (focus (intro o; refine (hf2 _ _ ?_ ?_).trans ?_; (focus (go_size; done)); (focus (first | omega | (simp; omega))); go_simp; done)); intro f2_w10)); clear hc2 hf2)
    have h2 : k2 = 0 ∨ k2 = 1 ∨ k2 = 2 ∨ k2 = 3 := by omega
    rcases h2 with rfl | rfl | rfl | rfl
    · go_wp2
      refine bodyPost_ret (v := .agg #[.int .i64 (-1), .bool false]) (by simp only [results, Tryd.results76]; go_simp) rfl ⟨_, _, rfl, by omega, by omega, by (repeat' (first | (with_reducible refine Rd.set_ ?_ ?_ ?_ _) | (with_reducible refine Rd.alloc ?_ _) | (with_reducible refine Rd.drew ?_) | (refine Rd.more (by assumption) ?_; (first | omega | (simp; omega))) | (show _ ≠ _; (first | omega | (simp; omega))))), by (repeat' (first | (with_reducible exact gb_refl _ _) | (with_reducible refine gb_alloc ?_ _) | (with_reducible refine gb_drew ?_) | (with_reducible refine gb_set ?_ ?_ _) | (with_reducible refine gb_step ?_ (by assumption)) | (with_reducible refine gb_bl ?_ (by assumption)) | (left; rfl) | (right; go_size) | go_size))⟩
    · go_wp2
      refine bodyPost_ret (v := .agg #[.int .i64 21, .bool false]) (by simp only [results, Tryd.results76]; go_simp) rfl ⟨_, _, rfl, by omega, by omega, by (repeat' (first | (with_reducible refine Rd.set_ ?_ ?_ ?_ _) | (with_reducible refine Rd.alloc ?_ _) | (with_reducible refine Rd.drew ?_) | (refine Rd.more (by assumption) ?_; (first | omega | (simp; omega))) | (show _ ≠ _; (first | omega | (simp; omega))))), by (repeat' (first | (with_reducible exact gb_refl _ _) | (with_reducible refine gb_alloc ?_ _) | (with_reducible refine gb_drew ?_) | (with_reducible refine gb_set ?_ ?_ _) | (with_reducible refine gb_step ?_ (by assumption)) | (with_reducible refine gb_bl ?_ (by assumption)) | (left; rfl) | (right; go_size) | go_size))⟩
    · go_wp2
      refine bodyPost_ret (v := .agg #[.int .i64 20, .bool false]) (by simp only [results, Tryd.results76]; go_simp) rfl ⟨_, _, rfl, by omega, by omega, by (repeat' (first | (with_reducible refine Rd.set_ ?_ ?_ ?_ _) | (with_reducible refine Rd.alloc ?_ _) | (with_reducible refine Rd.drew ?_) | (refine Rd.more (by assumption) ?_; (first | omega | (simp; omega))) | (show _ ≠ _; (first | omega | (simp; omega))))), by (repeat' (first | (with_reducible exact gb_refl _ _) | (with_reducible refine gb_alloc ?_ _) | (with_reducible refine gb_drew ?_) | (with_reducible refine gb_set ?_ ?_ _) | (with_reducible refine gb_step ?_ (by assumption)) | (with_reducible refine gb_bl ?_ (by assumption)) | (left; rfl) | (right; go_size) | go_size))⟩
    · go_wp2
      refine bodyPost_ret (v := .agg #[.int .i64 0, .bool false]) (by simp only [results, Tryd.results76]; go_simp) rfl ⟨_, _, rfl, by omega, by omega, by (repeat' (first | (with_reducible refine Rd.set_ ?_ ?_ ?_ _) | (with_reducible refine Rd.alloc ?_ _) | (with_reducible refine Rd.drew ?_) | (refine Rd.more (by assumption) ?_; (first | omega | (simp; omega))) | (show _ ≠ _; (first | omega | (simp; omega))))), by (repeat' (first | (with_reducible exact gb_refl _ _) | (with_reducible refine gb_alloc ?_ _) | (with_reducible refine gb_drew ?_) | (with_reducible refine gb_set ?_ ?_ _) | (with_reducible refine gb_step ?_ (by assumption)) | (with_reducible refine gb_bl ?_ (by assumption)) | (left; rfl) | (right; go_size) | go_size))⟩
  by_cases g1 : k1 = 1
  · subst g1
    go_wp2_with (fail)
    (go_at_call 85; refine (pick_any 21 B A (q + 1) (by omega) (by omega) (by omega) _ (hr1)).mono ?_; rintro e w2 ⟨k2, rfl, h20, h21, hr2, hb2⟩; obtain ⟨hc2, hf2, hz2⟩ := bg hb2; (try simp at hz2); (try (refine got (p := w.heap.size < w2.heap.size) ?_ ?_; (focus (go_size; done)); intro q2_w0)); (try (refine got (p := w2.cell? ⟨w.heap.size, 0, none⟩ = some (.int .i64 0)) ?_ ?_; (focus (refine (hc2 _ _ ?_ ?_).trans ?_; (focus (go_size; done)); (focus (first | omega | (simp; omega))); go_simp; done)); intro c2_w0_0)); (try (refine got (p := w2.cell? ⟨w.heap.size, 1, none⟩ = some (.bool false)) ?_ ?_; (focus (refine (hc2 _ _ ?_ ?_).trans ?_; (focus (go_size; done)); (focus (first | omega | (simp; omega))); go_simp; done)); intro c2_w0_1)); (try (refine got (p := ∀ o, w2.frozen? ⟨w.heap.size, o, none⟩ = false) ?_ ?_; (focus (intro o; refine (hf2 _ _ ?_ ?_).trans ?_; (focus (go_size; done)); (focus (first | omega | (simp; omega))); go_simp; done)); intro f2_w0)); (try (refine got (p := w1.heap.size < w2.heap.size) ?_ ?_; (focus (go_size; done)); intro q2_w10)); (try (refine got (p := w2.cell? ⟨w1.heap.size, 0, none⟩ = some (.int .i64 (-1))) ?_ ?_; (focus (refine (hc2 _ _ ?_ ?_).trans ?_; (focus (go_size; done)); (focus (first | omega | (simp; omega))); go_simp; done)); intro c2_w10_0)); (try (refine got (p := w2.cell? ⟨w1.heap.size, 1, none⟩ = some (.int .i64 21)) ?_ ?_; (focus (refine (hc2 _ _ ?_ ?_).trans ?_; (focus (go_size; done)); (focus (first | omega | (simp; omega))); go_simp; done)); intro c2_w10_1)); (try (refine got (p := w2.cell? ⟨w1.heap.size, 2, none⟩ = some (.int .i64 20)) ?_ ?_; (focus (refine (hc2 _ _ ?_ ?_).trans ?_; (focus (go_size; done)); (focus (first | omega | (simp; omega))); go_simp; done)); intro c2_w10_2)); (try (refine got (p := w2.cell? ⟨w1.heap.size, 3, none⟩ = some (.int .i64 0)) ?_ ?_; (focus (refine (hc2 _ _ ?_ ?_).trans ?_; (focus (go_size; done)); (focus (first | omega | (simp; omega))); go_simp; done)); intro c2_w10_3)); (try (refine got (p := ∀ o, w2.frozen? ⟨w1.heap.size, o, none⟩ = false) ?_ ?_; (focus (intro o; refine (hf2 _ _ ?_ ?_).trans ?_; (focus (go_size; done)); (focus (first | omega | (simp; omega))); go_simp; done)); intro f2_w10)); clear hc2 hf2)
    go_wp2
    refine bodyPost_ret (v := .agg #[.int .i64 k2, .bool true]) (by simp only [results, Tryd.results76]; go_simp) rfl ⟨_, _, rfl, by omega, by omega, by (repeat' (first | (with_reducible refine Rd.set_ ?_ ?_ ?_ _) | (with_reducible refine Rd.alloc ?_ _) | (with_reducible refine Rd.drew ?_) | (refine Rd.more (by assumption) ?_; (first | omega | (simp; omega))) | (show _ ≠ _; (first | omega | (simp; omega))))), by (repeat' (first | (with_reducible exact gb_refl _ _) | (with_reducible refine gb_alloc ?_ _) | (with_reducible refine gb_drew ?_) | (with_reducible refine gb_set ?_ ?_ _) | (with_reducible refine gb_step ?_ (by assumption)) | (with_reducible refine gb_bl ?_ (by assumption)) | (left; rfl) | (right; go_size) | go_size))⟩
  have e0 : (k1 == 0) = false := by simpa using g0
  have e1 : (k1 == 1) = false := by simpa using g1
  clear g0 g1
  go_wp2_with (fail)
  (go_at_call 85; refine (pick_any 11 B A (q + 1) (by omega) (by omega) (by omega) _ (hr1)).mono ?_; rintro e w2 ⟨k2, rfl, h20, h21, hr2, hb2⟩; obtain ⟨hc2, hf2, hz2⟩ := bg hb2; (try simp at hz2); (try (refine got (p := w.heap.size < w2.heap.size) ?_ ?_; (focus (go_size; done)); intro q2_w0)); (try (refine got (p := w2.cell? ⟨w.heap.size, 0, none⟩ = some (.int .i64 0)) ?_ ?_; (focus (refine (hc2 _ _ ?_ ?_).trans ?_; (focus (go_size; done)); (focus (first | omega | (simp; omega))); go_simp; done)); intro c2_w0_0)); (try (refine got (p := w2.cell? ⟨w.heap.size, 1, none⟩ = some (.bool false)) ?_ ?_; (focus (refine (hc2 _ _ ?_ ?_).trans ?_; (focus (go_size; done)); (focus (first | omega | (simp; omega))); go_simp; done)); intro c2_w0_1)); (try (refine got (p := ∀ o, w2.frozen? ⟨w.heap.size, o, none⟩ = false) ?_ ?_; (focus (intro o; refine (hf2 _ _ ?_ ?_).trans ?_; (focus (go_size; done)); (focus (first | omega | (simp; omega))); go_simp; done)); intro f2_w0)); (try (refine got (p := w1.heap.size < w2.heap.size) ?_ ?_; (focus (go_size; done)); intro q2_w10)); (try (refine got (p := w2.cell? ⟨w1.heap.size, 0, none⟩ = some (.int .i64 (-1))) ?_ ?_; (focus (refine (hc2 _ _ ?_ ?_).trans ?_; (focus (go_size; done)); (focus (first | omega | (simp; omega))); go_simp; done)); intro c2_w10_0)); (try (refine got (p := w2.cell? ⟨w1.heap.size, 1, none⟩ = some (.int .i64 21)) ?_ ?_; (focus (refine (hc2 _ _ ?_ ?_).trans ?_; (focus (go_size; done)); (focus (first | omega | (simp; omega))); go_simp; done)); intro c2_w10_1)); (try (refine got (p := w2.cell? ⟨w1.heap.size, 2, none⟩ = some (.int .i64 20)) ?_ ?_; (focus (refine (hc2 _ _ ?_ ?_).trans ?_; (focus (go_size; done)); (focus (first | omega | (simp; omega))); go_simp; done)); intro c2_w10_2)); (try (refine got (p := w2.cell? ⟨w1.heap.size, 3, none⟩ = some (.int .i64 0)) ?_ ?_; (focus (refine (hc2 _ _ ?_ ?_).trans ?_; (focus (go_size; done)); (focus (first | omega | (simp; omega))); go_simp; done)); intro c2_w10_3)); (try (refine got (p := ∀ o, w2.frozen? ⟨w1.heap.size, o, none⟩ = false) ?_ ?_; (focus (intro o; refine (hf2 _ _ ?_ ?_).trans ?_; (focus (go_size; done)); (focus (first | omega | (simp; omega))); go_simp; done)); intro f2_w10)); clear hc2 hf2)
  go_wp2_with (fail)
  (go_at_call 127; refine (l1Letter_any _ (by omega) _).mono ?_; rintro e wx ⟨rfl, rfl⟩)
  by_cases g2 : (3 + k2) % 7 = 2
  · have e2 : ((3 + k2) % 7 == 2) = true := by simpa using g2
    clear g2
    go_wp2_with (fail)
    (go_at_call 85; refine (pick_any 2 B A (q + 1 + 1) (by omega) (by omega) (by omega) _ (hr2)).mono ?_; rintro e w3 ⟨k3, rfl, h30, h31, hr3, hb3⟩; obtain ⟨hc3, hf3, hz3⟩ := bg hb3; (try simp at hz3); (try (refine got (p := w.heap.size < w3.heap.size) ?_ ?_; (focus (go_size; done)); intro q3_w0)); (try (refine got (p := w3.cell? ⟨w.heap.size, 0, none⟩ = some (.int .i64 0)) ?_ ?_; (focus (refine (hc3 _ _ ?_ ?_).trans ?_; (focus (go_size; done)); (focus (first | omega | (simp; omega))); go_simp; done)); intro c3_w0_0)); (try (refine got (p := w3.cell? ⟨w.heap.size, 1, none⟩ = some (.bool false)) ?_ ?_; (focus (refine (hc3 _ _ ?_ ?_).trans ?_; (focus (go_size; done)); (focus (first | omega | (simp; omega))); go_simp; done)); intro c3_w0_1)); (try (refine got (p := ∀ o, w3.frozen? ⟨w.heap.size, o, none⟩ = false) ?_ ?_; (focus (intro o; refine (hf3 _ _ ?_ ?_).trans ?_; (focus (go_size; done)); (focus (first | omega | (simp; omega))); go_simp; done)); intro f3_w0)); (try (refine got (p := w1.heap.size < w3.heap.size) ?_ ?_; (focus (go_size; done)); intro q3_w10)); (try (refine got (p := w3.cell? ⟨w1.heap.size, 0, none⟩ = some (.int .i64 (-1))) ?_ ?_; (focus (refine (hc3 _ _ ?_ ?_).trans ?_; (focus (go_size; done)); (focus (first | omega | (simp; omega))); go_simp; done)); intro c3_w10_0)); (try (refine got (p := w3.cell? ⟨w1.heap.size, 1, none⟩ = some (.int .i64 21)) ?_ ?_; (focus (refine (hc3 _ _ ?_ ?_).trans ?_; (focus (go_size; done)); (focus (first | omega | (simp; omega))); go_simp; done)); intro c3_w10_1)); (try (refine got (p := w3.cell? ⟨w1.heap.size, 2, none⟩ = some (.int .i64 20)) ?_ ?_; (focus (refine (hc3 _ _ ?_ ?_).trans ?_; (focus (go_size; done)); (focus (first | omega | (simp; omega))); go_simp; done)); intro c3_w10_2)); (try (refine got (p := w3.cell? ⟨w1.heap.size, 3, none⟩ = some (.int .i64 0)) ?_ ?_; (focus (refine (hc3 _ _ ?_ ?_).trans ?_; (focus (go_size; done)); (focus (first | omega | (simp; omega))); go_simp; done)); intro c3_w10_3)); (try (refine got (p := ∀ o, w3.frozen? ⟨w1.heap.size, o, none⟩ = false) ?_ ?_; (focus (intro o; refine (hf3 _ _ ?_ ?_).trans ?_; (focus (go_size; done)); (focus (first | omega | (simp; omega))); go_simp; done)); intro f3_w10)); clear hc3 hf3)
    go_wp2
    refine bodyPost_ret (v := .agg #[.int .i64 (3 + k2), .bool (k3 == 0)]) (by simp only [results, Tryd.results76]; go_simp) rfl ⟨_, _, rfl, by omega, by omega, by (repeat' (first | (with_reducible refine Rd.set_ ?_ ?_ ?_ _) | (with_reducible refine Rd.alloc ?_ _) | (with_reducible refine Rd.drew ?_) | (refine Rd.more (by assumption) ?_; (first | omega | (simp; omega))) | (show _ ≠ _; (first | omega | (simp; omega))))), by (repeat' (first | (with_reducible exact gb_refl _ _) | (with_reducible refine gb_alloc ?_ _) | (with_reducible refine gb_drew ?_) | (with_reducible refine gb_set ?_ ?_ _) | (with_reducible refine gb_step ?_ (by assumption)) | (with_reducible refine gb_bl ?_ (by assumption)) | (left; rfl) | (right; go_size) | go_size))⟩
  · have e2 : ((3 + k2) % 7 == 2) = false := by simpa using g2
    clear g2
    go_wp2
    refine bodyPost_ret (v := .agg #[.int .i64 (3 + k2), .bool false]) (by simp only [results, Tryd.results76]; go_simp) rfl ⟨_, _, rfl, by omega, by omega, by (repeat' (first | (with_reducible refine Rd.set_ ?_ ?_ ?_ _) | (with_reducible refine Rd.alloc ?_ _) | (with_reducible refine Rd.drew ?_) | (refine Rd.more (by assumption) ?_; (first | omega | (simp; omega))) | (show _ ≠ _; (first | omega | (simp; omega))))), by (repeat' (first | (with_reducible exact gb_refl _ _) | (with_reducible refine gb_alloc ?_ _) | (with_reducible refine gb_drew ?_) | (with_reducible refine gb_set ?_ ?_ _) | (with_reducible refine gb_step ?_ (by assumption)) | (with_reducible refine gb_bl ?_ (by assumption)) | (left; rfl) | (right; go_size) | go_size))⟩
end Go.Proofs.YtjodcaeohkjlnaaDoor
