/-
  The fewest formulas and the best reading, in the program.
-/
import Derived.Test.YtjhigjbfnemdjaaEm
import Derived.Test.YtjhigjbfnemdjaaLe
namespace Go.Proofs.Ytjhigjbfnemdjaa
open Go.RowKit Go.Maps
set_option maxRecDepth 100000
set_option linter.unusedVariables false

theorem each_none (w : World) (tv : Value) : Calls Try.prog 42 #[.agg #[.slice none 0 0, .slice none 0 0, .map none], .int .i64 0, tv] w fun e w' => e = .returned (.tuple #[]) ∧ Below w.heap.size w w' := by
  go_enter Try.func42, Try.ntmps42
  go_wp2_with (fail)
  go_loopw [14] (fun i wr => i = .int .i64 0 ∧ Below w.heap.size w wr) (fun _ _ => 0)
  case atStart => exact ⟨rfl, by (repeat' (first | (with_reducible exact Below.refl _ _) | (with_reducible refine Below.alloc ?_ ?_ _) | (with_reducible refine Below.drew ?_) | (with_reducible refine Below.setCell ?_ ?_ _) | (with_reducible refine bl_step ?_ (by assumption)) | go_size))⟩
  case round =>
    obtain ⟨rfl, hb⟩ := hrel
    go_wp2_with (fail)
    go_end0
    exact ⟨rfl, hb⟩

set_option maxHeartbeats 2000000 in
theorem whole_none (w : World) : Calls Try.prog 46 #[.agg #[.slice none 0 0, .slice none 0 0, .map none]] w fun e w' => e = .returned (rdV Rs.zero (.slice none 0 0)) ∧ Below w.heap.size w w' := by
  have hlk : ∀ w, (Instr.lookup 61 (.map none) (.int .i64 0) false).run Try.prog w = .ok (rdV Rs.zero (.slice none 0 0)) w := fun w => Maps.look_nil false keyedInt Try.underlying61 (zeroRun w) (kq_key (q := 0) (by omega))
  unfold rdV rdC Rs.zero at hlk
  have HE := Lib.hid (fun w tv => each_none w tv)
  go_enter Try.func46, Try.ntmps46
  go_wp2_with (fail)
  (go_at_call 42; refine (HE.out _ _).mono ?_; rintro e w1 ⟨rfl, hb1⟩; obtain ⟨hc1, hf1, hz1⟩ := bl hb1; (try simp at hz1); (try (refine got (p := w.heap.size < w1.heap.size) ?_ ?_; (focus (go_size; done)); intro q1_w0)); (try (refine got (p := w1.cell? ⟨w.heap.size, 0, none⟩ = some (.slice none 0 0)) ?_ ?_; (focus (refine (hc1 _ _ ?_).trans ?_; (focus (go_size; done)); go_simp; done)); intro c1_w0_0)); (try (refine got (p := w1.cell? ⟨w.heap.size, 1, none⟩ = some (.slice none 0 0)) ?_ ?_; (focus (refine (hc1 _ _ ?_).trans ?_; (focus (go_size; done)); go_simp; done)); intro c1_w0_1)); (try (refine got (p := w1.cell? ⟨w.heap.size, 2, none⟩ = some (.map none)) ?_ ?_; (focus (refine (hc1 _ _ ?_).trans ?_; (focus (go_size; done)); go_simp; done)); intro c1_w0_2)); (try (refine got (p := ∀ o, w1.frozen? ⟨w.heap.size, o, none⟩ = false) ?_ ?_; (focus (intro o; refine (hf1 _ _ ?_).trans ?_; (focus (go_size; done)); go_simp; done)); intro f1_w0)); (try (refine got (p := w.heap.size + 1 < w1.heap.size) ?_ ?_; (focus (go_size; done)); intro q1_w1)); (try (refine got (p := w1.cell? ⟨w.heap.size + 1, 0, none⟩ = some (.int .i64 0)) ?_ ?_; (focus (refine (hc1 _ _ ?_).trans ?_; (focus (go_size; done)); go_simp; done)); intro c1_w1_0)); (try (refine got (p := w1.cell? ⟨w.heap.size + 1, 1, none⟩ = some (.int .i64 0)) ?_ ?_; (focus (refine (hc1 _ _ ?_).trans ?_; (focus (go_size; done)); go_simp; done)); intro c1_w1_1)); (try (refine got (p := w1.cell? ⟨w.heap.size + 1, 2, none⟩ = some (.int .i64 0)) ?_ ?_; (focus (refine (hc1 _ _ ?_).trans ?_; (focus (go_size; done)); go_simp; done)); intro c1_w1_2)); (try (refine got (p := w1.cell? ⟨w.heap.size + 1, 3, none⟩ = some (.slice none 0 0)) ?_ ?_; (focus (refine (hc1 _ _ ?_).trans ?_; (focus (go_size; done)); go_simp; done)); intro c1_w1_3)); (try (refine got (p := w1.cell? ⟨w.heap.size + 1, 4, none⟩ = some (.bool false)) ?_ ?_; (focus (refine (hc1 _ _ ?_).trans ?_; (focus (go_size; done)); go_simp; done)); intro c1_w1_4)); (try (refine got (p := w1.cell? ⟨w.heap.size + 1, 5, none⟩ = some (.bool false)) ?_ ?_; (focus (refine (hc1 _ _ ?_).trans ?_; (focus (go_size; done)); go_simp; done)); intro c1_w1_5)); (try (refine got (p := w1.cell? ⟨w.heap.size + 1, 6, none⟩ = some (.bool false)) ?_ ?_; (focus (refine (hc1 _ _ ?_).trans ?_; (focus (go_size; done)); go_simp; done)); intro c1_w1_6)); (try (refine got (p := w1.cell? ⟨w.heap.size + 1, 7, none⟩ = some (.bool false)) ?_ ?_; (focus (refine (hc1 _ _ ?_).trans ?_; (focus (go_size; done)); go_simp; done)); intro c1_w1_7)); (try (refine got (p := w1.cell? ⟨w.heap.size + 1, 8, none⟩ = some (.bool false)) ?_ ?_; (focus (refine (hc1 _ _ ?_).trans ?_; (focus (go_size; done)); go_simp; done)); intro c1_w1_8)); (try (refine got (p := w1.cell? ⟨w.heap.size + 1, 9, none⟩ = some (.bool false)) ?_ ?_; (focus (refine (hc1 _ _ ?_).trans ?_; (focus (go_size; done)); go_simp; done)); intro c1_w1_9)); (try (refine got (p := w1.cell? ⟨w.heap.size + 1, 10, none⟩ = some (.bool false)) ?_ ?_; (focus (refine (hc1 _ _ ?_).trans ?_; (focus (go_size; done)); go_simp; done)); intro c1_w1_10)); (try (refine got (p := w1.cell? ⟨w.heap.size + 1, 11, none⟩ = some (.bool false)) ?_ ?_; (focus (refine (hc1 _ _ ?_).trans ?_; (focus (go_size; done)); go_simp; done)); intro c1_w1_11)); (try (refine got (p := ∀ o, w1.frozen? ⟨w.heap.size + 1, o, none⟩ = false) ?_ ?_; (focus (intro o; refine (hf1 _ _ ?_).trans ?_; (focus (go_size; done)); go_simp; done)); intro f1_w1)); (try (refine got (p := w.heap.size + 2 < w1.heap.size) ?_ ?_; (focus (go_size; done)); intro q1_w2)); (try (refine got (p := w1.cell? ⟨w.heap.size + 2, 0, none⟩ = some (.int .i64 0)) ?_ ?_; (focus (refine (hc1 _ _ ?_).trans ?_; (focus (go_size; done)); go_simp; done)); intro c1_w2_0)); (try (refine got (p := w1.cell? ⟨w.heap.size + 2, 1, none⟩ = some (.int .i64 0)) ?_ ?_; (focus (refine (hc1 _ _ ?_).trans ?_; (focus (go_size; done)); go_simp; done)); intro c1_w2_1)); (try (refine got (p := w1.cell? ⟨w.heap.size + 2, 2, none⟩ = some (.int .i64 0)) ?_ ?_; (focus (refine (hc1 _ _ ?_).trans ?_; (focus (go_size; done)); go_simp; done)); intro c1_w2_2)); (try (refine got (p := w1.cell? ⟨w.heap.size + 2, 3, none⟩ = some (.slice none 0 0)) ?_ ?_; (focus (refine (hc1 _ _ ?_).trans ?_; (focus (go_size; done)); go_simp; done)); intro c1_w2_3)); (try (refine got (p := w1.cell? ⟨w.heap.size + 2, 4, none⟩ = some (.bool false)) ?_ ?_; (focus (refine (hc1 _ _ ?_).trans ?_; (focus (go_size; done)); go_simp; done)); intro c1_w2_4)); (try (refine got (p := w1.cell? ⟨w.heap.size + 2, 5, none⟩ = some (.bool false)) ?_ ?_; (focus (refine (hc1 _ _ ?_).trans ?_; (focus (go_size; done)); go_simp; done)); intro c1_w2_5)); (try (refine got (p := w1.cell? ⟨w.heap.size + 2, 6, none⟩ = some (.bool false)) ?_ ?_; (focus (refine (hc1 _ _ ?_).trans ?_; (focus (go_size; done)); go_simp; done)); intro c1_w2_6)); (try (refine got (p := w1.cell? ⟨w.heap.size + 2, 7, none⟩ = some (.bool false)) ?_ ?_; (focus (refine (hc1 _ _ ?_).trans ?_; (focus (go_size; done)); go_simp; done)); intro c1_w2_7)); (try (refine got (p := w1.cell? ⟨w.heap.size + 2, 8, none⟩ = some (.bool false)) ?_ ?_; (focus (refine (hc1 _ _ ?_).trans ?_; (focus (go_size; done)); go_simp; done)); intro c1_w2_8)); (try (refine got (p := w1.cell? ⟨w.heap.size + 2, 9, none⟩ = some (.bool false)) ?_ ?_; (focus (refine (hc1 _ _ ?_).trans ?_; (focus (go_size; done)); go_simp; done)); intro c1_w2_9)); (try (refine got (p := w1.cell? ⟨w.heap.size + 2, 10, none⟩ = some (.bool false)) ?_ ?_; (focus (refine (hc1 _ _ ?_).trans ?_; (focus (go_size; done)); go_simp; done)); intro c1_w2_10)); (try (refine got (p := w1.cell? ⟨w.heap.size + 2, 11, none⟩ = some (.bool false)) ?_ ?_; (focus (refine (hc1 _ _ ?_).trans ?_; (focus (go_size; done)); go_simp; done)); intro c1_w2_11)); (try (refine got (p := ∀ o, w1.frozen? ⟨w.heap.size + 2, o, none⟩ = false) ?_ ?_; (focus (intro o; refine (hf1 _ _ ?_).trans ?_; (focus (go_size; done)); go_simp; done)); intro f1_w2)); clear hc1 hf1)
  go_wp2_with (fail)
  refine bodyPost_ret (v := .agg #[.int .i64 0, .int .i64 0, .int .i64 0, .slice none 0 0, .bool false, .bool false, .bool false, .bool false, .bool false, .bool false, .bool false, .bool false]) (by simp only [results, Try.results46]; go_simp) rfl ⟨rfl, ?_⟩
  (repeat' (first | (with_reducible exact Below.refl _ _) | (with_reducible refine Below.alloc ?_ ?_ _) | (with_reducible refine Below.drew ?_) | (with_reducible refine Below.setCell ?_ ?_ _) | (with_reducible refine bl_step ?_ (by assumption)) | go_size))

/-- what is kept of all readings, or nothing -/
def R0 (fs : List Fm) (s : List Int) : Rs := bif fok fs s then R fs s 0 else Rs.zero
theorem finder_whole (v u : Value) (fs : List Fm) (s : List Int) (w : World) (h : FV w v fs) (k : IV w u s) : Calls Try.prog 41 #[v, u] w fun e w1 => ∃ a n c a' n' c' mb, e = .returned (.tuple #[.agg #[.slice a n c, .slice a' n' c', .map mb], .bool (fok fs s)]) ∧ Below w.heap.size w w1 ∧
    ∀ W', Below w1.heap.size w1 W' → Calls Try.prog 46 #[.agg #[.slice a n c, .slice a' n' c', .map mb]] W' fun e w' => ∃ y, e = .returned (rdV (R0 fs s) y) ∧ IRow w' w.heap.size w'.heap.size y (R0 fs s).best ∧ Below w.heap.size w w' := by
  letI : Lo := ⟨w.heap.size⟩
  obtain ⟨a, c, hv, _, _, _⟩ := id h
  obtain ⟨a', c', hu, _, _, _⟩ := id k
  refine (newFinder_any v u fs s w h k).mono fun e w1 hc => ?_
  obtain ⟨⟨hk, b, he, hf, hb0⟩ | ⟨hk, he⟩, hb⟩ := hc
  · subst hv hu
    have hr : R0 fs s = R fs s 0 := by unfold R0; rw [hk]; rfl
    exact ⟨a, _, c, a', _, c', some b, by rw [hk]; exact he, hb, fun W' hW => (whole_any fs s hk _ _ w h k (Nat.le_refl _) b hb0 W' (bl_step hb hW) (hf.below hW) _ hr.symm).mono fun e w' ⟨y, h1, h2, h3⟩ => ⟨y, h1, h2.row, h3⟩⟩
  · have hr : R0 fs s = Rs.zero := by unfold R0; rw [hk]; rfl
    refine ⟨none, 0, 0, none, 0, 0, none, by rw [hk]; exact he, hb, fun W' hW => (whole_none W').mono fun e w' hh => ?_⟩
    rw [hr]
    exact ⟨_, hh.1, (IB.nil w').row, bl_step (bl_step hb hW) hh.2⟩

theorem lst_R0 {fs : List Fm} {s : List Int} {one : Bool} (h : fok fs s = true) : lst one (R fs s 0) = lst one (R0 fs s) := by unfold R0; rw [h]; rfl
theorem lst_R0_no {fs : List Fm} {s : List Int} {one : Bool} (h : fok fs s = false) : lst one (R0 fs s) = -1 := by unfold R0; rw [h]; rfl
end Go.Proofs.Ytjhigjbfnemdjaa
