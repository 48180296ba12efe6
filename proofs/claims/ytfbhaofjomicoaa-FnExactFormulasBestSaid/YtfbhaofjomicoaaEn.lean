/-
  The fewest formulas and the best reading, in the program.
-/
import Derived.Test.YtfbhaofjomicoaaEm
import Derived.Test.YtfbhaofjomicoaaLe
namespace Go.Proofs.Ytfbhaofjomicoaa
open Go.RowKit Go.Maps
set_option maxRecDepth 100000
set_option linter.unusedVariables false

theorem each_none (w : World) (tv : Value) : Calls Try.prog 71 #[.agg #[.slice none 0 0, .slice none 0 0, .map none], .int .i64 0, tv] w fun e w' => e = .returned (.tuple #[]) ∧ Below w.heap.size w w' := by
  go_enter Try.func71, Try.ntmps71
  go_wp2_with (fail)
  go_loopw [14] (fun i wr => i = .int .i64 0 ∧ Below w.heap.size w wr) (fun _ _ => 0)
  case atStart => exact ⟨rfl, by (repeat' (first | (with_reducible exact Below.refl _ _) | (with_reducible refine Below.alloc ?_ ?_ _) | (with_reducible refine Below.drew ?_) | (with_reducible refine Below.setCell ?_ ?_ _) | (with_reducible refine bl_step ?_ (by assumption)) | go_size))⟩
  case round =>
    obtain ⟨rfl, hb⟩ := hrel
    go_wp2_with (fail)
    go_end0
    exact ⟨rfl, hb⟩

set_option maxHeartbeats 2000000 in
theorem whole_none (w : World) : Calls Try.prog 68 #[.agg #[.slice none 0 0, .slice none 0 0, .map none]] w fun e w' => e = .returned (rdV Rs.zero (.slice none 0 0)) ∧ Below w.heap.size w w' := by
  have hlk : ∀ w, (Instr.lookup 70 (.map none) (.int .i64 0) false).run Try.prog w = .ok (rdV Rs.zero (.slice none 0 0)) w := fun w => Maps.look_nil false keyedInt Try.underlying70 (zeroRun w) (kq_key (q := 0) (by omega))
  unfold rdV rdC Rs.zero at hlk
  have HE := Lib.hid (fun w tv => each_none w tv)
  go_enter Try.func68, Try.ntmps68
  go_wp2_with (fail)
  (go_at_call 71; refine (HE.out _ _).mono ?_; rintro e w1 ⟨rfl, hb1⟩; obtain ⟨hc1, hf1, hz1⟩ := bl hb1; (try simp at hz1); (try (refine got (p := w.heap.size < w1.heap.size) ?_ ?_; (focus (go_size; done)); intro q1_w0)); (try (refine got (p := w1.cell? ⟨w.heap.size, 0, none⟩ = some (.slice none 0 0)) ?_ ?_; (focus (refine (hc1 _ _ ?_).trans ?_; (focus (go_size; done)); go_simp; done)); intro c1_w0_0)); (try (refine got (p := w1.cell? ⟨w.heap.size, 1, none⟩ = some (.slice none 0 0)) ?_ ?_; (focus (refine (hc1 _ _ ?_).trans ?_; (focus (go_size; done)); go_simp; done)); intro c1_w0_1)); (try (refine got (p := w1.cell? ⟨w.heap.size, 2, none⟩ = some (.map none)) ?_ ?_; (focus (refine (hc1 _ _ ?_).trans ?_; (focus (go_size; done)); go_simp; done)); intro c1_w0_2)); (try (refine got (p := ∀ o, w1.frozen? ⟨w.heap.size, o, none⟩ = false) ?_ ?_; (focus (intro o; refine (hf1 _ _ ?_).trans ?_; (focus (go_size; done)); go_simp; done)); intro f1_w0)); (try (refine got (p := w.heap.size + 1 < w1.heap.size) ?_ ?_; (focus (go_size; done)); intro q1_w1)); (try (refine got (p := w1.cell? ⟨w.heap.size + 1, 0, none⟩ = some (.int .i64 0)) ?_ ?_; (focus (refine (hc1 _ _ ?_).trans ?_; (focus (go_size; done)); go_simp; done)); intro c1_w1_0)); (try (refine got (p := w1.cell? ⟨w.heap.size + 1, 1, none⟩ = some (.int .i64 0)) ?_ ?_; (focus (refine (hc1 _ _ ?_).trans ?_; (focus (go_size; done)); go_simp; done)); intro c1_w1_1)); (try (refine got (p := w1.cell? ⟨w.heap.size + 1, 2, none⟩ = some (.int .i64 0)) ?_ ?_; (focus (refine (hc1 _ _ ?_).trans ?_; (focus (go_size; done)); go_simp; done)); intro c1_w1_2)); (try (refine got (p := w1.cell? ⟨w.heap.size + 1, 3, none⟩ = some (.slice none 0 0)) ?_ ?_; (focus (refine (hc1 _ _ ?_).trans ?_; (focus (go_size; done)); go_simp; done)); intro c1_w1_3)); (try (refine got (p := w1.cell? ⟨w.heap.size + 1, 4, none⟩ = some (.bool false)) ?_ ?_; (focus (refine (hc1 _ _ ?_).trans ?_; (focus (go_size; done)); go_simp; done)); intro c1_w1_4)); (try (refine got (p := w1.cell? ⟨w.heap.size + 1, 5, none⟩ = some (.bool false)) ?_ ?_; (focus (refine (hc1 _ _ ?_).trans ?_; (focus (go_size; done)); go_simp; done)); intro c1_w1_5)); (try (refine got (p := w1.cell? ⟨w.heap.size + 1, 6, none⟩ = some (.bool false)) ?_ ?_; (focus (refine (hc1 _ _ ?_).trans ?_; (focus (go_size; done)); go_simp; done)); intro c1_w1_6)); (try (refine got (p := w1.cell? ⟨w.heap.size + 1, 7, none⟩ = some (.bool false)) ?_ ?_; (focus (refine (hc1 _ _ ?_).trans ?_; (focus (go_size; done)); go_simp; done)); intro c1_w1_7)); (try (refine got (p := w1.cell? ⟨w.heap.size + 1, 8, none⟩ = some (.bool false)) ?_ ?_; (focus (refine (hc1 _ _ ?_).trans ?_; (focus (go_size; done)); go_simp; done)); intro c1_w1_8)); (try (refine got (p := w1.cell? ⟨w.heap.size + 1, 9, none⟩ = some (.bool false)) ?_ ?_; (focus (refine (hc1 _ _ ?_).trans ?_; (focus (go_size; done)); go_simp; done)); intro c1_w1_9)); (try (refine got (p := w1.cell? ⟨w.heap.size + 1, 10, none⟩ = some (.bool false)) ?_ ?_; (focus (refine (hc1 _ _ ?_).trans ?_; (focus (go_size; done)); go_simp; done)); intro c1_w1_10)); (try (refine got (p := w1.cell? ⟨w.heap.size + 1, 11, none⟩ = some (.bool false)) ?_ ?_; (focus (refine (hc1 _ _ ?_).trans ?_; (focus (go_size; done)); go_simp; done)); intro c1_w1_11)); (try (refine got (p := ∀ o, w1.frozen? ⟨w.heap.size + 1, o, none⟩ = false) ?_ ?_; (focus (intro o; refine (hf1 _ _ ?_).trans ?_; (focus (go_size; done)); go_simp; done)); intro f1_w1)); (try (refine got (p := w.heap.size + 2 < w1.heap.size) ?_ ?_; (focus (go_size; done)); intro q1_w2)); (try (refine got (p := w1.cell? ⟨w.heap.size + 2, 0, none⟩ = some (.int .i64 0)) ?_ ?_; (focus (refine (hc1 _ _ ?_).trans ?_; (focus (go_size; done)); go_simp; done)); intro c1_w2_0)); (try (refine got (p := w1.cell? ⟨w.heap.size + 2, 1, none⟩ = some (.int .i64 0)) ?_ ?_; (focus (refine (hc1 _ _ ?_).trans ?_; (focus (go_size; done)); go_simp; done)); intro c1_w2_1)); (try (refine got (p := w1.cell? ⟨w.heap.size + 2, 2, none⟩ = some (.int .i64 0)) ?_ ?_; (focus (refine (hc1 _ _ ?_).trans ?_; (focus (go_size; done)); go_simp; done)); intro c1_w2_2)); (try (refine got (p := w1.cell? ⟨w.heap.size + 2, 3, none⟩ = some (.slice none 0 0)) ?_ ?_; (focus (refine (hc1 _ _ ?_).trans ?_; (focus (go_size; done)); go_simp; done)); intro c1_w2_3)); (try (refine got (p := w1.cell? ⟨w.heap.size + 2, 4, none⟩ = some (.bool false)) ?_ ?_; (focus (refine (hc1 _ _ ?_).trans ?_; (focus (go_size; done)); go_simp; done)); intro c1_w2_4)); (try (refine got (p := w1.cell? ⟨w.heap.size + 2, 5, none⟩ = some (.bool false)) ?_ ?_; (focus (refine (hc1 _ _ ?_).trans ?_; (focus (go_size; done)); go_simp; done)); intro c1_w2_5)); (try (refine got (p := w1.cell? ⟨w.heap.size + 2, 6, none⟩ = some (.bool false)) ?_ ?_; (focus (refine (hc1 _ _ ?_).trans ?_; (focus (go_size; done)); go_simp; done)); intro c1_w2_6)); (try (refine got (p := w1.cell? ⟨w.heap.size + 2, 7, none⟩ = some (.bool false)) ?_ ?_; (focus (refine (hc1 _ _ ?_).trans ?_; (focus (go_size; done)); go_simp; done)); intro c1_w2_7)); (try (refine got (p := w1.cell? ⟨w.heap.size + 2, 8, none⟩ = some (.bool false)) ?_ ?_; (focus (refine (hc1 _ _ ?_).trans ?_; (focus (go_size; done)); go_simp; done)); intro c1_w2_8)); (try (refine got (p := w1.cell? ⟨w.heap.size + 2, 9, none⟩ = some (.bool false)) ?_ ?_; (focus (refine (hc1 _ _ ?_).trans ?_; (focus (go_size; done)); go_simp; done)); intro c1_w2_9)); (try (refine got (p := w1.cell? ⟨w.heap.size + 2, 10, none⟩ = some (.bool false)) ?_ ?_; (focus (refine (hc1 _ _ ?_).trans ?_; (focus (go_size; done)); go_simp; done)); intro c1_w2_10)); (try (refine got (p := w1.cell? ⟨w.heap.size + 2, 11, none⟩ = some (.bool false)) ?_ ?_; (focus (refine (hc1 _ _ ?_).trans ?_; (focus (go_size; done)); go_simp; done)); intro c1_w2_11)); (try (refine got (p := ∀ o, w1.frozen? ⟨w.heap.size + 2, o, none⟩ = false) ?_ ?_; (focus (intro o; refine (hf1 _ _ ?_).trans ?_; (focus (go_size; done)); go_simp; done)); intro f1_w2)); clear hc1 hf1)
  go_wp2_with (fail)
  refine bodyPost_ret (v := .agg #[.int .i64 0, .int .i64 0, .int .i64 0, .slice none 0 0, .bool false, .bool false, .bool false, .bool false, .bool false, .bool false, .bool false, .bool false]) (by simp only [results, Try.results68]; go_simp) rfl ⟨rfl, ?_⟩
  (repeat' (first | (with_reducible exact Below.refl _ _) | (with_reducible refine Below.alloc ?_ ?_ _) | (with_reducible refine Below.drew ?_) | (with_reducible refine Below.setCell ?_ ?_ _) | (with_reducible refine bl_step ?_ (by assumption)) | go_size))

/-- what is kept of all readings, or nothing -/
def R0 (fs : List Fm) (s : List Int) : Rs := bif fok fs s then R fs s 0 else Rs.zero
theorem finder_whole (v u : Value) (fs : List Fm) (s : List Int) (w : World) (h : FV w v fs) (k : IV w u s) : Calls Try.prog 67 #[v, u] w fun e w1 => ∃ a n c a' n' c' mb, e = .returned (.tuple #[.agg #[.slice a n c, .slice a' n' c', .map mb], .bool (fok fs s)]) ∧ Below w.heap.size w w1 ∧
    ∀ W', Below w1.heap.size w1 W' → Calls Try.prog 68 #[.agg #[.slice a n c, .slice a' n' c', .map mb]] W' fun e w' => ∃ y, e = .returned (rdV (R0 fs s) y) ∧ IRow w' w.heap.size w'.heap.size y (R0 fs s).best ∧ Below w.heap.size w w' := by
  letI : Lo := ⟨w.heap.size⟩
  obtain ⟨a, c, hv, _, _, _⟩ := id h
  obtain ⟨a', c', hu, _, _, _⟩ := id k
  refine (newFinder_any v u fs s w h k).mono fun e w1 hc => ?_
  obtain ⟨⟨hk, b, he, hf, hb0⟩ | ⟨hk, he⟩, hb⟩ := hc
  · subst hv hu
    have hr : R0 fs s = R fs s 0 := by unfold R0; rw [hk]; rfl
    exact ⟨a, _, c, a', _, c', some b, by rw [hk]; exact he, hb, fun W' hW => (whole_any fs s hk _ _ w h k (Nat.le_refl _) b hb0 W' (bl_step hb hW) (hf.below hW) _ hr.symm).mono fun e w' ⟨y, h1, h2, h3⟩ => ⟨y, h1, h2.row, h3⟩⟩
  · have hr : R0 fs s = Rs.zero := by unfold R0; rw [hk]; rfl
    refine ⟨none, 0, 0, none, 0, 0, none, by rw [hk]; exact he, hb, fun W' hW => (whole_none W').mono fun e w' hh => ?_⟩
    rw [hr]
    exact ⟨_, hh.1, (IB.nil w').row, bl_step (bl_step hb hW) hh.2⟩

theorem lst_R0 {fs : List Fm} {s : List Int} {one : Bool} (h : fok fs s = true) : lst one (R fs s 0) = lst one (R0 fs s) := by unfold R0; rw [h]; rfl
theorem lst_R0_no {fs : List Fm} {s : List Int} {one : Bool} (h : fok fs s = false) : lst one (R0 fs s) = -1 := by unfold R0; rw [h]; rfl

set_option maxHeartbeats 4000000 in
theorem formulasFew_any (v u : Value) (fs : List Fm) (s : List Int) (w : World) (h : FV w v fs) (k : IV w u s) :
    Calls Try.prog 34 #[v, u] w fun e w' => e = .returned (.int .i64 (lst true (R0 fs s))) ∧ Below w.heap.size w w' := by
  have HFI := Lib.hid (finder_whole v u fs s w h k)
  have hl1 : (R0 fs s).many = 0 → lst true (R0 fs s) = -1 := fun h => lst_none h
  have hl2 : 0 < (R0 fs s).many → lst true (R0 fs s) = (R0 fs s).few := fun h => by rw [lst_some h]; rfl
  have HL1 := Lib.hid hl1
  have HL2 := Lib.hid hl2
  clear hl1 hl2 h k
  generalize lst true (R0 fs s) = L at *
  generalize R0 fs s = rr at *
  generalize fok fs s = ok at *
  go_enter Try.func34, Try.ntmps34
  go_wp2_with (fail)
  (go_at_call 67; refine HFI.out.mono ?_; rintro e w1 ⟨a, n, c, a', n', c', mb, rfl, hb1, hw⟩)
  have HW := Lib.hid hw
  have hz1 := hb1.size
  clear hw
  go_wp2_with (fail)
  (go_at_call 68; refine (HW.out _ (by (repeat' (first | (with_reducible exact Below.refl _ _) | (with_reducible refine Below.alloc ?_ ?_ _) | (with_reducible refine Below.drew ?_) | (with_reducible refine Below.setCell ?_ ?_ _) | (with_reducible refine bl_step ?_ (by assumption)) | go_size)))).mono ?_; rintro e w3 ⟨y, rfl, hi, hb3⟩)
  obtain ⟨ya, yc, rfl, _, _, _⟩ := hi.view
  have hz3 := hb3.size
  clear hi
  unfold rdV rdC
  by_cases hm : rr.many = 0
  · have hL := HL1.out hm
    have t1 : ((rr.many : Int) == 0) = true := by simp [hm]
    go_wp2
    go_ret
    exact ⟨by rw [hL]; rfl, by (repeat' (first | (with_reducible exact Below.refl _ _) | (with_reducible refine Below.alloc ?_ ?_ _) | (with_reducible refine Below.drew ?_) | (with_reducible refine Below.setCell ?_ ?_ _) | (with_reducible refine bl_step ?_ (by assumption)) | go_size))⟩
  · have hL := HL2.out (by omega)
    have t1 : ((rr.many : Int) == 0) = false := by simp; omega
    go_wp2
    go_ret
    exact ⟨by rw [hL]; rfl, by (repeat' (first | (with_reducible exact Below.refl _ _) | (with_reducible refine Below.alloc ?_ ?_ _) | (with_reducible refine Below.drew ?_) | (with_reducible refine Below.setCell ?_ ?_ _) | (with_reducible refine bl_step ?_ (by assumption)) | go_size))⟩

set_option maxHeartbeats 4000000 in
theorem sFormulasFew_any (v u : Value) (fs : List Fm) (s : List Int) (w : World) (h : FV w v fs) (k : IV w u s) :
    Calls Try.prog 33 #[v, u] w fun e w' => e = .returned (.int .i64 (lst true (R0 fs s))) ∧ Below w.heap.size w w' := by
  have HO := Lib.hid (l6fOk_any v u fs s w h k)
  by_cases hk : fok fs s = true
  · have HW := Lib.hid (fun w' (hb : Below w.heap.size w w') => l6fLeast_any v u fs s true hk w' (h.below hb) (k.below hb))
    have HE := Lib.hid (lst_R0 (one := true) hk)
    rw [hk] at HO
    clear hk h k
    go_enter Try.func33, Try.ntmps33
    go_wp2_with (fail)
    (go_at_call 65; refine HO.out.mono ?_; rintro e w1 ⟨rfl, hb1⟩)
    go_wp2_with (fail)
    (go_at_call 69; refine (HW.out _ hb1).mono ?_; rintro e w2 ⟨x, rfl, hr, hb2⟩)
    rcases hr.form with ⟨rfl, hx⟩ | ⟨g, cap, cur, rfl, _, _, hgs, hcap, hmax, _, _, _, hc, _⟩
    · simp at hx
    · have e0 := hc 0 (by simp)
      have e1 : ((List.range (s.length + 1)).map fun j => lst true (R fs s j)).getD 0 0 = lst true (R fs s 0) := by simp [List.getD_eq_getElem?_getD]
      rw [e1] at e0
      have el : ((List.range (s.length + 1)).map fun j => lst true (R fs s j)).length = s.length + 1 := by simp
      rw [el]
      clear hc hr hcap e1 el
      generalize lst true (R fs s 0) = m at *
      go_wp2
      go_ret
      exact ⟨by rw [← HE.out]; rfl, bl_step hb1 hb2⟩
  · rw [Bool.not_eq_true] at hk
    have HE := Lib.hid (lst_R0_no (one := true) hk)
    rw [hk] at HO
    clear hk h k
    go_enter Try.func33, Try.ntmps33
    go_wp2_with (fail)
    (go_at_call 65; refine HO.out.mono ?_; rintro e w1 ⟨rfl, hb1⟩)
    go_wp2
    go_ret
    exact ⟨by rw [HE.out]; rfl, hb1⟩
end Go.Proofs.Ytfbhaofjomicoaa
