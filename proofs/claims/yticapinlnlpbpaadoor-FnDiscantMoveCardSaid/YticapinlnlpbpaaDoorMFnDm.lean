/-
  The law FnDiscantMove: for every code, a moved part has the same beats.
-/
import Derived.Test.YticapinlnlpbpaaDoorCards
import Derived.Test.YticapinlnlpbpaaDoorTie
import Derived.Test.YticapinlnlpbpaaDoorOpen
import Derived.Test.YticapinlnlpbpaaDoorHeight
import Derived.Deep.DeepHandedRow
import Derived.Lib.LaidTab
import Derived.OpenVars
import Derived.Test.YticapinlnlpbpaaDoorIvi
import Derived.Lib.LaidU8
import Derived.Test.YticapinlnlpbpaaDoorIvt
import Derived.Test.YticapinlnlpbpaaDoorSlm
import Derived.Test.YticapinlnlpbpaaDoorIvm
import Derived.Test.YticapinlnlpbpaaDoorDj
import Derived.Test.YticapinlnlpbpaaDoorShelf
import Derived.Deep.AppendLies
import Derived.Test.YticapinlnlpbpaaDoorDs
import Derived.Test.YticapinlnlpbpaaDoorMMove
import Derived.Deep.RegionHeld3
import Derived.Test.YticapinlnlpbpaaDoorMelV
import Derived.Test.YticapinlnlpbpaaDoorVo
import Derived.BigQuiet
import Derived.Test.YticapinlnlpbpaaDoorDrawM
import Derived.Test.YticapinlnlpbpaaDoorTL3
import Derived.Test.YticapinlnlpbpaaDoorBase
import Derived.Test.YticapinlnlpbpaaDoorDdi
namespace Go.Proofs.YticapinlnlpbpaaDoor
open Go.RowKit Go.ChangeShapes Go.WideShapes Go.ChangeAt
set_option maxRecDepth 100000
set_option linter.unusedVariables false

theorem gStep : Tryd.prog.globalNamed "loop.example/neumes/impl.stepHeights" = some 1 := by kernel_rfl
theorem gStepType : (Tryd.prog.globals[1]?).map (·.type) = some 113 := by kernel_rfl
theorem cellsTab7 : Tryd.prog.cellsOf 113 = 7 := by kernel_rfl
theorem cellsInt1 : Tryd.prog.cellsOf 3 = 1 := by kernel_rfl

theorem stepTab {W : World} {rest : List (String × DataW Unit)} (h : laidMet Tryd.prog (("loop.example/neumes/impl.stepHeights", Rows.laid_loop_example_neumes_impl_stepHeights) :: rest) W) : StepTab W := by
  have t : Lib.TabIs Tryd.prog W "loop.example/neumes/impl.stepHeights" .i64 [0, 2, 4, 5, 7, 9, 10] := Lib.tabIs_of_head gStep gStepType Tryd.underlying113 Tryd.underlying3 cellsInt1 cellsTab7 h
  intro i hi
  exact t.cell gStep i (by simpa using hi)

theorem vars1 {H : Type} {enc : TypeId × Value → H} {P : Program} {W : World} {sp : Nat → Bool} {n : String} {gs : List (DataW H)} {ps : List MemPlace} (h : DataW.TrodVars enc P W sp [n] gs ps) : ∃ g, gs = [g] := by
  match gs, h with
  | [], h => exact h.elim
  | [g], _ => exact ⟨g, rfl⟩
  | _ :: _ :: _, h =>
    obtain ⟨_, _, _, _, _, _, _, _, _, _, hs, _⟩ := h
    exact hs.elim

end Go.Proofs.YticapinlnlpbpaaDoor

namespace Go.Proofs.YticapinlnlpbpaaDoor
open Go.RowKit Go.ChangeShapes Go.WideShapes Go.ChangeAt
set_option maxRecDepth 100000
set_option linter.unusedVariables false

theorem vars2 {H : Type} {enc : TypeId × Value → H} {P : Program} {W : World} {sp : Nat → Bool} {n m : String} {gs : List (DataW H)} {ps : List MemPlace} (h : DataW.TrodVars enc P W sp [n, m] gs ps) : ∃ g k, gs = [g, k] := by
  match gs, h with
  | [], h => exact h.elim
  | [g], h =>
    obtain ⟨_, _, _, _, _, _, _, _, _, _, hs, _⟩ := h
    exact hs.elim
  | [g, k], _ => exact ⟨g, k, rfl⟩
  | _ :: _ :: _ :: _, h =>
    obtain ⟨_, _, _, _, _, _, _, _, _, _, hs, _⟩ := h
    obtain ⟨_, _, _, _, _, _, _, _, _, _, hs, _⟩ := hs
    exact hs.elim
theorem vars1' {H : Type} {enc : TypeId × Value → H} {P : Program} {W : World} {sp : Nat → Bool} {n : String} {gs : List (DataW H)} {ps : List MemPlace} (h : DataW.TrodVars enc P W sp [n] gs ps) : ∃ g, gs = [g] := by
  match gs, h with
  | [], h => exact h.elim
  | [g], _ => exact ⟨g, rfl⟩
  | _ :: _ :: _, h =>
    obtain ⟨_, _, _, _, _, _, _, _, _, _, hs, _⟩ := h
    exact hs.elim

end Go.Proofs.YticapinlnlpbpaaDoor

namespace Go.Proofs.YticapinlnlpbpaaDoor
open Go.RowKit Go.ChangeShapes Go.WideShapes Go.ChangeAt
set_option maxRecDepth 100000
set_option linter.unusedVariables false

theorem gLeast : Tryd.prog.globalNamed "loop.example/neumes/impl.leastSemis" = some 0 := by kernel_rfl
theorem gLeastType : (Tryd.prog.globals[0]?).map (·.type) = some 113 := by kernel_rfl

theorem tab_at {W : World} {n : String} {zs : List Int} {g : Nat} {l : List (String × DataW Unit)} (hg : Tryd.prog.globalNamed n = some g) (hty : (Tryd.prog.globals[g]?).map (·.type) = some 113)
    (h : laidMet Tryd.prog l W) (hm : (n, (Lib.tabData .i64 zs : DataW Unit)) ∈ l) : Lib.TabIs Tryd.prog W n .i64 zs := by
  obtain ⟨g', t', cs, fuel, p, hg', ht', hvar, hd⟩ := Lib.laidMet.reads h hm
  obtain rfl := Option.some.inj (hg.symm.trans hg')
  obtain rfl := Option.some.inj (hty.symm.trans ht')
  unfold Lib.TabIs
  rw [hvar, ← Lib.cells_of_tab Tryd.underlying113 Tryd.underlying3 cellsInt1 cellsTab7 hd]
theorem stepTab_at {W : World} {l : List (String × DataW Unit)} (h : laidMet Tryd.prog l W) (hm : ("loop.example/neumes/impl.stepHeights", (Rows.laid_loop_example_neumes_impl_stepHeights : DataW Unit)) ∈ l) : StepTab W := fun i hi =>
  (tab_at (zs := [0, 2, 4, 5, 7, 9, 10]) gStep gStepType h hm).cell gStep i (by simpa using hi)
theorem leastTab_at {W : World} {l : List (String × DataW Unit)} (h : laidMet Tryd.prog l W) (hm : ("loop.example/neumes/impl.leastSemis", (Rows.laid_loop_example_neumes_impl_leastSemis : DataW Unit)) ∈ l) : LeastTab W := fun i hi =>
  (tab_at (zs := [0, 1, 3, 5, 7, 8, 10]) gLeast gLeastType h hm).cell gLeast i (by simpa using hi)

end Go.Proofs.YticapinlnlpbpaaDoor

namespace Go.Proofs.YticapinlnlpbpaaDoor
open Go.RowKit
set_option maxRecDepth 100000
set_option linter.unusedVariables false

theorem itoaN (k : Nat) (h : k < 22) (w : World) : Calls Tryd.prog 67 #[.int .i64 (k : Int)] w fun e w' => e = .returned (.string (decS (k : Int))) ∧ w = w' :=
  (Tryd.strconv_Itoa_small k (by omega) w).mono fun e w' ⟨h1, h2⟩ => ⟨h1.trans (by rw [decd k h]; rfl), h2.symm⟩
theorem iv_swp {s t : Int} {b c : Bool} (h : swp s b t c = true) : ivN s t = s - t ∧ ivX s b t c = hgt s b - hgt t c ∧ 0 ≤ s - t := by
  unfold ivX
  rw [if_pos h]
  unfold ivN
  by_cases e : t = s
  · subst e
    rw [if_neg (by omega)]
    exact ⟨rfl, rfl, by omega⟩
  · have h2 : t < s := by rw [swp_ne e] at h; simpa using h
    rw [if_pos h2]
    exact ⟨rfl, rfl, by omega⟩
theorem iv_nswp {s t : Int} {b c : Bool} (h : swp s b t c = false) : ivN s t = t - s ∧ ivX s b t c = hgt t c - hgt s b ∧ 0 ≤ t - s := by
  unfold ivX
  rw [if_neg (by simp [h])]
  unfold ivN
  by_cases e : t = s
  · subst e
    rw [if_neg (by omega)]
    exact ⟨rfl, rfl, by omega⟩
  · have h2 : ¬ t < s := by rw [swp_ne e] at h; simpa using h
    rw [if_neg h2]
    exact ⟨rfl, rfl, by omega⟩

set_option maxHeartbeats 4000000 in
theorem toneInterval_any (s t : Int) (b c : Bool) (w : World) (ht : StepTab w) (hl : LeastTab w) :
    Calls Tryd.prog 31 #[.agg #[.int .i64 s, .bool b], .agg #[.int .i64 t, .bool c]] w fun e w' => e = .returned (.string (ivt s b t c)) ∧ Below w.heap.size w w' := by
  by_cases hv : vd s b = false
  · rw [ivt_no1 hv]
    clear ht hl
    go_enter Tryd.func31, Tryd.ntmps31
    go_wp2_with (go_at_call 65; refine (valid_any _ _ _).mono ?_; rintro e w1 ⟨rfl, hb1⟩; obtain ⟨hc1, hf1, hz1⟩ := bl hb1; (try simp at hz1); (try (refine got (p := w.heap.size < w1.heap.size) ?_ ?_; (focus (go_size; done)); intro q1_w0)); (try (refine got (p := w1.cell? ⟨w.heap.size, 0, none⟩ = some (.int .i64 s)) ?_ ?_; (focus (refine (hc1 _ _ ?_).trans ?_; (focus (go_size; done)); go_simp; done)); intro c1_w0_0)); (try (refine got (p := w1.cell? ⟨w.heap.size, 1, none⟩ = some (.bool b)) ?_ ?_; (focus (refine (hc1 _ _ ?_).trans ?_; (focus (go_size; done)); go_simp; done)); intro c1_w0_1)); (try (refine got (p := ∀ o, w1.frozen? ⟨w.heap.size, o, none⟩ = false) ?_ ?_; (focus (intro o; refine (hf1 _ _ ?_).trans ?_; (focus (go_size; done)); go_simp; done)); intro f1_w0)); (try (refine got (p := w.heap.size + 1 < w1.heap.size) ?_ ?_; (focus (go_size; done)); intro q1_w1)); (try (refine got (p := w1.cell? ⟨w.heap.size + 1, 0, none⟩ = some (.int .i64 t)) ?_ ?_; (focus (refine (hc1 _ _ ?_).trans ?_; (focus (go_size; done)); go_simp; done)); intro c1_w1_0)); (try (refine got (p := w1.cell? ⟨w.heap.size + 1, 1, none⟩ = some (.bool c)) ?_ ?_; (focus (refine (hc1 _ _ ?_).trans ?_; (focus (go_size; done)); go_simp; done)); intro c1_w1_1)); (try (refine got (p := ∀ o, w1.frozen? ⟨w.heap.size + 1, o, none⟩ = false) ?_ ?_; (focus (intro o; refine (hf1 _ _ ?_).trans ?_; (focus (go_size; done)); go_simp; done)); intro f1_w1)); clear hc1 hf1)
    go_ret
    exact ⟨rfl, by (repeat' (first | (with_reducible exact Below.refl _ _) | (with_reducible refine Below.alloc ?_ ?_ _) | (with_reducible refine Below.drew ?_) | (with_reducible refine Below.setCell ?_ ?_ _) | (with_reducible refine bl_step ?_ (by assumption)) | go_size))⟩
  rw [Bool.not_eq_false] at hv
  by_cases hu : vd t c = false
  · rw [ivt_no2 hu]
    clear ht hl
    go_enter Tryd.func31, Tryd.ntmps31
    go_wp2_with (go_at_call 65; refine (valid_any _ _ _).mono ?_; rintro e w1 ⟨rfl, hb1⟩; obtain ⟨hc1, hf1, hz1⟩ := bl hb1; (try simp at hz1); (try (refine got (p := w.heap.size < w1.heap.size) ?_ ?_; (focus (go_size; done)); intro q1_w0)); (try (refine got (p := w1.cell? ⟨w.heap.size, 0, none⟩ = some (.int .i64 s)) ?_ ?_; (focus (refine (hc1 _ _ ?_).trans ?_; (focus (go_size; done)); go_simp; done)); intro c1_w0_0)); (try (refine got (p := w1.cell? ⟨w.heap.size, 1, none⟩ = some (.bool b)) ?_ ?_; (focus (refine (hc1 _ _ ?_).trans ?_; (focus (go_size; done)); go_simp; done)); intro c1_w0_1)); (try (refine got (p := ∀ o, w1.frozen? ⟨w.heap.size, o, none⟩ = false) ?_ ?_; (focus (intro o; refine (hf1 _ _ ?_).trans ?_; (focus (go_size; done)); go_simp; done)); intro f1_w0)); (try (refine got (p := w.heap.size + 1 < w1.heap.size) ?_ ?_; (focus (go_size; done)); intro q1_w1)); (try (refine got (p := w1.cell? ⟨w.heap.size + 1, 0, none⟩ = some (.int .i64 t)) ?_ ?_; (focus (refine (hc1 _ _ ?_).trans ?_; (focus (go_size; done)); go_simp; done)); intro c1_w1_0)); (try (refine got (p := w1.cell? ⟨w.heap.size + 1, 1, none⟩ = some (.bool c)) ?_ ?_; (focus (refine (hc1 _ _ ?_).trans ?_; (focus (go_size; done)); go_simp; done)); intro c1_w1_1)); (try (refine got (p := ∀ o, w1.frozen? ⟨w.heap.size + 1, o, none⟩ = false) ?_ ?_; (focus (intro o; refine (hf1 _ _ ?_).trans ?_; (focus (go_size; done)); go_simp; done)); intro f1_w1)); clear hc1 hf1)
    go_ret
    exact ⟨rfl, by (repeat' (first | (with_reducible exact Below.refl _ _) | (with_reducible refine Below.alloc ?_ ?_ _) | (with_reducible refine Below.drew ?_) | (with_reducible refine Below.setCell ?_ ?_ _) | (with_reducible refine bl_step ?_ (by assumption)) | go_size))⟩
  rw [Bool.not_eq_false] at hu
  rw [ivt_yes hv hu]
  obtain ⟨h0, h1⟩ := vd_in hv
  obtain ⟨h2, h3⟩ := vd_in hu
  obtain ⟨g0, g1⟩ := hgt_bd (b := b) h0 h1
  obtain ⟨g2, g3⟩ := hgt_bd (b := c) h2 h3
  have HT := Lib.hid ht
  have HL := Lib.hid hl
  clear ht hl
  have KB := Lib.hid (below_any t c s b hu hv)
  have KS := Lib.hid (height_any s b h0 h1)
  have KT := Lib.hid (height_any t c h2 h3)
  by_cases hsw : swp s b t c = true
  · obtain ⟨e1, e2, e3⟩ := iv_swp hsw
    rw [hsw] at KB
    rw [e1, e2]
    obtain ⟨n, hn⟩ : ∃ n : Nat, s - t = (n : Int) := ⟨(s - t).toNat, by omega⟩
    generalize hgt s b = P at KS g0 g1 e2
    generalize hgt t c = R at KT g2 g3 e2
    obtain ⟨x, hx⟩ : ∃ x, P - R = x := ⟨_, rfl⟩
    have hadd := iv_add (n : Int) x
    have hn1 : n < 21 := by omega
    have m1 : IntKind.i64.wrap (n : Int) = (n : Int) := IntWalk.i64_in _ (by omega)
    have m2 : IntKind.i64.wrap ((n : Int) + 1) = (n : Int) + 1 := IntWalk.i64_in _ (by omega)
    have m3 : IntKind.i64.wrap x = x := IntWalk.i64_in _ (by omega)
    have KI := Lib.hid (itoaN (n + 1) (by omega))
    rw [show ((n + 1 : Nat) : Int) = (n : Int) + 1 by omega] at KI
    have KL := Lib.hid (intervalLetter_any (n : Int) x (by omega) (by omega) (by omega) (by omega))
    have k1 : n ≤ 20 := by omega
    rw [hn, hx]
    clear e1 e2 e3 hsw
    go_enter Tryd.func31, Tryd.ntmps31
    go_wp2_with (fail)
    (go_at_call 65; refine (valid_any _ _ _).mono ?_; rintro e w1 ⟨rfl, hb1⟩; obtain ⟨hc1, hf1, hz1⟩ := bl hb1; (try simp at hz1); (try (refine got (p := w.heap.size < w1.heap.size) ?_ ?_; (focus (go_size; done)); intro q1_w0)); (try (refine got (p := w1.cell? ⟨w.heap.size, 0, none⟩ = some (.int .i64 s)) ?_ ?_; (focus (refine (hc1 _ _ ?_).trans ?_; (focus (go_size; done)); go_simp; done)); intro c1_w0_0)); (try (refine got (p := w1.cell? ⟨w.heap.size, 1, none⟩ = some (.bool b)) ?_ ?_; (focus (refine (hc1 _ _ ?_).trans ?_; (focus (go_size; done)); go_simp; done)); intro c1_w0_1)); (try (refine got (p := ∀ o, w1.frozen? ⟨w.heap.size, o, none⟩ = false) ?_ ?_; (focus (intro o; refine (hf1 _ _ ?_).trans ?_; (focus (go_size; done)); go_simp; done)); intro f1_w0)); (try (refine got (p := w.heap.size + 1 < w1.heap.size) ?_ ?_; (focus (go_size; done)); intro q1_w1)); (try (refine got (p := w1.cell? ⟨w.heap.size + 1, 0, none⟩ = some (.int .i64 t)) ?_ ?_; (focus (refine (hc1 _ _ ?_).trans ?_; (focus (go_size; done)); go_simp; done)); intro c1_w1_0)); (try (refine got (p := w1.cell? ⟨w.heap.size + 1, 1, none⟩ = some (.bool c)) ?_ ?_; (focus (refine (hc1 _ _ ?_).trans ?_; (focus (go_size; done)); go_simp; done)); intro c1_w1_1)); (try (refine got (p := ∀ o, w1.frozen? ⟨w.heap.size + 1, o, none⟩ = false) ?_ ?_; (focus (intro o; refine (hf1 _ _ ?_).trans ?_; (focus (go_size; done)); go_simp; done)); intro f1_w1)); clear hc1 hf1)
    go_wp2_with (fail)
    (go_at_call 65; refine (valid_any _ _ _).mono ?_; rintro e w2 ⟨rfl, hb2⟩; obtain ⟨hc2, hf2, hz2⟩ := bl hb2; (try simp at hz2); (try (refine got (p := w.heap.size < w2.heap.size) ?_ ?_; (focus (go_size; done)); intro q2_w0)); (try (refine got (p := w2.cell? ⟨w.heap.size, 0, none⟩ = some (.int .i64 s)) ?_ ?_; (focus (refine (hc2 _ _ ?_).trans ?_; (focus (go_size; done)); go_simp; done)); intro c2_w0_0)); (try (refine got (p := w2.cell? ⟨w.heap.size, 1, none⟩ = some (.bool b)) ?_ ?_; (focus (refine (hc2 _ _ ?_).trans ?_; (focus (go_size; done)); go_simp; done)); intro c2_w0_1)); (try (refine got (p := ∀ o, w2.frozen? ⟨w.heap.size, o, none⟩ = false) ?_ ?_; (focus (intro o; refine (hf2 _ _ ?_).trans ?_; (focus (go_size; done)); go_simp; done)); intro f2_w0)); (try (refine got (p := w.heap.size + 1 < w2.heap.size) ?_ ?_; (focus (go_size; done)); intro q2_w1)); (try (refine got (p := w2.cell? ⟨w.heap.size + 1, 0, none⟩ = some (.int .i64 t)) ?_ ?_; (focus (refine (hc2 _ _ ?_).trans ?_; (focus (go_size; done)); go_simp; done)); intro c2_w1_0)); (try (refine got (p := w2.cell? ⟨w.heap.size + 1, 1, none⟩ = some (.bool c)) ?_ ?_; (focus (refine (hc2 _ _ ?_).trans ?_; (focus (go_size; done)); go_simp; done)); intro c2_w1_1)); (try (refine got (p := ∀ o, w2.frozen? ⟨w.heap.size + 1, o, none⟩ = false) ?_ ?_; (focus (intro o; refine (hf2 _ _ ?_).trans ?_; (focus (go_size; done)); go_simp; done)); intro f2_w1)); clear hc2 hf2)
    go_wp2_with (fail)
    (go_at_call 66; refine (KB.out _ (HT.out.below (by (repeat' (first | (with_reducible exact Below.refl _ _) | (with_reducible refine Below.alloc ?_ ?_ _) | (with_reducible refine Below.drew ?_) | (with_reducible refine Below.setCell ?_ ?_ _) | (with_reducible refine bl_step ?_ (by assumption)) | go_size))))).mono ?_; rintro e w3 ⟨rfl, hb3⟩; obtain ⟨hc3, hf3, hz3⟩ := bl hb3; (try simp at hz3); (try (refine got (p := w.heap.size < w3.heap.size) ?_ ?_; (focus (go_size; done)); intro q3_w0)); (try (refine got (p := w3.cell? ⟨w.heap.size, 0, none⟩ = some (.int .i64 s)) ?_ ?_; (focus (refine (hc3 _ _ ?_).trans ?_; (focus (go_size; done)); go_simp; done)); intro c3_w0_0)); (try (refine got (p := w3.cell? ⟨w.heap.size, 1, none⟩ = some (.bool b)) ?_ ?_; (focus (refine (hc3 _ _ ?_).trans ?_; (focus (go_size; done)); go_simp; done)); intro c3_w0_1)); (try (refine got (p := ∀ o, w3.frozen? ⟨w.heap.size, o, none⟩ = false) ?_ ?_; (focus (intro o; refine (hf3 _ _ ?_).trans ?_; (focus (go_size; done)); go_simp; done)); intro f3_w0)); (try (refine got (p := w.heap.size + 1 < w3.heap.size) ?_ ?_; (focus (go_size; done)); intro q3_w1)); (try (refine got (p := w3.cell? ⟨w.heap.size + 1, 0, none⟩ = some (.int .i64 t)) ?_ ?_; (focus (refine (hc3 _ _ ?_).trans ?_; (focus (go_size; done)); go_simp; done)); intro c3_w1_0)); (try (refine got (p := w3.cell? ⟨w.heap.size + 1, 1, none⟩ = some (.bool c)) ?_ ?_; (focus (refine (hc3 _ _ ?_).trans ?_; (focus (go_size; done)); go_simp; done)); intro c3_w1_1)); (try (refine got (p := ∀ o, w3.frozen? ⟨w.heap.size + 1, o, none⟩ = false) ?_ ?_; (focus (intro o; refine (hf3 _ _ ?_).trans ?_; (focus (go_size; done)); go_simp; done)); intro f3_w1)); clear hc3 hf3)
    have hbw : Below w.heap.size w w3 := by (repeat' (first | (with_reducible exact Below.refl _ _) | (with_reducible refine Below.alloc ?_ ?_ _) | (with_reducible refine Below.drew ?_) | (with_reducible refine Below.setCell ?_ ?_ _) | (with_reducible refine bl_step ?_ (by assumption)) | go_size))
    have p0 : ((((w3.setCell ⟨w.heap.size, 0, none⟩ (.int .i64 t)).setCell ⟨w.heap.size, 1, none⟩ (.bool c)).setCell ⟨w.heap.size + 1, 0, none⟩ (.int .i64 s)).setCell ⟨w.heap.size + 1, 1, none⟩ (.bool b)).cell? ⟨w.heap.size, 0, none⟩ = some (.int .i64 t) := by go_simp
    have p1 : ((((w3.setCell ⟨w.heap.size, 0, none⟩ (.int .i64 t)).setCell ⟨w.heap.size, 1, none⟩ (.bool c)).setCell ⟨w.heap.size + 1, 0, none⟩ (.int .i64 s)).setCell ⟨w.heap.size + 1, 1, none⟩ (.bool b)).cell? ⟨w.heap.size, 1, none⟩ = some (.bool c) := by go_simp
    have p2 : ((((w3.setCell ⟨w.heap.size, 0, none⟩ (.int .i64 t)).setCell ⟨w.heap.size, 1, none⟩ (.bool c)).setCell ⟨w.heap.size + 1, 0, none⟩ (.int .i64 s)).setCell ⟨w.heap.size + 1, 1, none⟩ (.bool b)).cell? ⟨w.heap.size + 1, 0, none⟩ = some (.int .i64 s) := by go_simp
    have p3 : ((((w3.setCell ⟨w.heap.size, 0, none⟩ (.int .i64 t)).setCell ⟨w.heap.size, 1, none⟩ (.bool c)).setCell ⟨w.heap.size + 1, 0, none⟩ (.int .i64 s)).setCell ⟨w.heap.size + 1, 1, none⟩ (.bool b)).cell? ⟨w.heap.size + 1, 1, none⟩ = some (.bool b) := by go_simp
    have hbw4 : Below w.heap.size w ((((w3.setCell ⟨w.heap.size, 0, none⟩ (.int .i64 t)).setCell ⟨w.heap.size, 1, none⟩ (.bool c)).setCell ⟨w.heap.size + 1, 0, none⟩ (.int .i64 s)).setCell ⟨w.heap.size + 1, 1, none⟩ (.bool b)) := by (repeat' (first | (with_reducible exact Below.refl _ _) | (with_reducible refine Below.alloc ?_ ?_ _) | (with_reducible refine Below.drew ?_) | (with_reducible refine Below.setCell ?_ ?_ _) | (with_reducible refine bl_step ?_ (by assumption)) | go_size))
    have z4 : w.heap.size + 1 < ((((w3.setCell ⟨w.heap.size, 0, none⟩ (.int .i64 t)).setCell ⟨w.heap.size, 1, none⟩ (.bool c)).setCell ⟨w.heap.size + 1, 0, none⟩ (.int .i64 s)).setCell ⟨w.heap.size + 1, 1, none⟩ (.bool b)).heap.size := by go_size
    go_wp2
    generalize ((((w3.setCell ⟨w.heap.size, 0, none⟩ (.int .i64 t)).setCell ⟨w.heap.size, 1, none⟩ (.bool c)).setCell ⟨w.heap.size + 1, 0, none⟩ (.int .i64 s)).setCell ⟨w.heap.size + 1, 1, none⟩ (.bool b)) = W4 at p0 p1 p2 p3 hbw4 z4 ⊢
    have z5 : w.heap.size < W4.heap.size := by omega
    go_region_held3 (fun wx => wx.cell? ⟨w.heap.size, 0, none⟩ = some (.int .i64 t) ∧ wx.cell? ⟨w.heap.size, 1, none⟩ = some (.bool c) ∧ wx.cell? ⟨w.heap.size + 1, 0, none⟩ = some (.int .i64 s) ∧ wx.cell? ⟨w.heap.size + 1, 1, none⟩ = some (.bool b)) (go_keep)
      (first | (go_at_call 67; refine (KI.out _).mono ?_; rintro e wy ⟨rfl, rfl⟩) | (go_at_call_of 69 (Value.agg #[Value.int .i64 s, Value.bool b]); refine (KS.out _ (HT.out.below (by (repeat' (first | (with_reducible assumption) | (with_reducible exact Below.refl _ _) | (with_reducible refine Below.alloc ?_ ?_ _) | (with_reducible refine Below.drew ?_) | (with_reducible refine bl_drewN ?_ _) | (with_reducible refine Below.setCell ?_ ?_ _) | (with_reducible refine bl_step ?_ (by assumption)) | go_size))))).mono ?_; rintro e w4 ⟨rfl, hb4⟩; obtain ⟨hc4, hf4, hz4⟩ := bl hb4; (try simp at hz4); have c4a : w4.cell? ⟨w.heap.size, 0, none⟩ = some (.int .i64 t) := (hc4 w.heap.size 0 (by exact z5)).trans p0; have c4b : w4.cell? ⟨w.heap.size, 1, none⟩ = some (.bool c) := (hc4 w.heap.size 1 (by exact z5)).trans p1; have c4c : w4.cell? ⟨w.heap.size + 1, 0, none⟩ = some (.int .i64 s) := (hc4 (w.heap.size + 1) 0 (by exact z4)).trans p2; have c4d : w4.cell? ⟨w.heap.size + 1, 1, none⟩ = some (.bool b) := (hc4 (w.heap.size + 1) 1 (by exact z4)).trans p3; clear hc4 hf4) | (go_at_call 69; refine (KT.out _ (HT.out.below (by (repeat' (first | (with_reducible assumption) | (with_reducible exact Below.refl _ _) | (with_reducible refine Below.alloc ?_ ?_ _) | (with_reducible refine Below.drew ?_) | (with_reducible refine bl_drewN ?_ _) | (with_reducible refine Below.setCell ?_ ?_ _) | (with_reducible refine bl_step ?_ (by assumption)) | go_size))))).mono ?_; rintro e w5 ⟨rfl, hb5⟩; obtain ⟨hc5, hf5, hz5⟩ := bl hb5; (try simp at hz5); have c5a := (hc5 w.heap.size 0 (by omega)).trans c4a; have c5b := (hc5 w.heap.size 1 (by omega)).trans c4b; have c5c := (hc5 (w.heap.size + 1) 0 (by omega)).trans c4c; have c5d := (hc5 (w.heap.size + 1) 1 (by omega)).trans c4d; clear hc5 hf5) | (go_at_call 68; refine (KL.out _ (HL.out.below (by (repeat' (first | (with_reducible assumption) | (with_reducible exact Below.refl _ _) | (with_reducible refine Below.alloc ?_ ?_ _) | (with_reducible refine Below.drew ?_) | (with_reducible refine bl_drewN ?_ _) | (with_reducible refine Below.setCell ?_ ?_ _) | (with_reducible refine bl_step ?_ (by assumption)) | go_size))))).mono ?_; rintro e w6 ⟨rfl, hb6⟩; obtain ⟨hc6, hf6, hz6⟩ := bl hb6; (try simp at hz6); have c6a := (hc6 w.heap.size 0 (by omega)).trans c5a; have c6b := (hc6 w.heap.size 1 (by omega)).trans c5b; have c6c := (hc6 (w.heap.size + 1) 0 (by omega)).trans c5c; have c6d := (hc6 (w.heap.size + 1) 1 (by omega)).trans c5d; clear hc6 hf6))
    go_wp2
    go_ret
    exact ⟨rfl, by (repeat' (first | (with_reducible assumption) | (with_reducible exact Below.refl _ _) | (with_reducible refine Below.alloc ?_ ?_ _) | (with_reducible refine Below.drew ?_) | (with_reducible refine bl_drewN ?_ _) | (with_reducible refine Below.setCell ?_ ?_ _) | (with_reducible refine bl_step ?_ (by assumption)) | go_size))⟩
  · rw [Bool.not_eq_true] at hsw
    obtain ⟨e1, e2, e3⟩ := iv_nswp hsw
    rw [hsw] at KB
    rw [e1, e2]
    obtain ⟨n, hn⟩ : ∃ n : Nat, t - s = (n : Int) := ⟨(t - s).toNat, by omega⟩
    generalize hgt s b = P at KS g0 g1 e2
    generalize hgt t c = R at KT g2 g3 e2
    obtain ⟨x, hx⟩ : ∃ x, R - P = x := ⟨_, rfl⟩
    have hadd := iv_add (n : Int) x
    have hn1 : n < 21 := by omega
    have m1 : IntKind.i64.wrap (n : Int) = (n : Int) := IntWalk.i64_in _ (by omega)
    have m2 : IntKind.i64.wrap ((n : Int) + 1) = (n : Int) + 1 := IntWalk.i64_in _ (by omega)
    have m3 : IntKind.i64.wrap x = x := IntWalk.i64_in _ (by omega)
    have KI := Lib.hid (itoaN (n + 1) (by omega))
    rw [show ((n + 1 : Nat) : Int) = (n : Int) + 1 by omega] at KI
    have KL := Lib.hid (intervalLetter_any (n : Int) x (by omega) (by omega) (by omega) (by omega))
    have k1 : n ≤ 20 := by omega
    rw [hn, hx]
    clear e1 e2 e3 hsw
    go_enter Tryd.func31, Tryd.ntmps31
    go_wp2_with (fail)
    (go_at_call 65; refine (valid_any _ _ _).mono ?_; rintro e w1 ⟨rfl, hb1⟩; obtain ⟨hc1, hf1, hz1⟩ := bl hb1; (try simp at hz1); (try (refine got (p := w.heap.size < w1.heap.size) ?_ ?_; (focus (go_size; done)); intro q1_w0)); (try (refine got (p := w1.cell? ⟨w.heap.size, 0, none⟩ = some (.int .i64 s)) ?_ ?_; (focus (refine (hc1 _ _ ?_).trans ?_; (focus (go_size; done)); go_simp; done)); intro c1_w0_0)); (try (refine got (p := w1.cell? ⟨w.heap.size, 1, none⟩ = some (.bool b)) ?_ ?_; (focus (refine (hc1 _ _ ?_).trans ?_; (focus (go_size; done)); go_simp; done)); intro c1_w0_1)); (try (refine got (p := ∀ o, w1.frozen? ⟨w.heap.size, o, none⟩ = false) ?_ ?_; (focus (intro o; refine (hf1 _ _ ?_).trans ?_; (focus (go_size; done)); go_simp; done)); intro f1_w0)); (try (refine got (p := w.heap.size + 1 < w1.heap.size) ?_ ?_; (focus (go_size; done)); intro q1_w1)); (try (refine got (p := w1.cell? ⟨w.heap.size + 1, 0, none⟩ = some (.int .i64 t)) ?_ ?_; (focus (refine (hc1 _ _ ?_).trans ?_; (focus (go_size; done)); go_simp; done)); intro c1_w1_0)); (try (refine got (p := w1.cell? ⟨w.heap.size + 1, 1, none⟩ = some (.bool c)) ?_ ?_; (focus (refine (hc1 _ _ ?_).trans ?_; (focus (go_size; done)); go_simp; done)); intro c1_w1_1)); (try (refine got (p := ∀ o, w1.frozen? ⟨w.heap.size + 1, o, none⟩ = false) ?_ ?_; (focus (intro o; refine (hf1 _ _ ?_).trans ?_; (focus (go_size; done)); go_simp; done)); intro f1_w1)); clear hc1 hf1)
    go_wp2_with (fail)
    (go_at_call 65; refine (valid_any _ _ _).mono ?_; rintro e w2 ⟨rfl, hb2⟩; obtain ⟨hc2, hf2, hz2⟩ := bl hb2; (try simp at hz2); (try (refine got (p := w.heap.size < w2.heap.size) ?_ ?_; (focus (go_size; done)); intro q2_w0)); (try (refine got (p := w2.cell? ⟨w.heap.size, 0, none⟩ = some (.int .i64 s)) ?_ ?_; (focus (refine (hc2 _ _ ?_).trans ?_; (focus (go_size; done)); go_simp; done)); intro c2_w0_0)); (try (refine got (p := w2.cell? ⟨w.heap.size, 1, none⟩ = some (.bool b)) ?_ ?_; (focus (refine (hc2 _ _ ?_).trans ?_; (focus (go_size; done)); go_simp; done)); intro c2_w0_1)); (try (refine got (p := ∀ o, w2.frozen? ⟨w.heap.size, o, none⟩ = false) ?_ ?_; (focus (intro o; refine (hf2 _ _ ?_).trans ?_; (focus (go_size; done)); go_simp; done)); intro f2_w0)); (try (refine got (p := w.heap.size + 1 < w2.heap.size) ?_ ?_; (focus (go_size; done)); intro q2_w1)); (try (refine got (p := w2.cell? ⟨w.heap.size + 1, 0, none⟩ = some (.int .i64 t)) ?_ ?_; (focus (refine (hc2 _ _ ?_).trans ?_; (focus (go_size; done)); go_simp; done)); intro c2_w1_0)); (try (refine got (p := w2.cell? ⟨w.heap.size + 1, 1, none⟩ = some (.bool c)) ?_ ?_; (focus (refine (hc2 _ _ ?_).trans ?_; (focus (go_size; done)); go_simp; done)); intro c2_w1_1)); (try (refine got (p := ∀ o, w2.frozen? ⟨w.heap.size + 1, o, none⟩ = false) ?_ ?_; (focus (intro o; refine (hf2 _ _ ?_).trans ?_; (focus (go_size; done)); go_simp; done)); intro f2_w1)); clear hc2 hf2)
    go_wp2_with (fail)
    (go_at_call 66; refine (KB.out _ (HT.out.below (by (repeat' (first | (with_reducible exact Below.refl _ _) | (with_reducible refine Below.alloc ?_ ?_ _) | (with_reducible refine Below.drew ?_) | (with_reducible refine Below.setCell ?_ ?_ _) | (with_reducible refine bl_step ?_ (by assumption)) | go_size))))).mono ?_; rintro e w3 ⟨rfl, hb3⟩; obtain ⟨hc3, hf3, hz3⟩ := bl hb3; (try simp at hz3); (try (refine got (p := w.heap.size < w3.heap.size) ?_ ?_; (focus (go_size; done)); intro q3_w0)); (try (refine got (p := w3.cell? ⟨w.heap.size, 0, none⟩ = some (.int .i64 s)) ?_ ?_; (focus (refine (hc3 _ _ ?_).trans ?_; (focus (go_size; done)); go_simp; done)); intro c3_w0_0)); (try (refine got (p := w3.cell? ⟨w.heap.size, 1, none⟩ = some (.bool b)) ?_ ?_; (focus (refine (hc3 _ _ ?_).trans ?_; (focus (go_size; done)); go_simp; done)); intro c3_w0_1)); (try (refine got (p := ∀ o, w3.frozen? ⟨w.heap.size, o, none⟩ = false) ?_ ?_; (focus (intro o; refine (hf3 _ _ ?_).trans ?_; (focus (go_size; done)); go_simp; done)); intro f3_w0)); (try (refine got (p := w.heap.size + 1 < w3.heap.size) ?_ ?_; (focus (go_size; done)); intro q3_w1)); (try (refine got (p := w3.cell? ⟨w.heap.size + 1, 0, none⟩ = some (.int .i64 t)) ?_ ?_; (focus (refine (hc3 _ _ ?_).trans ?_; (focus (go_size; done)); go_simp; done)); intro c3_w1_0)); (try (refine got (p := w3.cell? ⟨w.heap.size + 1, 1, none⟩ = some (.bool c)) ?_ ?_; (focus (refine (hc3 _ _ ?_).trans ?_; (focus (go_size; done)); go_simp; done)); intro c3_w1_1)); (try (refine got (p := ∀ o, w3.frozen? ⟨w.heap.size + 1, o, none⟩ = false) ?_ ?_; (focus (intro o; refine (hf3 _ _ ?_).trans ?_; (focus (go_size; done)); go_simp; done)); intro f3_w1)); clear hc3 hf3)
    have hbw : Below w.heap.size w w3 := by (repeat' (first | (with_reducible exact Below.refl _ _) | (with_reducible refine Below.alloc ?_ ?_ _) | (with_reducible refine Below.drew ?_) | (with_reducible refine Below.setCell ?_ ?_ _) | (with_reducible refine bl_step ?_ (by assumption)) | go_size))
    go_wp2
    go_region_held3 (fun wx => wx.cell? ⟨w.heap.size, 0, none⟩ = some (.int .i64 s) ∧ wx.cell? ⟨w.heap.size, 1, none⟩ = some (.bool b) ∧ wx.cell? ⟨w.heap.size + 1, 0, none⟩ = some (.int .i64 t) ∧ wx.cell? ⟨w.heap.size + 1, 1, none⟩ = some (.bool c)) (go_keep)
      (first | (go_at_call 67; refine (KI.out _).mono ?_; rintro e wy ⟨rfl, rfl⟩) | (go_at_call_of 69 (Value.agg #[Value.int .i64 t, Value.bool c]); refine (KT.out _ (HT.out.below (by (repeat' (first | (with_reducible assumption) | (with_reducible exact Below.refl _ _) | (with_reducible refine Below.alloc ?_ ?_ _) | (with_reducible refine Below.drew ?_) | (with_reducible refine bl_drewN ?_ _) | (with_reducible refine Below.setCell ?_ ?_ _) | (with_reducible refine bl_step ?_ (by assumption)) | go_size))))).mono ?_; rintro e w4 ⟨rfl, hb4⟩; obtain ⟨hc4, hf4, hz4⟩ := bl hb4; (try simp at hz4); have c4a : w4.cell? ⟨w.heap.size, 0, none⟩ = some (.int .i64 s) := (hc4 w.heap.size 0 (by go_size)).trans c3_w0_0; have c4b : w4.cell? ⟨w.heap.size, 1, none⟩ = some (.bool b) := (hc4 w.heap.size 1 (by go_size)).trans c3_w0_1; have c4c : w4.cell? ⟨w.heap.size + 1, 0, none⟩ = some (.int .i64 t) := (hc4 (w.heap.size + 1) 0 (by go_size)).trans c3_w1_0; have c4d : w4.cell? ⟨w.heap.size + 1, 1, none⟩ = some (.bool c) := (hc4 (w.heap.size + 1) 1 (by go_size)).trans c3_w1_1; clear hc4 hf4) | (go_at_call 69; refine (KS.out _ (HT.out.below (by (repeat' (first | (with_reducible assumption) | (with_reducible exact Below.refl _ _) | (with_reducible refine Below.alloc ?_ ?_ _) | (with_reducible refine Below.drew ?_) | (with_reducible refine bl_drewN ?_ _) | (with_reducible refine Below.setCell ?_ ?_ _) | (with_reducible refine bl_step ?_ (by assumption)) | go_size))))).mono ?_; rintro e w5 ⟨rfl, hb5⟩; obtain ⟨hc5, hf5, hz5⟩ := bl hb5; (try simp at hz5); have c5a := (hc5 w.heap.size 0 (by omega)).trans c4a; have c5b := (hc5 w.heap.size 1 (by omega)).trans c4b; have c5c := (hc5 (w.heap.size + 1) 0 (by omega)).trans c4c; have c5d := (hc5 (w.heap.size + 1) 1 (by omega)).trans c4d; clear hc5 hf5) | (go_at_call 68; refine (KL.out _ (HL.out.below (by (repeat' (first | (with_reducible assumption) | (with_reducible exact Below.refl _ _) | (with_reducible refine Below.alloc ?_ ?_ _) | (with_reducible refine Below.drew ?_) | (with_reducible refine bl_drewN ?_ _) | (with_reducible refine Below.setCell ?_ ?_ _) | (with_reducible refine bl_step ?_ (by assumption)) | go_size))))).mono ?_; rintro e w6 ⟨rfl, hb6⟩; obtain ⟨hc6, hf6, hz6⟩ := bl hb6; (try simp at hz6); have c6a := (hc6 w.heap.size 0 (by omega)).trans c5a; have c6b := (hc6 w.heap.size 1 (by omega)).trans c5b; have c6c := (hc6 (w.heap.size + 1) 0 (by omega)).trans c5c; have c6d := (hc6 (w.heap.size + 1) 1 (by omega)).trans c5d; clear hc6 hf6))
    go_wp2
    go_ret
    exact ⟨rfl, by (repeat' (first | (with_reducible assumption) | (with_reducible exact Below.refl _ _) | (with_reducible refine Below.alloc ?_ ?_ _) | (with_reducible refine Below.drew ?_) | (with_reducible refine bl_drewN ?_ _) | (with_reducible refine Below.setCell ?_ ?_ _) | (with_reducible refine bl_step ?_ (by assumption)) | go_size))⟩

end Go.Proofs.YticapinlnlpbpaaDoor

namespace Go.Proofs.YticapinlnlpbpaaDoor
open Go.RowKit
set_option maxRecDepth 100000
set_option linter.unusedVariables false

set_option maxHeartbeats 1000000 in
theorem sToneInterval_any (s t : Int) (b c : Bool) (w : World) :
    Calls Tryd.prog 79 #[.agg #[.int .i64 s, .bool b], .agg #[.int .i64 t, .bool c]] w fun e w' => e = .returned (.string (ivt s b t c)) ∧ Below w.heap.size w w' := by
  by_cases hb : both s b t c = false
  · have e1 : ivt s b t c = ⟨#[]⟩ := by simp [ivt, hb]
    rw [e1]
    go_enter Tryd.func79, Tryd.ntmps79
    go_wp2_with (fail)
    (go_at_call 95; refine (sToneSteps_any _ _ _ _ _).mono ?_; rintro e w1 ⟨rfl, hb1⟩; obtain ⟨hc1, hf1, hz1⟩ := bl hb1; (try simp at hz1); (try (refine got (p := w.heap.size < w1.heap.size) ?_ ?_; (focus (go_size; done)); intro q1_w0)); (try (refine got (p := w1.cell? ⟨w.heap.size, 0, none⟩ = some (.int .i64 s)) ?_ ?_; (focus (refine (hc1 _ _ ?_).trans ?_; (focus (go_size; done)); go_simp; done)); intro c1_w0_0)); (try (refine got (p := w1.cell? ⟨w.heap.size, 1, none⟩ = some (.bool b)) ?_ ?_; (focus (refine (hc1 _ _ ?_).trans ?_; (focus (go_size; done)); go_simp; done)); intro c1_w0_1)); (try (refine got (p := ∀ o, w1.frozen? ⟨w.heap.size, o, none⟩ = false) ?_ ?_; (focus (intro o; refine (hf1 _ _ ?_).trans ?_; (focus (go_size; done)); go_simp; done)); intro f1_w0)); (try (refine got (p := w.heap.size + 1 < w1.heap.size) ?_ ?_; (focus (go_size; done)); intro q1_w1)); (try (refine got (p := w1.cell? ⟨w.heap.size + 1, 0, none⟩ = some (.int .i64 t)) ?_ ?_; (focus (refine (hc1 _ _ ?_).trans ?_; (focus (go_size; done)); go_simp; done)); intro c1_w1_0)); (try (refine got (p := w1.cell? ⟨w.heap.size + 1, 1, none⟩ = some (.bool c)) ?_ ?_; (focus (refine (hc1 _ _ ?_).trans ?_; (focus (go_size; done)); go_simp; done)); intro c1_w1_1)); (try (refine got (p := ∀ o, w1.frozen? ⟨w.heap.size + 1, o, none⟩ = false) ?_ ?_; (focus (intro o; refine (hf1 _ _ ?_).trans ?_; (focus (go_size; done)); go_simp; done)); intro f1_w1)); clear hc1 hf1)
    go_wp2
    go_ret
    exact ⟨rfl, by (repeat' (first | (with_reducible exact Below.refl _ _) | (with_reducible refine Below.alloc ?_ ?_ _) | (with_reducible refine Below.drew ?_) | (with_reducible refine Below.setCell ?_ ?_ _) | (with_reducible refine bl_step ?_ (by assumption)) | go_size))⟩
  rw [Bool.not_eq_false] at hb
  have hv : vd s b = true := by simp [both] at hb; exact hb.1
  have hu : vd t c = true := by simp [both] at hb; exact hb.2
  rw [ivt_yes hv hu]
  obtain ⟨h0, h1⟩ := vd_in hv
  obtain ⟨h2, h3⟩ := vd_in hu
  obtain ⟨g0, g1⟩ := hgt_bd (b := b) h0 h1
  obtain ⟨g2, g3⟩ := hgt_bd (b := c) h2 h3
  have HDN := Lib.hid (iv_down (s := s) (t := t) (b := b) (c := c))
  have HUP := Lib.hid (iv_up (s := s) (t := t) (b := b) (c := c))
  have hst := stp_yes hv hu
  have KP := Lib.hid (l1Height_any t c h2 h3)
  have KR := Lib.hid (l1Height_any s b h0 h1)
  have KS := Lib.hid (sToneSteps_any s t b c)
  rw [hst, hb] at KS
  obtain ⟨δ, hδ⟩ : ∃ δ, t - s = δ := ⟨_, rfl⟩
  obtain ⟨p, hp⟩ : ∃ p, hgt t c = p := ⟨_, rfl⟩
  obtain ⟨r, hr⟩ : ∃ r, hgt s b = r := ⟨_, rfl⟩
  have hδ0 : -20 ≤ δ := by omega
  have hδ1 : δ ≤ 20 := by omega
  rw [hδ, hp, hr] at HDN HUP
  rw [hδ] at KS
  rw [hp] at KP g2 g3
  rw [hr] at KR g0 g1
  obtain ⟨D, hD⟩ : ∃ D, p - r = D := ⟨_, rfl⟩
  have hD0 : -40 ≤ D := by omega
  have hD1 : D ≤ 40 := by omega
  rw [hD] at HDN HUP
  have u1 : IntKind.i64.wrap D = D := IntWalk.i64_in _ (by omega)
  clear hst hδ hp hr hv hu
  generalize ivN s t = n at HDN HUP
  generalize ivX s b t c = x at HDN HUP
  go_enter Tryd.func79, Tryd.ntmps79
  go_wp2_with (fail)
  (go_at_call 95; refine (KS.out _).mono ?_; rintro e w1 ⟨rfl, hb1⟩; obtain ⟨hc1, hf1, hz1⟩ := bl hb1; (try simp at hz1); have q1 : w.heap.size < w1.heap.size := by omega
   have q2 : w.heap.size + 1 < w1.heap.size := by omega
   have c1a : w1.cell? ⟨w.heap.size, 0, none⟩ = some (.int .i64 s) := (hc1 w.heap.size 0 (by go_size)).trans (by go_simp)
   have c1b : w1.cell? ⟨w.heap.size, 1, none⟩ = some (.bool b) := (hc1 w.heap.size 1 (by go_size)).trans (by go_simp)
   have c1c : w1.cell? ⟨w.heap.size + 1, 0, none⟩ = some (.int .i64 t) := (hc1 (w.heap.size + 1) 0 (by go_size)).trans (by go_simp)
   have c1d : w1.cell? ⟨w.heap.size + 1, 1, none⟩ = some (.bool c) := (hc1 (w.heap.size + 1) 1 (by go_size)).trans (by go_simp))
  have hbw : Below w.heap.size w w1 := by (repeat' (first | (with_reducible exact Below.refl _ _) | (with_reducible refine Below.alloc ?_ ?_ _) | (with_reducible refine Below.drew ?_) | (with_reducible refine Below.setCell ?_ ?_ _) | (with_reducible refine bl_step ?_ (by assumption)) | go_size))
  clear hc1 hf1
  go_wp2
  go_region_held3 (fun wx => wx.cell? ⟨w.heap.size, 0, none⟩ = some (.int .i64 s) ∧ wx.cell? ⟨w.heap.size, 1, none⟩ = some (.bool b) ∧ wx.cell? ⟨w.heap.size + 1, 0, none⟩ = some (.int .i64 t) ∧ wx.cell? ⟨w.heap.size + 1, 1, none⟩ = some (.bool c)) (go_keep)
    (first | (go_at_call_of 88 (Value.agg #[Value.int .i64 t, Value.bool c]); refine (KP.out _).mono ?_; rintro e w3 ⟨rfl, hb3⟩; obtain ⟨hc3, hf3, hz3⟩ := bl hb3; (try simp at hz3); have c3a := (hc3 w.heap.size 0 (by first | exact q1 | (simp; exact q1))).trans c1a; have c3b := (hc3 w.heap.size 1 (by first | exact q1 | (simp; exact q1))).trans c1b; have c3c := (hc3 (w.heap.size + 1) 0 (by first | exact q2 | (simp; exact q2))).trans c1c; have c3d := (hc3 (w.heap.size + 1) 1 (by first | exact q2 | (simp; exact q2))).trans c1d; clear hc3 hf3) | (go_at_call 88; refine (KR.out _).mono ?_; rintro e w4 ⟨rfl, hb4⟩; obtain ⟨hc4, hf4, hz4⟩ := bl hb4; (try simp at hz4); have c4a := (hc4 w.heap.size 0 (by omega)).trans c3a; have c4b := (hc4 w.heap.size 1 (by omega)).trans c3b; have c4c := (hc4 (w.heap.size + 1) 0 (by omega)).trans c3c; have c4d := (hc4 (w.heap.size + 1) 1 (by omega)).trans c3d; clear hc4 hf4))
  have hbw4 : Below w.heap.size w w4 := bl_step (bl_step hbw.drew hb3) hb4
  have hcs : δ < 0 ∨ (δ = 0 ∧ D < 0) ∨ 0 < δ ∨ (δ = 0 ∧ 0 ≤ D) := by omega
  rcases hcs with hd | ⟨rfl, hd⟩ | hd | ⟨rfl, hd⟩
  · obtain ⟨e1, e2⟩ := HDN.out (.inl hd)
    replace e1 := e1.symm
    replace e2 := e2.symm
    have m1 : IntKind.i64.wrap n = n := IntWalk.i64_in _ (by omega)
    have m2 : IntKind.i64.wrap x = x := IntWalk.i64_in _ (by omega)
    obtain ⟨k, hk⟩ : ∃ k, n + 1 = k := ⟨_, rfl⟩
    have m3 : IntKind.i64.wrap k = k := IntWalk.i64_in _ (by omega)
    have hadd := iv_add n x
    have KD := Lib.hid (l6DecN_any (n + 1) (by omega) (by omega))
    have KQ := Lib.hid (l1Quality_any n x (by omega) (by omega) (by omega) (by omega))
    rw [hk] at hadd KD
    clear HDN HUP hδ0 hδ1 hD0 hD1 g0 g1 g2 g3
    go_wp2_with (fail)
    (go_at_call 96; refine (KD.out _).mono ?_; rintro e w5 ⟨rfl, hb5⟩)
    go_wp2_with (fail)
    (go_at_call 97; refine (KQ.out _).mono ?_; rintro e w6 ⟨rfl, hb6⟩)
    go_wp2
    go_ret
    exact ⟨rfl, bl_step (bl_step hbw4 hb5) hb6⟩
  · obtain ⟨e1, e2⟩ := HDN.out (.inr ⟨rfl, hd⟩)
    obtain rfl : n = 0 := by omega
    replace e2 := e2.symm
    have m2 : IntKind.i64.wrap x = x := IntWalk.i64_in _ (by omega)
    have hadd : ∀ W : World, (Op.stringOp .add (decS 1) ⟨#[ivl 0 x]⟩).run Tryd.prog W = .ok (.string (ivw 0 x)) W := iv_add 0 x
    have KD := Lib.hid (l6DecN_any 1 (by omega) (by omega))
    have KQ := Lib.hid (l1Quality_any 0 x (by omega) (by omega) (by omega) (by omega))
    clear HDN HUP hδ0 hδ1 hD0 hD1 g0 g1 g2 g3 e1
    go_wp2_with (fail)
    (go_at_call 96; refine (KD.out _).mono ?_; rintro e w5 ⟨rfl, hb5⟩)
    go_wp2_with (fail)
    (go_at_call 97; refine (KQ.out _).mono ?_; rintro e w6 ⟨rfl, hb6⟩)
    go_wp2
    go_ret
    exact ⟨rfl, bl_step (bl_step hbw4 hb5) hb6⟩
  · obtain ⟨rfl, rfl⟩ := HUP.out (.inl hd)
    obtain ⟨k, hk⟩ : ∃ k, n + 1 = k := ⟨_, rfl⟩
    have m3 : IntKind.i64.wrap k = k := IntWalk.i64_in _ (by omega)
    have hadd := iv_add n x
    have KD := Lib.hid (l6DecN_any (n + 1) (by omega) (by omega))
    have KQ := Lib.hid (l1Quality_any n x (by omega) (by omega) (by omega) (by omega))
    rw [hk] at hadd KD
    clear HDN HUP hδ0 hδ1 hD0 hD1 g0 g1 g2 g3
    go_wp2_with (fail)
    (go_at_call 96; refine (KD.out _).mono ?_; rintro e w5 ⟨rfl, hb5⟩)
    go_wp2_with (fail)
    (go_at_call 97; refine (KQ.out _).mono ?_; rintro e w6 ⟨rfl, hb6⟩)
    go_wp2
    go_ret
    exact ⟨rfl, bl_step (bl_step hbw4 hb5) hb6⟩
  · obtain ⟨e1, e2⟩ := HUP.out (.inr ⟨rfl, hd⟩)
    subst e1 e2
    have hadd : ∀ W : World, (Op.stringOp .add (decS 1) ⟨#[ivl 0 x]⟩).run Tryd.prog W = .ok (.string (ivw 0 x)) W := iv_add 0 x
    have KD := Lib.hid (l6DecN_any 1 (by omega) (by omega))
    have KQ := Lib.hid (l1Quality_any 0 x (by omega) (by omega) (by omega) (by omega))
    clear HDN HUP hδ0 hδ1 hD0 hD1 g0 g1 g2 g3
    go_wp2_with (fail)
    (go_at_call 96; refine (KD.out _).mono ?_; rintro e w5 ⟨rfl, hb5⟩)
    go_wp2_with (fail)
    (go_at_call 97; refine (KQ.out _).mono ?_; rintro e w6 ⟨rfl, hb6⟩)
    go_wp2
    go_ret
    exact ⟨rfl, bl_step (bl_step hbw4 hb5) hb6⟩

end Go.Proofs.YticapinlnlpbpaaDoor

namespace Go.Proofs.YticapinlnlpbpaaDoor
set_option maxRecDepth 100000
set_option linter.unusedVariables false

/-- do two tones make a concord -/
def cnc (t u : Int × Bool) : Bool := ivl (ivN t.1 u.1) (ivX t.1 t.2 u.1 u.2) == 112
theorem cnc_sym_all : ∀ t ∈ allT, ∀ u ∈ allT, cnc t u = cnc u t := by decide +kernel
theorem cnc_self_all : ∀ t ∈ allT, cnc t t = true := by decide +kernel
theorem cnc_up_all : ∀ t ∈ allT, ∀ u ∈ allT, vd (u.1 + 7) u.2 = true → cnc t u = true → cnc t (u.1 + 7, u.2) = true := by decide +kernel
theorem cnc_pur_all : ∀ t ∈ allT, ∀ u ∈ allT, cnc t u = true → pur (ivN t.1 u.1) = true := by decide +kernel

/-- do both parts make a concord at a beat -/
def cnk (ts us : List (Int × Bool)) (k : Nat) : Bool := cnc (tnA ts k) (tnA us k)
/-- the strong beats among the first ones at which they do -/
def cnL (ts us : List (Int × Bool)) : Nat → List Int
  | 0 => []
  | k + 1 => if k % 3 = 0 ∧ cnk ts us k = true then cnL ts us k ++ [(k : Int)] else cnL ts us k
theorem cnL_hit {ts us : List (Int × Bool)} {k : Nat} (h : k % 3 = 0) (h2 : cnk ts us k = true) : cnL ts us (k + 1) = cnL ts us k ++ [(k : Int)] := by simp [cnL, h, h2]
theorem cnL_weak {ts us : List (Int × Bool)} {k : Nat} (h : k % 3 ≠ 0) : cnL ts us (k + 1) = cnL ts us k := by simp [cnL, h]
theorem cnL_miss {ts us : List (Int × Bool)} {k : Nat} (h : cnk ts us k = false) : cnL ts us (k + 1) = cnL ts us k := by simp [cnL, h]
theorem cnL_len (ts us : List (Int × Bool)) : ∀ n, (cnL ts us n).length ≤ (n + 2) / 3
  | 0 => by simp [cnL]
  | n + 1 => by
    have := cnL_len ts us n
    by_cases h : n % 3 = 0
    · cases h2 : cnk ts us n with
      | true => rw [cnL_hit h h2, List.length_append, List.length_singleton]; omega
      | false => rw [cnL_miss h2]; omega
    · rw [cnL_weak h]; omega
/-- are all strong beats among the first n concords -/
theorem cnL_full (ts us : List (Int × Bool)) : ∀ n, (cnL ts us n).length = (n + 2) / 3 ↔ ∀ k, k < n → k % 3 = 0 → cnk ts us k = true
  | 0 => by simp [cnL]
  | n + 1 => by
    have ih := cnL_full ts us n
    have hl := cnL_len ts us n
    by_cases h : n % 3 = 0
    · cases h2 : cnk ts us n with
      | true =>
        rw [cnL_hit h h2, List.length_append, List.length_singleton]
        constructor
        · intro e k hk h3
          by_cases e2 : k = n
          · rw [e2]; exact h2
          · exact ih.1 (by omega) k (by omega) h3
        · intro e
          have := ih.2 (fun k hk h3 => e k (by omega) h3)
          omega
      | false =>
        rw [cnL_miss h2]
        constructor
        · intro e; omega
        · intro e
          have := e n (by omega) h
          rw [h2] at this
          cases this
    · rw [cnL_weak h]
      constructor
      · intro e k hk h3
        have : k ≠ n := fun e2 => h (by rw [← e2]; exact h3)
        exact ih.1 (by omega) k (by omega) h3
      · intro e
        have := ih.2 (fun k hk h3 => e k (by omega) h3)
        omega
/-- the next three beats -/
theorem cnL_three_hit {ts us : List (Int × Bool)} {j : Nat} (h2 : cnk ts us (3 * j) = true) : cnL ts us (3 * (j + 1)) = cnL ts us (3 * j) ++ [((3 * j : Nat) : Int)] := by
  rw [show 3 * (j + 1) = 3 * j + 1 + 1 + 1 by omega, cnL_weak (by omega), cnL_weak (by omega), cnL_hit (by omega) h2]
theorem cnL_three_miss {ts us : List (Int × Bool)} {j : Nat} (h2 : cnk ts us (3 * j) = false) : cnL ts us (3 * (j + 1)) = cnL ts us (3 * j) := by
  rw [show 3 * (j + 1) = 3 * j + 1 + 1 + 1 by omega, cnL_weak (by omega), cnL_weak (by omega), cnL_miss h2]
theorem cnL_end {ts us : List (Int × Bool)} {j n : Nat} (h : n ≤ 3 * j) (h2 : 3 * j < n + 3) : cnL ts us (3 * j) = cnL ts us n := by
  have : 3 * j = n ∨ 3 * j = n + 1 ∨ 3 * j = n + 2 := by omega
  rcases this with e | e | e
  · rw [e]
  · rw [e, cnL_weak (by omega)]
  · rw [e, cnL_weak (by omega), cnL_weak (by omega)]
theorem cnL_mem {ts us : List (Int × Bool)} : ∀ {n : Nat} {z : Int}, z ∈ cnL ts us n → ∃ k : Nat, z = (k : Int) ∧ k < n ∧ k % 3 = 0 ∧ cnk ts us k = true
  | 0, z, h => by simp [cnL] at h
  | n + 1, z, h => by
    by_cases h3 : n % 3 = 0 ∧ cnk ts us n = true
    · rw [cnL_hit h3.1 h3.2, List.mem_append] at h
      rcases h with h | h
      · obtain ⟨k, e, hk, r⟩ := cnL_mem h
        exact ⟨k, e, by omega, r⟩
      · rw [List.mem_singleton] at h
        exact ⟨n, h, by omega, h3⟩
    · have e : cnL ts us (n + 1) = cnL ts us n := by simp [cnL, h3]
      rw [e] at h
      obtain ⟨k, e, hk, r⟩ := cnL_mem h
      exact ⟨k, e, by omega, r⟩
theorem cnL_congr {ts us ps qs : List (Int × Bool)} : ∀ n, (∀ k, k < n → cnk ts us k = cnk ps qs k) → cnL ts us n = cnL ps qs n
  | 0, _ => rfl
  | n + 1, h => by
    have ih := cnL_congr n (fun k hk => h k (by omega))
    have e := h n (by omega)
    simp only [cnL, e, ih]
def dcc (xs ys : List Vc) : List Int := if tog xs ys then cnL (snd8 xs) (snd8 ys) (snd8 xs).length else []
theorem dcc_yes {xs ys : List Vc} (h : tog xs ys = true) : dcc xs ys = cnL (snd8 xs) (snd8 ys) (snd8 xs).length := by simp [dcc, h]
theorem dcc_no {xs ys : List Vc} (h : tog xs ys = false) : dcc xs ys = [] := by simp [dcc, h]
theorem tog_24 {xs ys : List Vc} (h : tog xs ys = true) : (snd8 xs).length ≤ 24 := by
  have h1 := pval_in (tog_in h).1
  have h2 := snd_len h1.1
  omega
theorem dcc_len (xs ys : List Vc) : (dcc xs ys).length ≤ 8 := by
  unfold dcc
  split
  · rename_i h
    have h1 := tog_24 h
    have h2 := cnL_len (snd8 xs) (snd8 ys) (snd8 xs).length
    omega
  · simp

/-- what must hold at a beat of good discant of n beats -/
def okk (ts us : List (Int × Bool)) (n k : Nat) : Bool := !(decide (k % 3 = 0) || decide (k + 1 = n)) || cnk ts us k
def okA (ts us : List (Int × Bool)) (n : Nat) : Nat → Bool
  | 0 => true
  | k + 1 => okA ts us n k && okk ts us n k
theorem okA_all {ts us : List (Int × Bool)} {n : Nat} : ∀ {m : Nat}, okA ts us n m = true ↔ ∀ k, k < m → okk ts us n k = true
  | 0 => by simp [okA]
  | m + 1 => by
    have ih := okA_all (ts := ts) (us := us) (n := n) (m := m)
    simp only [okA, Bool.and_eq_true, ih]
    constructor
    · rintro ⟨h, h2⟩ k hk
      by_cases e : k = m
      · rw [e]; exact h2
      · exact h k (by omega)
    · intro h
      exact ⟨fun k hk => h k (by omega), h m (by omega)⟩
theorem okA_bad {ts us : List (Int × Bool)} {n k m : Nat} (h : okk ts us n k = false) (hk : k < m) : okA ts us n m = false := by
  rw [← Bool.not_eq_true]
  intro e
  rw [okA_all.1 e k hk] at h
  cases h
theorem okA_next {ts us : List (Int × Bool)} {n k : Nat} (h : okA ts us n k = true) (h2 : okk ts us n k = true) : okA ts us n (k + 1) = true := by simp [okA, h, h2]
theorem okA_model {ts us : List (Int × Bool)} {n : Nat} (h : 0 < n) : okA ts us n n = (((cnL ts us n).length == (n + 2) / 3) && cnk ts us (n - 1)) := by
  rw [Bool.eq_iff_iff, Bool.and_eq_true, beq_iff_eq, cnL_full, okA_all]
  constructor
  · intro e
    refine ⟨fun k hk h3 => ?_, ?_⟩
    · have := e k hk
      simpa [okk, h3] using this
    · have := e (n - 1) (by omega)
      simpa [okk, show n - 1 + 1 = n by omega] using this
  · rintro ⟨e, e2⟩ k hk
    unfold okk
    by_cases h3 : k % 3 = 0
    · rw [e k hk h3]; simp
    · by_cases h4 : k + 1 = n
      · have : k = n - 1 := by omega
        rw [this, e2]; simp
      · simp [h3, h4]
def dok (xs ys : List Vc) : Bool := tog xs ys && okA (snd8 xs) (snd8 ys) (snd8 xs).length (snd8 xs).length
theorem dok_no {xs ys : List Vc} (h : tog xs ys = false) : dok xs ys = false := by simp [dok, h]
theorem dok_yes {xs ys : List Vc} (h : tog xs ys = true) : dok xs ys = okA (snd8 xs) (snd8 ys) (snd8 xs).length (snd8 xs).length := by simp [dok, h]

/-- do both parts go in parallel to the next beat -/
def prl (ts us : List (Int × Bool)) (k : Nat) : Bool := (decide (chg8 ts k ≠ 0) && decide (chg8 ts k = chg8 us k)) && (cnk ts us k && cnk ts us (k + 1))
def dpl (xs ys : List Vc) : Int := if tog xs ys then cnt (prl (snd8 xs) (snd8 ys)) ((snd8 xs).length - 1) else -1
theorem dpl_no {xs ys : List Vc} (h : tog xs ys = false) : dpl xs ys = -1 := by simp [dpl, h]
theorem dpl_yes {xs ys : List Vc} (h : tog xs ys = true) : dpl xs ys = cnt (prl (snd8 xs) (snd8 ys)) ((snd8 xs).length - 1) := by simp [dpl, h]

end Go.Proofs.YticapinlnlpbpaaDoor

namespace Go.Proofs.YticapinlnlpbpaaDoor
open Go.RowKit
set_option maxRecDepth 100000
set_option linter.unusedVariables false

/-- both tables of tones -/
def TwoTab (w : World) : Prop := StepTab w ∧ LeastTab w
theorem TwoTab.below {w w' : World} (h : TwoTab w) (hb : Below w.heap.size w w') : TwoTab w' := ⟨h.1.below hb, h.2.below hb⟩
theorem suf_last (l : List UInt8) (c d : UInt8) : Lib.hasSuffix (l ++ [c]) [d] = (c == d) := by
  unfold Lib.hasSuffix
  rw [Bool.eq_iff_iff, List.isSuffixOf_iff_suffix, beq_iff_eq]
  constructor
  · rintro ⟨t, ht⟩
    have := List.append_inj_right' ht rfl
    injection this with h _
    exact h.symm
  · rintro rfl
    exact ⟨l, rfl⟩
theorem ivt_suf {t u : Int × Bool} (h : vd t.1 t.2 = true) (k : vd u.1 u.2 = true) : Lib.hasSuffix (ivt t.1 t.2 u.1 u.2).data.toList [112] = cnc t u := by
  rw [ivt_yes h k]
  show Lib.hasSuffix (dec2 (ivN t.1 u.1 + 1).toNat ++ [ivl (ivN t.1 u.1) (ivX t.1 t.2 u.1 u.2)]) [112] = cnc t u
  rw [suf_last]
  rfl
theorem ivt_size (s : Int) (b : Bool) (t : Int) (c : Bool) : (ivt s b t c).size ≤ 3 := by
  unfold ivt
  split
  · have := dec2_len (ivN s t + 1).toNat
    show (dec2 (ivN s t + 1).toNat ++ [ivl (ivN s t) (ivX s b t c)]).toArray.size ≤ 3
    simp
    omega
  · show (#[] : Array UInt8).size ≤ 3
    simp

set_option maxHeartbeats 4000000 in
theorem concord_any (B D : Nat) (P Q : Nat → Nat) (ts us : List (Int × Bool)) (n k : Nat) (w : World) (h : DisI B w D P Q ts us n k) (hk : k < n) (ht : TwoTab w) :
    Calls Tryd.prog 51 #[.pointer (some ⟨D, 0, none⟩)] w fun e w' => e = .returned (.bool (cnk ts us k)) ∧ Below w.heap.size w w' := by
  have c0 : w.cell? ⟨D, 0, none⟩ = some (.pointer (some ⟨P k, 0, none⟩)) := by rw [← curP_lt P hk]; simp [World.cell?, h.blk]
  have c1 : w.cell? ⟨D, 1, none⟩ = some (.pointer (some ⟨Q k, 0, none⟩)) := by rw [← curP_lt Q hk]; simp [World.cell?, h.blk]
  obtain ⟨a0, a1, _⟩ := h.na.cells (k := k) (by rw [h.lt]; exact hk)
  obtain ⟨b0, b1, _⟩ := h.nb.cells (k := k) (by rw [h.lu]; exact hk)
  have v1 := h.va _ (List.mem_of_getElem? (tnA_get (ts := ts) (k := k) (by rw [h.lt]; exact hk)))
  have v2 := h.vb _ (List.mem_of_getElem? (tnA_get (ts := us) (k := k) (by rw [h.lu]; exact hk)))
  have hx := ivt_suf v1 v2
  have e : cnk ts us k = cnc (tnA ts k) (tnA us k) := rfl
  rw [e]
  have HT := Lib.hid ht
  clear h e ht hk v1 v2
  generalize tnA ts k = t at a0 a1 hx ⊢
  generalize tnA us k = u at b0 b1 hx ⊢
  obtain ⟨s, b⟩ := t
  obtain ⟨s', b'⟩ := u
  generalize cnc (s, b) (s', b') = q at hx ⊢
  have HX := Lib.hid hx
  have HI := Lib.hid (fun w h => toneInterval_any s s' b b' w h)
  have HZ := Lib.hid (ivt_size s b s' b')
  clear hx
  simp only at HX HI a0 a1 b0 b1
  generalize ivt s b s' b' = x at HX HI HZ
  generalize P k = p at c0 a0 a1
  generalize Q k = r at c1 b0 b1
  have zD := World.block_lt_of_cell? w _ c0
  have zp := World.block_lt_of_cell? w _ a0
  have zr := World.block_lt_of_cell? w _ b0
  go_enter Tryd.func51, Tryd.ntmps51
  go_wp2
  go_region_held3 (fun wx => wx.cell? ⟨D, 0, none⟩ = some (.pointer (some ⟨p, 0, none⟩)) ∧ wx.cell? ⟨D, 1, none⟩ = some (.pointer (some ⟨r, 0, none⟩)) ∧ wx.cell? ⟨p, 0, none⟩ = some (.int .i64 s) ∧ wx.cell? ⟨p, 1, none⟩ = some (.bool b) ∧ wx.cell? ⟨r, 0, none⟩ = some (.int .i64 s') ∧ wx.cell? ⟨r, 1, none⟩ = some (.bool b')) (go_keep)
    (first | (go_at_call 31; refine (HI.out _ (HT.out.below (Below.refl _ _).drew).1 (HT.out.below (Below.refl _ _).drew).2).mono ?_; rintro e w1 ⟨rfl, hb1⟩; have d0 := (hb1.cell (p := ⟨D, 0, none⟩) zD).trans c0; have d1 := (hb1.cell (p := ⟨D, 1, none⟩) zD).trans c1; have d2 := (hb1.cell (p := ⟨p, 0, none⟩) zp).trans a0; have d3 := (hb1.cell (p := ⟨p, 1, none⟩) zp).trans a1; have d4 := (hb1.cell (p := ⟨r, 0, none⟩) zr).trans b0; have d5 := (hb1.cell (p := ⟨r, 1, none⟩) zr).trans b1) | (go_at_call 81; refine (Tryd.strings_HasSuffix x ⟨#[112]⟩ _ (by have := HZ.out; omega)).mono ?_; rintro e w2 ⟨rfl, rfl⟩))
  have HE := Lib.hid (bl_step (Below.refl _ _).drew hb1)
  rw [HX.out]
  clear c0 c1 a0 a1 b0 b1 d0 d1 d2 d3 d4 d5 hb1
  go_wp2
  go_ret
  exact ⟨rfl, HE.out⟩

/-- an append to a row of integers leaves a pair of parts alone -/
theorem blk_grown {w w' : World} {b m g : Nat} {v : Value} {ys : List Value} {o : Obj} {cs : Array Value} {t : TypeId} (hg : (w.alloc o).grownBy w' v.ownBlock) (hv : w.ownsRow b 3 1 v m ys) (hh : w.heap[g]? = some (.cells cs t (0, 0))) (ht : t ≠ 3) : w'.heap[g]? = some (.cells cs t (0, 0)) := by
  have hlt := blk_lt hh
  refine (hg.block g (by simp; omega) ?_).trans ((heap_alloc_old w o hlt).trans hh)
  obtain ⟨_, ⟨rfl, _⟩ | ⟨g', cap, cur, rfl, _, hh', _⟩⟩ := hv
  · intro e; simp [Value.ownBlock] at e
  · intro e
    have e2 : g = g' := by simpa [Value.ownBlock] using e
    subst e2
    rw [hh] at hh'
    injection hh' with h1
    injection h1 with _ h2
    exact ht h2
theorem DisI.grown {B : Nat} {w w' : World} {D : Nat} {P Q : Nat → Nat} {ts us : List (Int × Bool)} {n k b m : Nat} {v : Value} {ys : List Value} {o : Obj} (h : DisI B w D P Q ts us n k) (hg : (w.alloc o).grownBy w' v.ownBlock) (hv : w.ownsRow b 3 1 v m ys) : DisI B w' D P Q ts us n k :=
  ⟨h.hD, h.lt, h.lu, blk_grown hg hv h.blk (by decide), fun j hj => ⟨(h.na j hj).1, blk_grown hg hv (h.na j hj).2 (by decide)⟩, fun j hj => ⟨(h.nb j hj).1, blk_grown hg hv (h.nb j hj).2 (by decide)⟩, h.va, h.vb⟩
/-- turning changes the pair alone -/
theorem turn_gb (w : World) (D : Nat) (x y : Value) (m : Nat) : w.grownBy (((w.drewN m).setCell ⟨D, 0, none⟩ x).setCell ⟨D, 1, none⟩ y) (some D) :=
  ⟨rfl, rfl, rfl, by simp [World.setCell], fun i hi hne => by
    have e : i ≠ D := fun e => hne (by rw [e])
    rw [heap_set_ne e, heap_set_ne e]
    rfl⟩
theorem IbInv.turned_ {w wr w2 : World} {D : Nat} {v : Value} {xs : List Int} {cs : Array Value} (h : IbInv w wr v xs) (hg : wr.grownBy w2 (some D)) (hD : w.heap.size ≤ D) (hh : wr.heap[D]? = some (.cells cs 67 (0, 0))) : IbInv w w2 v xs := by
  refine ⟨h.own.kept hg ?_, h.bl.grown hg h.bl.size (fun k hk => by injection hk with hk; omega)⟩
  obtain ⟨_, ⟨rfl, _⟩ | ⟨g', cap, cur, rfl, _, hh', _⟩⟩ := h.own
  · exact .inl rfl
  · right
    intro e
    have e2 : g' = D := by simpa [Value.ownBlock] using e
    subst e2
    rw [hh] at hh'
    injection hh' with h1
    injection h1 with _ h2
    exact absurd h2 (by decide)
set_option maxHeartbeats 4000000 in
theorem turn8_any (B D : Nat) (P Q : Nat → Nat) (ts us : List (Int × Bool)) (n k : Nat) (w : World) (h : DisI B w D P Q ts us n k) (hk : k < n) :
    Calls Tryd.prog 52 #[.pointer (some ⟨D, 0, none⟩)] w fun e w' => e = .returned (.tuple #[]) ∧ DisI B w' D P Q ts us n (k + 1) ∧ w.grownBy w' (some D) := by
  have HS := Lib.hid (fun m => (h.step hk m).1)
  have HG := Lib.hid (fun m => turn_gb w D (curP P n (k + 1)) (curP Q n (k + 1)) m)
  rw [curP_next P hk, curP_next Q hk] at HS HG
  have c0 : w.cell? ⟨D, 0, none⟩ = some (.pointer (some ⟨P k, 0, none⟩)) := by rw [← curP_lt P hk]; simp [World.cell?, h.blk]
  have c1 : w.cell? ⟨D, 1, none⟩ = some (.pointer (some ⟨Q k, 0, none⟩)) := by rw [← curP_lt Q hk]; simp [World.cell?, h.blk]
  have cf : ∀ o, w.frozen? ⟨D, o, none⟩ = false := fun o => by simp [World.frozen?, h.blk]
  have a2 := (h.na.cells (k := k) (by rw [h.lt]; exact hk)).2.2
  have b2 := (h.nb.cells (k := k) (by rw [h.lu]; exact hk)).2.2
  have na : P k ≠ D := kind_no (h.na k (by rw [h.lt]; exact hk)).2 h.blk (by decide)
  have nb : Q k ≠ D := kind_no (h.nb k (by rw [h.lu]; exact hk)).2 h.blk (by decide)
  have na2 := Ne.symm na
  have nb2 := Ne.symm nb
  rw [h.lt] at a2
  rw [h.lu] at b2
  generalize P (nxt n k) = p at HS HG a2
  generalize Q (nxt n k) = q at HS HG b2
  generalize P k = pk at c0 a2 na na2
  generalize Q k = qk at c1 b2 nb nb2
  clear h
  go_enter Tryd.func52, Tryd.ntmps52
  go_wp2
  go_region
  all_goals
    go_end0
    exact ⟨rfl, HS.out 1, HG.out 1⟩

set_option maxHeartbeats 4000000 in
theorem discantConcords_any (v u : Value) (xs ys : List Vc) (w : World) (h : VV w v xs) (k : VV w u ys) (htab : TwoTab w) : Calls Tryd.prog 15 #[v, u] w (IbMade w (dcc xs ys)) := by
  obtain ⟨i0, hi0, hq0, hq1, hq2⟩ := info_parts infoIb
  have HN := Lib.hid (newDiscant_any v u xs ys (w.alloc (.cells #[] 3)) (h.below ((Below.refl _ _).alloc (Nat.le_refl _) _)) (k.below ((Below.refl _ _).alloc (Nat.le_refl _) _)))
  unfold NewDis at HN
  have HT := Lib.hid htab
  have HS := Lib.hid (IbInv.start w)
  clear h k htab
  cases ht : tog xs ys with
  | false =>
    rw [ht] at HN
    rw [dcc_no ht]
    clear ht
    go_enter Tryd.func15, Tryd.ntmps15
    go_wp2_with (fail)
    (go_at_call 50; refine (HN.out).mono ?_; rintro e w1 ⟨D, rfl, hb1, _, hno⟩)
    have hno := hno (by first | rfl | trivial)
    have c2 : w1.cell? ⟨D, 2, none⟩ = some (.int .i64 0) := by simp [World.cell?, hno]
    have HI := Lib.hid (HS.out.below hb1)
    clear hb1 hno
    go_wp2
    go_rounds 1
    go_ret
    exact HI.out.built
  | true =>
    have h24 := tog_24 ht
    rw [ht] at HN
    rw [dcc_yes ht]
    clear ht
    generalize snd8 xs = ts at HN h24 ⊢
    generalize snd8 ys = us at HN ⊢
    obtain ⟨n, hn⟩ : ∃ n, ts.length = n := ⟨_, rfl⟩
    rw [hn] at h24 ⊢
    have HLN := Lib.hid hn
    clear hn
    go_enter Tryd.func15, Tryd.ntmps15
    go_wp2_with (fail)
    (go_at_call 50; refine (HN.out).mono ?_; rintro e w1 ⟨D, rfl, hb1, hd, _⟩)
    obtain ⟨P, Q, hD⟩ := hd (by first | rfl | trivial)
    have c2 : w1.cell? ⟨D, 2, none⟩ = some (.int .i64 (ts.length : Int)) := by simp [World.cell?, hD.blk]
    have HD : Hid (DisI (w.heap.size + 1) w1 D P Q ts us ts.length 0) := by
      have e : (w.alloc (.cells #[] 3)).heap.size = w.heap.size + 1 := by simp
      rw [← e]; exact hD
    have HI := Lib.hid (HS.out.below hb1)
    clear hD hd hb1
    rw [HLN.out] at c2 HD
    go_wp2
    go_loopw [5, 20] (fun q i wr => ∃ k : Nat, k ≤ n ∧ i = .int .i64 (k : Int) ∧ IbInv w wr q (cnL ts us k) ∧ DisI (w.heap.size + 1) wr D P Q ts us n k) (fun _ i _ => n - (intOf i).toNat)
    case atStart => exact ⟨0, by omega, rfl, HI.out, HD.out⟩
    case round =>
      obtain ⟨k, hk, rfl, hi, hd⟩ := hrel
      clear HD HI c2
      by_cases hlt : k < n
      · by_cases h3 : k % 3 = 0
        · have g3 : ((k : Int) % 3 == 0) = true := by rw [beq_iff_eq]; omega
          have g4 : (k : Int) % 3 = 0 := by omega
          have HC := Lib.hid (concord_any (w.heap.size + 1) D P Q ts us n k wr hd hlt (HT.out.below hi.bl))
          have HI := Lib.hid hi
          have HD := Lib.hid hd
          have HH := Lib.hid h3
          clear hi hd h3
          cases hc : cnk ts us k with
          | true =>
            have HX := Lib.hid (cnL_hit HH.out hc)
            rw [hc] at HC
            clear hc
            go_wp2_with (fail)
            (go_at_call 51; refine (HC.out).mono ?_; rintro e w2 ⟨rfl, hb2⟩)
            have HI2 := Lib.hid (HI.out.below hb2)
            have HD2 := Lib.hid (HD.out.below hb2)
            have hown := HI2.out.own
            have hlen := cnL_len ts us k
            have hws := HI2.out.bl.size
            have HNC : Hid ((w2.alloc (.cells #[.int .i64 (k : Int)] 3)).heap[w2.heap.size]? = some (.cells #[.int .i64 (k : Int)] 3 (0, 0))) := heap_alloc_new w2 (.cells #[.int .i64 (k : Int)] 3)
            clear hb2 HC HI HD
            go_wp2_with (at_builtin; refine wpList_append_own _ rfl _ _ 24 rfl w.heap.size 3 i0 (.int .i64 0) 1 8 Tryd.underlying24 hi0 hq0 hq1 hq2 rfl (by decide) _ _ _ rfl (hown.alloc _) ⟨w2.heap.size, 0, none⟩ 1 1 [.int .i64 (k : Int)] rfl rfl (World.news_of_block HNC.out) (by simp [Value.oneCell']) (by unfold maxLen; omega) (by omega) (by simp; omega) ?_)
            intro v' w4 hown' hgrow _
            have hi4 := HI2.out.app (z := (k : Int)) hown' hgrow
            rw [← HX.out] at hi4
            have HI4 := Lib.hid hi4
            have HD4 := Lib.hid (HD2.out.grown hgrow HI2.out.own)
            have HT4 := Lib.hid (turn8_any _ D P Q ts us n k w4 HD4.out hlt)
            clear hown hown' hgrow hi4 HNC HI2 HD2 hlen hws
            go_wp2_with (fail)
            (go_at_call 52; refine (HT4.out).mono ?_; rintro e w5 ⟨rfl, hd5, hg5⟩)
            have HI5 := Lib.hid (HI4.out.turned_ hg5 (by have := HD4.out.hD; omega) HD4.out.blk)
            have HD5 := Lib.hid hd5
            clear hd5 hg5 HT4 HI4 HD4
            go_wp2
            go_roundw
            case rel => exact ⟨k + 1, by omega, by go_num, HI5.out, HD5.out⟩
            case measure => simp [intOf]; omega
          | false =>
            have HX := Lib.hid (cnL_miss hc)
            rw [hc] at HC
            clear hc
            go_wp2_with (fail)
            (go_at_call 51; refine (HC.out).mono ?_; rintro e w2 ⟨rfl, hb2⟩)
            have hi2 := HI.out.below hb2
            rw [← HX.out] at hi2
            have HI2 := Lib.hid hi2
            have HD2 := Lib.hid (HD.out.below hb2)
            have HT4 := Lib.hid (turn8_any _ D P Q ts us n k w2 HD2.out hlt)
            clear hb2 HC HI HD hi2
            go_wp2_with (fail)
            (go_at_call 52; refine (HT4.out).mono ?_; rintro e w5 ⟨rfl, hd5, hg5⟩)
            have HI5 := Lib.hid (HI2.out.turned_ hg5 (by have := HD2.out.hD; omega) HD2.out.blk)
            have HD5 := Lib.hid hd5
            clear hd5 hg5 HT4 HI2 HD2
            go_wp2
            go_roundw
            case rel => exact ⟨k + 1, by omega, by go_num, HI5.out, HD5.out⟩
            case measure => simp [intOf]; omega
        · have g3 : ((k : Int) % 3 == 0) = false := by rw [beq_eq_false_iff_ne]; omega
          have g4 : ¬ (k : Int) % 3 = 0 := by omega
          have hi2 := hi
          rw [← cnL_weak (ts := ts) (us := us) h3] at hi2
          have HI2 := Lib.hid hi2
          have HD2 := Lib.hid hd
          have HT4 := Lib.hid (turn8_any _ D P Q ts us n k wr hd hlt)
          clear hi hi2 hd h3
          go_wp2_with (fail)
          (go_at_call 52; refine (HT4.out).mono ?_; rintro e w5 ⟨rfl, hd5, hg5⟩)
          have HI5 := Lib.hid (HI2.out.turned_ hg5 (by have := HD2.out.hD; omega) HD2.out.blk)
          have HD5 := Lib.hid hd5
          clear hd5 hg5 HT4 HI2 HD2
          go_wp2
          go_roundw
          case rel => exact ⟨k + 1, by omega, by go_num, HI5.out, HD5.out⟩
          case measure => simp [intOf]; omega
      · have hkn : k = n := by omega
        subst hkn
        have HF := Lib.hid hi.built
        clear hi hd
        go_wp2
        go_ret
        exact HF.out

set_option maxHeartbeats 4000000 in
theorem discantOk_any (v u : Value) (xs ys : List Vc) (w : World) (h : VV w v xs) (k : VV w u ys) (htab : TwoTab w) : Calls Tryd.prog 22 #[v, u] w fun e w' => e = .returned (.bool (dok xs ys)) ∧ Below w.heap.size w w' := by
  have HN := Lib.hid (newDiscant_any v u xs ys w h k)
  unfold NewDis at HN
  have HT := Lib.hid htab
  clear h k htab
  cases ht : tog xs ys with
  | false =>
    rw [ht] at HN
    rw [dok_no ht]
    clear ht
    go_enter Tryd.func22, Tryd.ntmps22
    go_wp2_with (fail)
    (go_at_call 50; refine (HN.out).mono ?_; rintro e w1 ⟨D, rfl, hb1, _, hno⟩)
    have hno := hno (by first | rfl | trivial)
    have c2 : w1.cell? ⟨D, 2, none⟩ = some (.int .i64 0) := by simp [World.cell?, hno]
    have HB := Lib.hid hb1
    clear hb1 hno
    go_wp2
    go_rounds 1
    go_ret
    exact ⟨rfl, HB.out⟩
  | true =>
    have h24 := tog_24 ht
    rw [ht] at HN
    rw [dok_yes ht]
    clear ht
    generalize snd8 xs = ts at HN h24 ⊢
    generalize snd8 ys = us at HN ⊢
    obtain ⟨n, hn⟩ : ∃ n, ts.length = n := ⟨_, rfl⟩
    rw [hn] at h24 ⊢
    have HLN := Lib.hid hn
    clear hn
    have HBAD := Lib.hid (fun k (hk : k < n) (e : okk ts us n k = false) => okA_bad (m := n) e hk)
    have HEND : Hid (okA ts us n n = okA ts us n n) := rfl
    have wn : IntKind.i64.wrap ((n : Int) - 1) = (n : Int) - 1 := IntWalk.i64_in _ (by omega)
    go_enter Tryd.func22, Tryd.ntmps22
    go_wp2_with (fail)
    (go_at_call 50; refine (HN.out).mono ?_; rintro e w1 ⟨D, rfl, hb1, hd, _⟩)
    obtain ⟨P, Q, hD⟩ := hd (by first | rfl | trivial)
    have c2 : w1.cell? ⟨D, 2, none⟩ = some (.int .i64 (ts.length : Int)) := by simp [World.cell?, hD.blk]
    have HD := Lib.hid hD
    have HB := Lib.hid hb1
    clear hD hd hb1
    rw [HLN.out] at c2 HD
    go_wp2
    go_loopw [18] (fun i wr => ∃ k : Nat, k ≤ n ∧ i = .int .i64 (k : Int) ∧ okA ts us n k = true ∧ DisI w.heap.size wr D P Q ts us n k ∧ Below w.heap.size w wr) (fun i _ => n - (intOf i).toNat)
    case atStart => exact ⟨0, by omega, rfl, rfl, HD.out, HB.out⟩
    case round =>
      obtain ⟨k, hk, rfl, hok, hd, hb⟩ := hrel
      clear HD HB c2
      have HOK := Lib.hid hok
      have HW := Lib.hid hb
      have HD := Lib.hid hd
      clear hok
      by_cases hlt : k < n
      · have HC := Lib.hid (concord_any w.heap.size D P Q ts us n k wr hd hlt (HT.out.below hb))
        have HTU := Lib.hid (fun w' (hb : Below wr.heap.size wr w') => turn_any w.heap.size D P Q ts us n k w' (HD.out.below (w' := w') hb) hlt)
        have c2 : wr.cell? ⟨D, 2, none⟩ = some (.int .i64 (n : Int)) := by simp [World.cell?, hd.blk]
        clear hd hb
        by_cases h3 : k % 3 = 0
        · have g3 : ((k : Int) % 3 == 0) = true := by rw [beq_iff_eq]; omega
          have g4 : (k : Int) % 3 = 0 := by omega
          cases hc : cnk ts us k with
          | false =>
            have HE := Lib.hid (HBAD.out k hlt (by simp [okk, h3, hc]))
            rw [hc] at HC
            clear hc h3
            go_wp2_with (fail)
            (go_at_call 51; refine (HC.out).mono ?_; rintro e w2 ⟨rfl, hb2⟩)
            have HF := Lib.hid (bl_step HW.out hb2)
            clear hb2
            go_wp2
            go_ret
            exact ⟨by rw [HE.out]; rfl, HF.out⟩
          | true =>
            have HE := Lib.hid (okA_next HOK.out (by simp [okk, hc]))
            rw [hc] at HC
            clear hc h3
            go_wp2_with (fail)
            (go_at_call 51; refine (HC.out).mono ?_; rintro e w2 ⟨rfl, hb2⟩)
            have HF := Lib.hid (bl_step HW.out hb2)
            have HTU2 := Lib.hid (HTU.out w2 hb2)
            clear hb2 HTU HC
            go_wp2_with (fail)
            (go_at_call 52; refine (HTU2.out).mono ?_; rintro e w5 ⟨rfl, hd5, hb5⟩)
            have HD5 := Lib.hid hd5
            have HF5 : Hid (Below w.heap.size w w5) := HF.out.trans hb5
            clear hd5 hb5 HTU2
            go_wp2
            go_roundw
            case rel => exact ⟨k + 1, by omega, by go_num, HE.out, HD5.out, HF5.out⟩
            case measure => simp [intOf]; omega
        · have g3 : ((k : Int) % 3 == 0) = false := by rw [beq_eq_false_iff_ne]; omega
          have g4 : ¬ (k : Int) % 3 = 0 := by omega
          by_cases hl : k + 1 = n
          · have g5 : ((k : Int) == (n : Int) - 1) = true := by rw [beq_iff_eq]; omega
            have g6 : (k : Int) = (n : Int) - 1 := by omega
            cases hc : cnk ts us k with
            | false =>
              have HE := Lib.hid (HBAD.out k hlt (by simp [okk, hl, hc]))
              rw [hc] at HC
              clear hc h3 hl g6
              go_wp2_with (fail)
              (go_at_call 51; refine (HC.out).mono ?_; rintro e w2 ⟨rfl, hb2⟩)
              have HF := Lib.hid (bl_step HW.out hb2)
              clear hb2
              go_wp2
              go_ret
              exact ⟨by rw [HE.out]; rfl, HF.out⟩
            | true =>
              have HE := Lib.hid (okA_next HOK.out (by simp [okk, hc]))
              rw [hc] at HC
              clear hc h3 hl g6
              go_wp2_with (fail)
              (go_at_call 51; refine (HC.out).mono ?_; rintro e w2 ⟨rfl, hb2⟩)
              have HF := Lib.hid (bl_step HW.out hb2)
              have HTU2 := Lib.hid (HTU.out w2 hb2)
              clear hb2 HTU HC
              go_wp2_with (fail)
              (go_at_call 52; refine (HTU2.out).mono ?_; rintro e w5 ⟨rfl, hd5, hb5⟩)
              have HD5 := Lib.hid hd5
              have HF5 : Hid (Below w.heap.size w w5) := HF.out.trans hb5
              clear hd5 hb5 HTU2
              go_wp2
              go_roundw
              case rel => exact ⟨k + 1, by omega, by go_num, HE.out, HD5.out, HF5.out⟩
              case measure => simp [intOf]; omega
          · have g5 : ((k : Int) == (n : Int) - 1) = false := by rw [beq_eq_false_iff_ne]; omega
            have g6 : ¬ (k : Int) = (n : Int) - 1 := by omega
            have HE := Lib.hid (okA_next HOK.out (by simp [okk, h3, hl]))
            have HTU2 := Lib.hid (HTU.out wr (Below.refl _ _))
            clear h3 hl HC HTU
            go_wp2_with (fail)
            (go_at_call 52; refine (HTU2.out).mono ?_; rintro e w5 ⟨rfl, hd5, hb5⟩)
            have HD5 := Lib.hid hd5
            have HF5 : Hid (Below w.heap.size w w5) := HW.out.trans hb5
            clear hd5 hb5 HTU2
            go_wp2
            go_roundw
            case rel => exact ⟨k + 1, by omega, by go_num, HE.out, HD5.out, HF5.out⟩
            case measure => simp [intOf]; omega
      · have hkn : k = n := by omega
        subst hkn
        clear hd hb
        go_wp2
        go_ret
        exact ⟨by rw [HOK.out]; rfl, HW.out⟩

set_option maxHeartbeats 4000000 in
theorem parallel_any (B D : Nat) (P Q : Nat → Nat) (ts us : List (Int × Bool)) (n k : Nat) (w : World) (h : DisI B w D P Q ts us n k) (hk : k + 1 < n) (ht : TwoTab w) :
    Calls Tryd.prog 56 #[.pointer (some ⟨D, 0, none⟩)] w fun e w' => e = .returned (.bool (prl ts us k)) ∧ Below w.heap.size w w' := by
  have HC := Lib.hid (changes_any B D P Q ts us n k w h (by omega))
  rw [nxt_in hk] at HC
  have e1 : (tnA ts (k + 1)).1 - (tnA ts k).1 = chg8 ts k := rfl
  have e2 : (tnA us (k + 1)).1 - (tnA us k).1 = chg8 us k := rfl
  rw [e1, e2] at HC
  have e3 : prl ts us k = ((decide (chg8 ts k ≠ 0) && decide (chg8 ts k = chg8 us k)) && (cnk ts us k && cnk ts us (k + 1))) := rfl
  rw [e3]
  have HK := Lib.hid (fun w' (hb : Below w.heap.size w w') => concord_any B D P Q ts us n k w' (h.below (w' := w') hb) (by omega) (ht.below hb))
  have HD := Lib.hid h
  have HT := Lib.hid ht
  clear h ht e1 e2 e3
  generalize chg8 ts k = x at HC ⊢
  generalize chg8 us k = y at HC ⊢
  by_cases hx : x = 0
  · have g1 : (x == 0) = true := by rw [beq_iff_eq]; exact hx
    rw [show ((decide (x ≠ 0) && decide (x = y)) && (cnk ts us k && cnk ts us (k + 1))) = false by simp [hx]]
    clear HK HT
    go_enter Tryd.func56, Tryd.ntmps56
    go_wp2_with (fail)
    (go_at_call 83; refine (HC.out).mono ?_; rintro e w1 ⟨rfl, m1, rfl⟩)
    go_wp2
    go_ret
    exact ⟨rfl, bl_dn8 _ _⟩
  have g1 : (x == 0) = false := by rw [beq_eq_false_iff_ne]; exact hx
  by_cases hxy : x = y
  case neg =>
    have g2 : (x != y) = true := by rw [bne_iff_ne]; exact hxy
    rw [show ((decide (x ≠ 0) && decide (x = y)) && (cnk ts us k && cnk ts us (k + 1))) = false by simp [hxy]]
    clear HK HT
    go_enter Tryd.func56, Tryd.ntmps56
    go_wp2_with (fail)
    (go_at_call 83; refine (HC.out).mono ?_; rintro e w1 ⟨rfl, m1, rfl⟩)
    go_wp2
    go_ret
    exact ⟨rfl, bl_dn8 _ _⟩
  have g2 : (x != y) = false := by rw [bne_eq_false_iff_eq]; exact hxy
  rw [show ((decide (x ≠ 0) && decide (x = y)) && (cnk ts us k && cnk ts us (k + 1))) = (cnk ts us k && cnk ts us (k + 1)) by rw [decide_eq_true hxy, decide_eq_true (show x ≠ 0 from hx)]; rfl]
  subst hxy
  cases hc : cnk ts us k with
  | false =>
    rw [hc] at HK
    rw [Bool.false_and]
    clear hc
    go_enter Tryd.func56, Tryd.ntmps56
    go_wp2_with (fail)
    (go_at_call 83; refine (HC.out).mono ?_; rintro e w1 ⟨rfl, m1, rfl⟩)
    go_wp2_with (fail)
    (go_at_call 51; refine (HK.out _ (bl_dn8 _ _)).mono ?_; rintro e w2 ⟨rfl, hb2⟩)
    have HF := Lib.hid (bl_step (bl_dn8 w m1) hb2)
    clear hb2
    go_wp2
    go_ret
    exact ⟨rfl, HF.out⟩
  | true =>
    rw [hc] at HK
    rw [Bool.true_and]
    clear hc
    go_enter Tryd.func56, Tryd.ntmps56
    go_wp2_with (fail)
    (go_at_call 83; refine (HC.out).mono ?_; rintro e w1 ⟨rfl, m1, rfl⟩)
    go_wp2_with (fail)
    (go_at_call 51; refine (HK.out _ (bl_dn8 _ _)).mono ?_; rintro e w2 ⟨rfl, hb2⟩)
    have hf := bl_step (bl_dn8 w m1) hb2
    have hd2 := HD.out.below hf
    have c0 : w2.cell? ⟨D, 0, none⟩ = some (.pointer (some ⟨P k, 0, none⟩)) := by rw [← curP_lt P (show k < n by omega)]; simp [World.cell?, hd2.blk]
    have c1 : w2.cell? ⟨D, 1, none⟩ = some (.pointer (some ⟨Q k, 0, none⟩)) := by rw [← curP_lt Q (show k < n by omega)]; simp [World.cell?, hd2.blk]
    have c2 : w2.cell? ⟨D, 2, none⟩ = some (.int .i64 (n : Int)) := by simp [World.cell?, hd2.blk]
    have hlt : B ≤ w2.heap.size := by have := hd2.hD; have := blk_lt hd2.blk; omega
    have hbn : Below w2.heap.size w2 (w2.alloc (.cells #[.pointer (some ⟨P k, 0, none⟩), .pointer (some ⟨Q k, 0, none⟩), .int .i64 (n : Int)] 67)) := (Below.refl _ _).alloc (Nat.le_refl _) _
    have hd3 : DisI B (w2.alloc (.cells #[.pointer (some ⟨P k, 0, none⟩), .pointer (some ⟨Q k, 0, none⟩), .int .i64 (n : Int)] 67)) w2.heap.size P Q ts us n k :=
      ⟨hlt, hd2.lt, hd2.lu, by rw [curP_lt P (show k < n by omega), curP_lt Q (show k < n by omega)]; exact heap_alloc_new w2 _, hd2.na.below hbn, hd2.nb.below hbn, hd2.va, hd2.vb⟩
    have HTU := Lib.hid (turn8_any B w2.heap.size P Q ts us n k _ hd3 (by omega))
    have HF := Lib.hid (hf.alloc hf.size (.cells #[.pointer (some ⟨P k, 0, none⟩), .pointer (some ⟨Q k, 0, none⟩), .int .i64 (n : Int)] 67))
    have HZ := Lib.hid hf.size
    clear hb2 hf hd2 hd3 hbn hlt HC HK HD
    go_wp2_with (fail)
    (go_at_call 52; refine (HTU.out).mono ?_; rintro e w4 ⟨rfl, hd4, hg4⟩)
    have HF4 : Hid (Below w.heap.size w w4) := HF.out.grown hg4 (by have := HZ.out; simp; omega) (fun j hj => by injection hj with hj; have := HZ.out; omega)
    have HCC := Lib.hid (concord_any B w2.heap.size P Q ts us n (k + 1) w4 hd4 hk (HT.out.below HF4.out))
    clear hd4 hg4 c0 c1 c2 HTU HF
    go_wp2_with (fail)
    (go_at_call 51; refine (HCC.out).mono ?_; rintro e w5 ⟨rfl, hb5⟩)
    have HF5 := Lib.hid (bl_step HF4.out hb5)
    clear hb5
    go_wp2
    go_ret
    exact ⟨rfl, HF5.out⟩

set_option maxHeartbeats 4000000 in
theorem countParallel_any (v u : Value) (xs ys : List Vc) (w : World) (h : VV w v xs) (k : VV w u ys) (htab : TwoTab w) : Calls Tryd.prog 55 #[v, u, .func (.func 56) #[] #[]] w fun e w' => e = .returned (.int .i64 (dpl xs ys)) ∧ Below w.heap.size w w' := by
  have HN := Lib.hid (newDiscant_any v u xs ys w h k)
  unfold NewDis at HN
  have HTA := Lib.hid htab
  clear h k htab
  cases ht : tog xs ys with
  | false =>
    rw [ht] at HN
    rw [dpl_no ht]
    clear ht
    go_enter Tryd.func55, Tryd.ntmps55
    go_wp2_with (fail)
    (go_at_call 50; refine (HN.out).mono ?_; rintro e w1 ⟨D, rfl, hb1, _, _⟩)
    have HB := Lib.hid hb1
    clear hb1
    go_wp2
    go_ret
    exact ⟨rfl, HB.out⟩
  | true =>
    have h24 := tog_24 ht
    rw [ht] at HN
    rw [dpl_yes ht]
    clear ht
    generalize snd8 xs = ts at HN h24 ⊢
    generalize snd8 ys = us at HN ⊢
    obtain ⟨n, hn⟩ : ∃ n, ts.length = n := ⟨_, rfl⟩
    rw [hn] at h24 ⊢
    have HLN := Lib.hid hn
    clear hn
    go_enter Tryd.func55, Tryd.ntmps55
    go_wp2_with (fail)
    (go_at_call 50; refine (HN.out).mono ?_; rintro e w1 ⟨D, rfl, hb1, hd, _⟩)
    obtain ⟨P, Q, hD⟩ := hd (by first | rfl | trivial)
    have c2 : w1.cell? ⟨D, 2, none⟩ = some (.int .i64 (ts.length : Int)) := by simp [World.cell?, hD.blk]
    have HD := Lib.hid hD
    have HB := Lib.hid hb1
    clear hD hd hb1
    rw [HLN.out] at c2 HD
    have wn : IntKind.i64.wrap ((n : Int) - 1) = (n : Int) - 1 := IntWalk.i64_in _ (by omega)
    go_wp2
    go_loopw [9, 23] (fun m i wr => ∃ k : Nat, k ≤ n - 1 ∧ i = .int .i64 (k : Int) ∧ m = .int .i64 (cnt (prl ts us) k) ∧ DisI w.heap.size wr D P Q ts us n k ∧ Below w.heap.size w wr) (fun _ i _ => n - (intOf i).toNat)
    case atStart => exact ⟨0, by omega, rfl, rfl, HD.out, HB.out⟩
    case round =>
      obtain ⟨k, hk, rfl, rfl, hd, hb⟩ := hrel
      clear HD HB c2
      by_cases hlt : k + 1 < n
      · have g0 : (k : Int) < (n : Int) - 1 := by omega
        have hc := cnt_in (prl ts us) k
        have HO := Lib.hid (parallel_any w.heap.size D P Q ts us n k wr hd hlt (HTA.out.below hb))
        have HTU := Lib.hid (fun w' (hb : Below wr.heap.size wr w') => turn_any w.heap.size D P Q ts us n k w' (hd.below (w' := w') hb) (by omega))
        have HW := Lib.hid hb
        clear hd hb
        cases hx : prl ts us k with
        | true =>
          have HX := Lib.hid (cnt_hit hx)
          rw [hx] at HO
          generalize cnt (prl ts us) k = z at hc HX
          have wz : IntKind.i64.wrap (z + 1) = z + 1 := IntWalk.i64_in _ (by omega)
          clear hx
          go_wp2_with (fail)
          (go_at_call 56; refine (HO.out).mono ?_; rintro e w1 ⟨rfl, hb1⟩)
          have HT2 := Lib.hid (HTU.out w1 hb1)
          have HW2 := Lib.hid (bl_step HW.out hb1)
          clear hb1 HTU HO
          go_wp2_with (fail)
          (go_at_call 52; refine (HT2.out).mono ?_; rintro e w2 ⟨rfl, hd2, hb2⟩)
          have HE := Lib.hid hd2
          have HF : Hid (Below w.heap.size w w2) := HW2.out.trans hb2
          clear hd2 hb2 HT2
          go_wp2
          go_roundw
          case rel => exact ⟨k + 1, by omega, by go_num, by rw [HX.out], HE.out, HF.out⟩
          case measure => simp [intOf]; omega
        | false =>
          have HX := Lib.hid (cnt_miss hx)
          rw [hx] at HO
          clear hx
          go_wp2_with (fail)
          (go_at_call 56; refine (HO.out).mono ?_; rintro e w1 ⟨rfl, hb1⟩)
          have HT2 := Lib.hid (HTU.out w1 hb1)
          have HW2 := Lib.hid (bl_step HW.out hb1)
          clear hb1 HTU HO
          go_wp2_with (fail)
          (go_at_call 52; refine (HT2.out).mono ?_; rintro e w2 ⟨rfl, hd2, hb2⟩)
          have HE := Lib.hid hd2
          have HF : Hid (Below w.heap.size w w2) := HW2.out.trans hb2
          clear hd2 hb2 HT2
          go_wp2
          go_roundw
          case rel => exact ⟨k + 1, by omega, by go_num, by rw [HX.out], HE.out, HF.out⟩
          case measure => simp [intOf]; omega
      · have hkn : k = n - 1 := by omega
        have g0 : decide ((k : Int) < (n : Int) - 1) = false := decide_eq_false (by omega)
        subst hkn
        have HF := Lib.hid hb
        clear hd hb
        go_wp2
        go_ret
        exact ⟨rfl, HF.out⟩

set_option maxHeartbeats 1000000 in
theorem discantParallels_any (v u : Value) (xs ys : List Vc) (w : World) (h : VV w v xs) (k : VV w u ys) (htab : TwoTab w) : Calls Tryd.prog 24 #[v, u] w fun e w' => e = .returned (.int .i64 (dpl xs ys)) ∧ Below w.heap.size w w' := by
  have HC := Lib.hid (countParallel_any v u xs ys w h k htab)
  generalize dpl xs ys = z at HC ⊢
  clear h k htab
  go_enter Tryd.func24, Tryd.ntmps24
  go_wp2_with (fail)
  (go_at_call 55; refine (HC.out).mono ?_; rintro e w1 ⟨rfl, hb⟩)
  have HB := Lib.hid hb
  clear hb
  go_wp2
  go_ret
  exact ⟨rfl, HB.out⟩

end Go.Proofs.YticapinlnlpbpaaDoor

namespace Go.Proofs.YticapinlnlpbpaaDoor
open Go.RowKit
set_option maxRecDepth 100000
set_option linter.unusedVariables false

theorem l1Size_any (n : Int) (h0 : -20 ≤ n) (h1 : n ≤ 20) (w : World) : Calls Tryd.prog 78 #[.int .i64 n] w fun e w' => e = .returned (.int .i64 (max n (-n))) ∧ w' = w := by
  have w1 : IntKind.i64.wrap (0 - n) = 0 - n := IntWalk.i64_in _ (by omega)
  have w2 : IntKind.i64.wrap (-n) = -n := IntWalk.i64_in _ (by omega)
  by_cases hn : n < 0
  · have g1 : n < 0 - n := by omega
    go_enter Tryd.func78, Tryd.ntmps78
    go_wp2
    go_ret
    exact ⟨rfl, rfl⟩
  · have g1 : ¬ n < 0 - n := by omega
    go_enter Tryd.func78, Tryd.ntmps78
    go_wp2
    go_ret
    exact ⟨rfl, rfl⟩
theorem ivw_last (n x : Int) : ∃ L : Nat, L ≤ 2 ∧ (ivw n x).size = L + 1 ∧ ∀ h : L < (ivw n x).size, (ivw n x)[L] = ivl n x := by
  have hl := dec2_len (n + 1).toNat
  refine ⟨(dec2 (n + 1).toNat).length, hl, by show (dec2 (n + 1).toNat ++ [ivl n x]).toArray.size = _; simp, fun h => ?_⟩
  exact List.getElem_concat_length (l := dec2 (n + 1).toNat) (a := ivl n x) rfl (by simp)

set_option maxHeartbeats 4000000 in
theorem l8Concord_any (s t : Int) (b c : Bool) (hv : vd s b = true) (hu : vd t c = true) (w : World) :
    Calls Tryd.prog 47 #[.agg #[.int .i64 s, .bool b], .agg #[.int .i64 t, .bool c]] w fun e w' => e = .returned (.bool (cnc (s, b) (t, c))) ∧ Below w.heap.size w w' := by
  have KI := Lib.hid (fun w => sToneInterval_any s t b c w)
  rw [ivt_yes hv hu] at KI
  obtain ⟨h0, h1⟩ := vd_in hv
  obtain ⟨h2, h3⟩ := vd_in hu
  have KS := Lib.hid (l1Size_any (s - t) (by omega) (by omega))
  have en : max (s - t) (-(s - t)) = ivN s t := by unfold ivN; rw [Int.max_def]; split <;> split <;> omega
  rw [en] at KS
  have hn0 : 0 ≤ ivN s t ∧ ivN s t ≤ 20 := by unfold ivN; split <;> omega
  have ws : IntKind.i64.wrap (s - t) = s - t := IntWalk.i64_in _ (by omega)
  have ec : cnc (s, b) (t, c) = (ivl (ivN s t) (ivX s b t c) == 112) := rfl
  have HP := Lib.hid (cnc_pur_all (s, b) (vd_allT hv) (t, c) (vd_allT hu))
  rw [ec] at HP ⊢
  simp only at HP
  clear ec en
  generalize ivN s t = n at KI KS HP hn0 ⊢
  generalize ivX s b t c = x at KI HP ⊢
  obtain ⟨N, rfl⟩ : ∃ N : Nat, n = (N : Int) := ⟨n.toNat, by omega⟩
  by_cases hp : pur (N : Int) = true
  case neg =>
    have hc : (ivl (N : Int) x == 112) = false := by
      rw [← Bool.not_eq_true]; exact fun e => hp (HP.out e)
    rw [hc]
    have g0 : ((N : Int) % 7 == 0) = false := by rw [beq_eq_false_iff_ne]; intro e; exact hp (by unfold pur; rw [e]; rfl)
    have g3 : ((N : Int) % 7 == 3) = false := by rw [beq_eq_false_iff_ne]; intro e; exact hp (by unfold pur; rw [e]; rfl)
    have g4 : ((N : Int) % 7 == 4) = false := by rw [beq_eq_false_iff_ne]; intro e; exact hp (by unfold pur; rw [e]; rfl)
    clear HP hc hp
    generalize ivw (N : Int) x = q at KI
    go_enter Tryd.func47, Tryd.ntmps47
    go_wp2_with (fail)
    (go_at_call 78; refine (KS.out _).mono ?_; rintro e wx ⟨rfl, rfl⟩)
    go_wp2_with (fail)
    (go_at_call 79; refine (KI.out _).mono ?_; rintro e w1 ⟨rfl, hb1⟩; obtain ⟨hc1, hf1, hz1⟩ := bl hb1; (try simp at hz1); (try (refine got (p := w.heap.size < w1.heap.size) ?_ ?_; (focus (go_size; done)); intro q1_w0)); (try (refine got (p := w1.cell? ⟨w.heap.size, 0, none⟩ = some (.int .i64 s)) ?_ ?_; (focus (refine (hc1 _ _ ?_).trans ?_; (focus (go_size; done)); go_simp; done)); intro c1_w0_0)); (try (refine got (p := w1.cell? ⟨w.heap.size, 1, none⟩ = some (.bool b)) ?_ ?_; (focus (refine (hc1 _ _ ?_).trans ?_; (focus (go_size; done)); go_simp; done)); intro c1_w0_1)); (try (refine got (p := ∀ o, w1.frozen? ⟨w.heap.size, o, none⟩ = false) ?_ ?_; (focus (intro o; refine (hf1 _ _ ?_).trans ?_; (focus (go_size; done)); go_simp; done)); intro f1_w0)); (try (refine got (p := w.heap.size + 1 < w1.heap.size) ?_ ?_; (focus (go_size; done)); intro q1_w1)); (try (refine got (p := w1.cell? ⟨w.heap.size + 1, 0, none⟩ = some (.int .i64 t)) ?_ ?_; (focus (refine (hc1 _ _ ?_).trans ?_; (focus (go_size; done)); go_simp; done)); intro c1_w1_0)); (try (refine got (p := w1.cell? ⟨w.heap.size + 1, 1, none⟩ = some (.bool c)) ?_ ?_; (focus (refine (hc1 _ _ ?_).trans ?_; (focus (go_size; done)); go_simp; done)); intro c1_w1_1)); (try (refine got (p := ∀ o, w1.frozen? ⟨w.heap.size + 1, o, none⟩ = false) ?_ ?_; (focus (intro o; refine (hf1 _ _ ?_).trans ?_; (focus (go_size; done)); go_simp; done)); intro f1_w1)); clear hc1 hf1)
    go_wp2
    go_ret
    exact ⟨rfl, by (repeat' (first | (with_reducible exact Below.refl _ _) | (with_reducible refine Below.alloc ?_ ?_ _) | (with_reducible refine Below.drew ?_) | (with_reducible refine Below.setCell ?_ ?_ _) | (with_reducible refine bl_step ?_ (by assumption)) | go_size))⟩
  case pos =>
    obtain ⟨L, hL, hsz, hat⟩ := ivw_last (N : Int) x
    have wL : IntKind.i64.wrap ((L + 1 : Nat) - 1 : Int) = (L : Int) := by rw [IntWalk.i64_in _ (by omega)]; omega
    generalize ivl (N : Int) x = z at hat ⊢
    generalize ivw (N : Int) x = q at KI hsz hat
    have hat := hat (by omega)
    clear HP
    have h3 : (N : Int) % 7 = 0 ∨ (N : Int) % 7 = 3 ∨ (N : Int) % 7 = 4 := by
      unfold pur at hp
      simp only [Bool.or_eq_true, beq_iff_eq] at hp
      omega
    clear hp
    have ez : ((z.toNat : Int) == 112) = (z == 112) := by
      rw [Bool.eq_iff_iff, beq_iff_eq, beq_iff_eq]
      constructor
      · intro e; exact UInt8.toNat_inj.1 (by have h9 : (112 : UInt8).toNat = 112 := rfl; omega)
      · intro e; rw [e]; rfl
    rcases h3 with g | g | g
    · have g0 : ((N : Int) % 7 == 0) = true := by rw [beq_iff_eq]; exact g
      go_enter Tryd.func47, Tryd.ntmps47
      go_wp2_with (fail)
      (go_at_call 78; refine (KS.out _).mono ?_; rintro e wx ⟨rfl, rfl⟩)
      go_wp2_with (fail)
      (go_at_call 79; refine (KI.out _).mono ?_; rintro e w1 ⟨rfl, hb1⟩; obtain ⟨hc1, hf1, hz1⟩ := bl hb1; (try simp at hz1); (try (refine got (p := w.heap.size < w1.heap.size) ?_ ?_; (focus (go_size; done)); intro q1_w0)); (try (refine got (p := w1.cell? ⟨w.heap.size, 0, none⟩ = some (.int .i64 s)) ?_ ?_; (focus (refine (hc1 _ _ ?_).trans ?_; (focus (go_size; done)); go_simp; done)); intro c1_w0_0)); (try (refine got (p := w1.cell? ⟨w.heap.size, 1, none⟩ = some (.bool b)) ?_ ?_; (focus (refine (hc1 _ _ ?_).trans ?_; (focus (go_size; done)); go_simp; done)); intro c1_w0_1)); (try (refine got (p := ∀ o, w1.frozen? ⟨w.heap.size, o, none⟩ = false) ?_ ?_; (focus (intro o; refine (hf1 _ _ ?_).trans ?_; (focus (go_size; done)); go_simp; done)); intro f1_w0)); (try (refine got (p := w.heap.size + 1 < w1.heap.size) ?_ ?_; (focus (go_size; done)); intro q1_w1)); (try (refine got (p := w1.cell? ⟨w.heap.size + 1, 0, none⟩ = some (.int .i64 t)) ?_ ?_; (focus (refine (hc1 _ _ ?_).trans ?_; (focus (go_size; done)); go_simp; done)); intro c1_w1_0)); (try (refine got (p := w1.cell? ⟨w.heap.size + 1, 1, none⟩ = some (.bool c)) ?_ ?_; (focus (refine (hc1 _ _ ?_).trans ?_; (focus (go_size; done)); go_simp; done)); intro c1_w1_1)); (try (refine got (p := ∀ o, w1.frozen? ⟨w.heap.size + 1, o, none⟩ = false) ?_ ?_; (focus (intro o; refine (hf1 _ _ ?_).trans ?_; (focus (go_size; done)); go_simp; done)); intro f1_w1)); clear hc1 hf1)
      go_wp2
      go_ret
      exact ⟨rfl, by (repeat' (first | (with_reducible exact Below.refl _ _) | (with_reducible refine Below.alloc ?_ ?_ _) | (with_reducible refine Below.drew ?_) | (with_reducible refine Below.setCell ?_ ?_ _) | (with_reducible refine bl_step ?_ (by assumption)) | go_size))⟩
    · have g0 : ((N : Int) % 7 == 0) = false := by rw [beq_eq_false_iff_ne]; omega
      have g3 : ((N : Int) % 7 == 3) = true := by rw [beq_iff_eq]; exact g
      go_enter Tryd.func47, Tryd.ntmps47
      go_wp2_with (fail)
      (go_at_call 78; refine (KS.out _).mono ?_; rintro e wx ⟨rfl, rfl⟩)
      go_wp2_with (fail)
      (go_at_call 79; refine (KI.out _).mono ?_; rintro e w1 ⟨rfl, hb1⟩; obtain ⟨hc1, hf1, hz1⟩ := bl hb1; (try simp at hz1); (try (refine got (p := w.heap.size < w1.heap.size) ?_ ?_; (focus (go_size; done)); intro q1_w0)); (try (refine got (p := w1.cell? ⟨w.heap.size, 0, none⟩ = some (.int .i64 s)) ?_ ?_; (focus (refine (hc1 _ _ ?_).trans ?_; (focus (go_size; done)); go_simp; done)); intro c1_w0_0)); (try (refine got (p := w1.cell? ⟨w.heap.size, 1, none⟩ = some (.bool b)) ?_ ?_; (focus (refine (hc1 _ _ ?_).trans ?_; (focus (go_size; done)); go_simp; done)); intro c1_w0_1)); (try (refine got (p := ∀ o, w1.frozen? ⟨w.heap.size, o, none⟩ = false) ?_ ?_; (focus (intro o; refine (hf1 _ _ ?_).trans ?_; (focus (go_size; done)); go_simp; done)); intro f1_w0)); (try (refine got (p := w.heap.size + 1 < w1.heap.size) ?_ ?_; (focus (go_size; done)); intro q1_w1)); (try (refine got (p := w1.cell? ⟨w.heap.size + 1, 0, none⟩ = some (.int .i64 t)) ?_ ?_; (focus (refine (hc1 _ _ ?_).trans ?_; (focus (go_size; done)); go_simp; done)); intro c1_w1_0)); (try (refine got (p := w1.cell? ⟨w.heap.size + 1, 1, none⟩ = some (.bool c)) ?_ ?_; (focus (refine (hc1 _ _ ?_).trans ?_; (focus (go_size; done)); go_simp; done)); intro c1_w1_1)); (try (refine got (p := ∀ o, w1.frozen? ⟨w.heap.size + 1, o, none⟩ = false) ?_ ?_; (focus (intro o; refine (hf1 _ _ ?_).trans ?_; (focus (go_size; done)); go_simp; done)); intro f1_w1)); clear hc1 hf1)
      go_wp2
      go_ret
      exact ⟨rfl, by (repeat' (first | (with_reducible exact Below.refl _ _) | (with_reducible refine Below.alloc ?_ ?_ _) | (with_reducible refine Below.drew ?_) | (with_reducible refine Below.setCell ?_ ?_ _) | (with_reducible refine bl_step ?_ (by assumption)) | go_size))⟩
    · have g0 : ((N : Int) % 7 == 0) = false := by rw [beq_eq_false_iff_ne]; omega
      have g3 : ((N : Int) % 7 == 3) = false := by rw [beq_eq_false_iff_ne]; omega
      have g4 : ((N : Int) % 7 == 4) = true := by rw [beq_iff_eq]; exact g
      go_enter Tryd.func47, Tryd.ntmps47
      go_wp2_with (fail)
      (go_at_call 78; refine (KS.out _).mono ?_; rintro e wx ⟨rfl, rfl⟩)
      go_wp2_with (fail)
      (go_at_call 79; refine (KI.out _).mono ?_; rintro e w1 ⟨rfl, hb1⟩; obtain ⟨hc1, hf1, hz1⟩ := bl hb1; (try simp at hz1); (try (refine got (p := w.heap.size < w1.heap.size) ?_ ?_; (focus (go_size; done)); intro q1_w0)); (try (refine got (p := w1.cell? ⟨w.heap.size, 0, none⟩ = some (.int .i64 s)) ?_ ?_; (focus (refine (hc1 _ _ ?_).trans ?_; (focus (go_size; done)); go_simp; done)); intro c1_w0_0)); (try (refine got (p := w1.cell? ⟨w.heap.size, 1, none⟩ = some (.bool b)) ?_ ?_; (focus (refine (hc1 _ _ ?_).trans ?_; (focus (go_size; done)); go_simp; done)); intro c1_w0_1)); (try (refine got (p := ∀ o, w1.frozen? ⟨w.heap.size, o, none⟩ = false) ?_ ?_; (focus (intro o; refine (hf1 _ _ ?_).trans ?_; (focus (go_size; done)); go_simp; done)); intro f1_w0)); (try (refine got (p := w.heap.size + 1 < w1.heap.size) ?_ ?_; (focus (go_size; done)); intro q1_w1)); (try (refine got (p := w1.cell? ⟨w.heap.size + 1, 0, none⟩ = some (.int .i64 t)) ?_ ?_; (focus (refine (hc1 _ _ ?_).trans ?_; (focus (go_size; done)); go_simp; done)); intro c1_w1_0)); (try (refine got (p := w1.cell? ⟨w.heap.size + 1, 1, none⟩ = some (.bool c)) ?_ ?_; (focus (refine (hc1 _ _ ?_).trans ?_; (focus (go_size; done)); go_simp; done)); intro c1_w1_1)); (try (refine got (p := ∀ o, w1.frozen? ⟨w.heap.size + 1, o, none⟩ = false) ?_ ?_; (focus (intro o; refine (hf1 _ _ ?_).trans ?_; (focus (go_size; done)); go_simp; done)); intro f1_w1)); clear hc1 hf1)
      go_wp2
      go_ret
      exact ⟨rfl, by (repeat' (first | (with_reducible exact Below.refl _ _) | (with_reducible refine Below.alloc ?_ ?_ _) | (with_reducible refine Below.drew ?_) | (with_reducible refine Below.setCell ?_ ?_ _) | (with_reducible refine bl_step ?_ (by assumption)) | go_size))⟩

/-- the tones of a list of voices at a beat are tones -/
theorem tn_vd {xs : List Vc} (ax : xs.all vok = true) {j n : Nat} (hj : j < n) (sx : (snd8 xs).length = n) : vd (tnA (snd8 xs) j).1 (tnA (snd8 xs) j).2 = true := tnA_valid ax (by omega)
theorem l8Conc_any (t u : Int × Bool) (hv : vd t.1 t.2 = true) (hu : vd u.1 u.2 = true) (w : World) :
    Calls Tryd.prog 47 #[.agg #[.int .i64 t.1, .bool t.2], .agg #[.int .i64 u.1, .bool u.2]] w fun e w' => e = .returned (.bool (cnc t u)) ∧ Below w.heap.size w w' := l8Concord_any t.1 u.1 t.2 u.2 hv hu w

set_option maxHeartbeats 4000000 in
theorem sDiscantConcords_any (v u : Value) (xs ys : List Vc) (w : World) (h : VV w v xs) (k : VV w u ys) : Calls Tryd.prog 13 #[v, u] w (IbMade w (dcc xs ys)) := by
  obtain ⟨i0, hi0, hq0, hq1, hq2⟩ := info_parts infoIb
  have HT := Lib.hid (sDiscantTogether_any v u xs ys (w.alloc (.cells #[] 3)) (h.below ((Below.refl _ _).alloc (Nat.le_refl _) _)) (k.below ((Below.refl _ _).alloc (Nat.le_refl _) _)))
  have HS := Lib.hid (IbInv.start w)
  cases ht : tog xs ys with
  | false =>
    rw [ht] at HT
    rw [dcc_no ht]
    clear ht h k
    go_enter Tryd.func13, Tryd.ntmps13
    go_wp2_with (fail)
    (go_at_call 45; refine (HT.out).mono ?_; rintro e w1 ⟨rfl, hb1⟩)
    have HI := Lib.hid (HS.out.below hb1)
    clear hb1
    go_wp2
    go_ret
    exact HI.out.built
  | true =>
    rw [ht] at HT
    obtain ⟨⟨ax, lx⟩, ⟨ay, ly⟩, n, hn, bx, by8, sx, sy⟩ := tog_facts ht
    rw [dcc_yes ht, sx]
    have HL := Lib.hid (fun w' (hb : Below w.heap.size w w') => l8Beats_any v xs w' (h.below (w' := w') hb) ax lx)
    have HA := Lib.hid (fun w' (hb : Below w.heap.size w w') (j : Nat) (hj : j < n) => l8At_any v xs j w' (h.below (w' := w') hb) ax lx (by omega))
    have HC := Lib.hid (fun w' (hb : Below w.heap.size w w') (j : Nat) (hj : j < n) => l8At_any u ys j w' (k.below (w' := w') hb) ay ly (by omega))
    have HV : Hid (∀ j, j < n → vd (tnA (snd8 xs) j).1 (tnA (snd8 xs) j).2 = true ∧ vd (tnA (snd8 ys) j).1 (tnA (snd8 ys) j).2 = true) := fun j hj => ⟨tn_vd ax hj sx, tn_vd ay hj sy⟩
    rw [bx] at HL
    clear ht h k bx by8 sx sy ax ay
    generalize snd8 xs = ts at HA HV ⊢
    generalize snd8 ys = us at HC HV ⊢
    go_enter Tryd.func13, Tryd.ntmps13
    go_wp2_with (fail)
    (go_at_call 45; refine (HT.out).mono ?_; rintro e w1 ⟨rfl, hb1⟩)
    have HI := Lib.hid (HS.out.below hb1)
    clear hb1 HT HS
    go_wp2
    go_loopw [5, 6] (fun q i wr => ∃ j : Nat, 3 * j < n + 3 ∧ i = .int .i64 ((3 * j : Nat) : Int) ∧ IbInv w wr q (cnL ts us (3 * j))) (fun _ i _ => n + 3 - (intOf i).toNat)
    case atStart => exact ⟨0, by omega, rfl, HI.out⟩
    case round =>
      obtain ⟨j, hj, rfl, hi⟩ := hrel
      clear HI
      have HI := Lib.hid hi
      have HW := Lib.hid hi.bl
      by_cases hlt : 3 * j < n
      · have gl : ((3 * j : Nat) : Int) < (n : Int) := by omega
        have hcd : cnk ts us (3 * j) = cnc (tnA ts (3 * j)) (tnA us (3 * j)) := rfl
        obtain ⟨v1, v2⟩ := HV.out _ hlt
        have HA1 := Lib.hid (fun w' hb => HA.out w' hb (3 * j) hlt)
        have HC1 := Lib.hid (fun w' hb => HC.out w' hb (3 * j) hlt)
        have HK := Lib.hid (l8Conc_any _ _ v1 v2)
        have w3 : IntKind.i64.wrap (((3 * j : Nat) : Int) + 3) = ((3 * (j + 1) : Nat) : Int) := by rw [IntWalk.i64_in _ (by omega)]; omega
        generalize tnA ts (3 * j) = x at HA1 HK hcd
        generalize tnA us (3 * j) = y at HC1 HK hcd
        have h0 := cnL_len ts us (3 * j)
        have h1 := HW.out.size
        have HXT := Lib.hid (cnL_three_hit (ts := ts) (us := us) (j := j))
        have HXF := Lib.hid (cnL_three_miss (ts := ts) (us := us) (j := j))
        rw [← hcd] at HK
        clear hi v1 v2 hcd
        obtain ⟨m, hm⟩ : ∃ m : Nat, 3 * j = m := ⟨_, rfl⟩
        have HM := Lib.hid hm
        obtain ⟨m3, hm3⟩ : ∃ m3 : Nat, 3 * (j + 1) = m3 := ⟨_, rfl⟩
        have HM3 := Lib.hid hm3
        have hj3 : 3 * (j + 1) < n + 3 := by omega
        have hjm : n + 3 - m3 < n + 3 - 3 * j := by omega
        rw [hm3] at w3 HXT HXF
        rw [hm] at HA1 HC1 HK HI w3 HXT HXF h0 gl hjm ⊢
        clear hm hm3
        go_wp2_with (fail)
        (go_at_call 46; refine (HL.out _ HW.out).mono ?_; rintro e wx ⟨rfl, rfl⟩)
        go_wp2_with (fail)
        (go_at_call 48; refine (HA1.out _ HW.out).mono ?_; rintro e w2 ⟨rfl, hb2⟩)
        have HW2 := Lib.hid (bl_step HW.out hb2)
        have HI2 := Lib.hid (HI.out.below hb2)
        clear hb2
        go_wp2_with (fail)
        (go_at_call 48; refine (HC1.out _ HW2.out).mono ?_; rintro e w3' ⟨rfl, hb3⟩)
        have HI3 := Lib.hid (HI2.out.below hb3)
        clear hb3 HI2 HI
        cases hc : cnk ts us m with
        | true =>
          have hx := HXT.out hc
          have HX := Lib.hid hx
          rw [hc] at HK
          clear hc hx HXF HXT
          go_wp2_with (fail)
          (go_at_call 47; refine (HK.out _).mono ?_; rintro e w4 ⟨rfl, hb4⟩)
          have HI4 := Lib.hid (HI3.out.below hb4)
          have hown := HI4.out.own
          have hws := HI4.out.bl.size
          have HNC : Hid ((w4.alloc (.cells #[.int .i64 (m : Int)] 3)).heap[w4.heap.size]? = some (.cells #[.int .i64 (m : Int)] 3 (0, 0))) := heap_alloc_new w4 (.cells #[.int .i64 (m : Int)] 3)
          clear hb4 HI3
          go_wp2_with (at_builtin; refine wpList_append_own _ rfl _ _ 24 rfl w.heap.size 3 i0 (.int .i64 0) 1 8 Tryd.underlying24 hi0 hq0 hq1 hq2 rfl (by decide) _ _ _ rfl (hown.alloc _) ⟨w4.heap.size, 0, none⟩ 1 1 [.int .i64 (m : Int)] rfl rfl (World.news_of_block HNC.out) (by simp [Value.oneCell']) (by unfold maxLen; omega) (by omega) (by simp; omega) ?_)
          intro v' w5 hown' hgrow _
          have hi5 := HI4.out.app (z := (m : Int)) hown' hgrow
          rw [← HX.out] at hi5
          have HI5 := Lib.hid hi5
          clear hown hown' hgrow hi5 HNC HI4 hws
          go_wp2
          go_roundw
          case rel => exact ⟨j + 1, hj3, by rw [HM3.out], by rw [HM3.out]; exact HI5.out⟩
          case measure => have := HM.out; simp [intOf]; omega
        | false =>
          have hx := HXF.out hc
          have HX := Lib.hid hx
          rw [hc] at HK
          clear hc hx HXF HXT
          go_wp2_with (fail)
          (go_at_call 47; refine (HK.out _).mono ?_; rintro e w4 ⟨rfl, hb4⟩)
          have hi5 := HI3.out.below hb4
          rw [← HX.out] at hi5
          have HI5 := Lib.hid hi5
          clear hb4 hi5 HI3
          go_wp2
          go_roundw
          case rel => exact ⟨j + 1, hj3, by rw [HM3.out], by rw [HM3.out]; exact HI5.out⟩
          case measure => have := HM.out; simp [intOf]; omega
      · have gl : decide (((3 * j : Nat) : Int) < (n : Int)) = false := decide_eq_false (by omega)
        have gl2 : decide (3 * j < n) = false := decide_eq_false hlt
        have hi2 := hi
        rw [cnL_end (by omega) hj] at hi2
        have HF := Lib.hid hi2.built
        clear hi hi2 HI
        generalize 3 * j = m at gl gl2
        go_wp2_with (fail)
        (go_at_call 46; refine (HL.out _ HW.out).mono ?_; rintro e wx ⟨rfl, rfl⟩)
        go_wp2
        go_ret
        exact HF.out

set_option maxHeartbeats 4000000 in
theorem sDiscantOk_any (v u : Value) (xs ys : List Vc) (w : World) (h : VV w v xs) (k : VV w u ys) : Calls Tryd.prog 21 #[v, u] w fun e w' => e = .returned (.bool (dok xs ys)) ∧ Below w.heap.size w w' := by
  have HT := Lib.hid (sDiscantTogether_any v u xs ys w h k)
  cases ht : tog xs ys with
  | false =>
    rw [ht] at HT
    rw [dok_no ht]
    clear ht h k
    go_enter Tryd.func21, Tryd.ntmps21
    go_wp2_with (fail)
    (go_at_call 45; refine (HT.out).mono ?_; rintro e w1 ⟨rfl, hb1⟩)
    have HB := Lib.hid hb1
    clear hb1
    go_wp2
    go_ret
    exact ⟨rfl, HB.out⟩
  | true =>
    rw [ht] at HT
    obtain ⟨⟨ax, lx⟩, ⟨ay, ly⟩, n, hn, bx, by8, sx, sy⟩ := tog_facts ht
    have HL := Lib.hid (fun w' (hb : Below w.heap.size w w') => l8Beats_any v xs w' (h.below (w' := w') hb) ax lx)
    have HA := Lib.hid (fun w' (hb : Below w.heap.size w w') (j : Nat) (hj : j < n) => l8At_any v xs j w' (h.below (w' := w') hb) ax lx (by omega))
    have HC := Lib.hid (fun w' (hb : Below w.heap.size w w') (j : Nat) (hj : j < n) => l8At_any u ys j w' (k.below (w' := w') hb) ay ly (by omega))
    have HV : Hid (∀ j, j < n → vd (tnA (snd8 xs) j).1 (tnA (snd8 xs) j).2 = true ∧ vd (tnA (snd8 ys) j).1 (tnA (snd8 ys) j).2 = true) := fun j hj => ⟨tn_vd ax hj sx, tn_vd ay hj sy⟩
    have HD := Lib.hid (fun w' (hb : Below w.heap.size w w') => sDiscantConcords_any v u xs ys w' (h.below (w' := w') hb) (k.below (w' := w') hb))
    unfold IbMade at HD
    rw [dcc_yes ht, sx] at HD
    rw [dok_yes ht, sx]
    rw [bx] at HL
    clear ht h k bx by8 sx sy ax ay
    generalize snd8 xs = ts at HA HV HD ⊢
    generalize snd8 ys = us at HC HV HD ⊢
    by_cases hn0 : n = 0
    · subst hn0
      have e0 : okA ts us 0 0 = true := rfl
      rw [e0]
      clear e0 HD HA HC HV
      go_enter Tryd.func21, Tryd.ntmps21
      go_wp2_with (fail)
      (go_at_call 45; refine (HT.out).mono ?_; rintro e w1 ⟨rfl, hb1⟩)
      have HB := Lib.hid hb1
      clear hb1
      go_wp2_with (fail)
      (go_at_call 46; refine (HL.out _ HB.out).mono ?_; rintro e wx ⟨rfl, rfl⟩)
      go_wp2
      go_ret
      exact ⟨rfl, HB.out⟩
    obtain ⟨p, rfl⟩ : ∃ p : Nat, n = p + 1 := ⟨n - 1, by omega⟩
    rw [okA_model (by omega)]
    have g0 : (((p + 1 : Nat) : Int) == 0) = false := by rw [beq_eq_false_iff_ne]; omega
    have hll := cnL_len ts us (p + 1)
    obtain ⟨v1, v2⟩ := HV.out p (by omega)
    have HA1 := Lib.hid (fun w' hb => HA.out w' hb p (by omega))
    have HC1 := Lib.hid (fun w' hb => HC.out w' hb p (by omega))
    have HK := Lib.hid (l8Conc_any _ _ v1 v2)
    have hcd : cnk ts us p = cnc (tnA ts p) (tnA us p) := rfl
    rw [← hcd] at HK
    rw [show p + 1 - 1 = p by omega]
    clear hcd v1 v2 HV HA HC hn0
    generalize cnk ts us p = q at HK ⊢
    generalize tnA ts p = x at HA1 HK
    generalize tnA us p = y at HC1 HK
    generalize cnL ts us (p + 1) = cl at HD hll ⊢
    obtain ⟨P, hP⟩ : ∃ P : Nat, p + 1 = P := ⟨_, rfl⟩
    have HP := Lib.hid hP
    rw [hP] at HL g0 hll ⊢
    have hpi : IntKind.i64.wrap ((P : Int) - 1) = (p : Int) := by rw [IntWalk.i64_in _ (by omega)]; omega
    have hp2 : IntKind.i64.wrap ((P : Int) + 2) = ((P + 2 : Nat) : Int) := by rw [IntWalk.i64_in _ (by omega)]; omega
    have hq3 : wrap64 (((P + 2 : Nat) : Int) / 3) = (((P + 2) / 3 : Nat) : Int) := by
      rw [IntWalk.wrap64_in _ (by omega)]; omega
    clear hP
    generalize (P + 2) / 3 = Q at hq3 hll ⊢
    generalize P + 2 = P2 at hp2 hq3
    by_cases hl : cl.length = Q
    · have g1 : ((cl.length : Int) == (Q : Int)) = true := by rw [beq_iff_eq]; omega
      have g2 : (cl.length == Q) = true := by rw [beq_iff_eq]; exact hl
      rw [g2, Bool.true_and]
      go_enter Tryd.func21, Tryd.ntmps21
      go_wp2_with (fail)
      (go_at_call 45; refine (HT.out).mono ?_; rintro e w1 ⟨rfl, hb1⟩)
      have HB := Lib.hid hb1
      clear hb1
      go_wp2_with (fail)
      (go_at_call 46; refine (HL.out _ HB.out).mono ?_; rintro e wx ⟨rfl, rfl⟩)
      go_wp2_with (fail)
      (go_at_call 13; refine (HD.out _ HB.out).mono ?_; rintro e w2 ⟨vc, rfl, hr, hb2⟩)
      obtain ⟨ac, cc, rfl⟩ := hr.sl rfl
      have HB2 := Lib.hid (bl_step HB.out hb2)
      clear hr hb2
      go_wp2_with (fail)
      (go_at_call 48; refine (HA1.out _ HB2.out).mono ?_; rintro e w3 ⟨rfl, hb3⟩)
      have HB3 := Lib.hid (bl_step HB2.out hb3)
      clear hb3
      go_wp2_with (fail)
      (go_at_call 48; refine (HC1.out _ HB3.out).mono ?_; rintro e w4 ⟨rfl, hb4⟩)
      have HB4 := Lib.hid (bl_step HB3.out hb4)
      clear hb4
      go_wp2_with (fail)
      (go_at_call 47; refine (HK.out _).mono ?_; rintro e w5 ⟨rfl, hb5⟩)
      have HB5 := Lib.hid (bl_step HB4.out hb5)
      clear hb5
      go_wp2
      go_ret
      exact ⟨rfl, HB5.out⟩
    · have g1 : ((cl.length : Int) == (Q : Int)) = false := by rw [beq_eq_false_iff_ne]; omega
      have g2 : (cl.length == Q) = false := by rw [beq_eq_false_iff_ne]; exact hl
      rw [g2, Bool.false_and]
      go_enter Tryd.func21, Tryd.ntmps21
      go_wp2_with (fail)
      (go_at_call 45; refine (HT.out).mono ?_; rintro e w1 ⟨rfl, hb1⟩)
      have HB := Lib.hid hb1
      clear hb1
      go_wp2_with (fail)
      (go_at_call 46; refine (HL.out _ HB.out).mono ?_; rintro e wx ⟨rfl, rfl⟩)
      go_wp2_with (fail)
      (go_at_call 13; refine (HD.out _ HB.out).mono ?_; rintro e w2 ⟨vc, rfl, hr, hb2⟩)
      obtain ⟨ac, cc, rfl⟩ := hr.sl rfl
      have HB2 := Lib.hid (bl_step HB.out hb2)
      clear hr hb2
      go_wp2
      go_ret
      exact ⟨rfl, HB2.out⟩

set_option maxHeartbeats 4000000 in
theorem sDiscantParallels_any (v u : Value) (xs ys : List Vc) (w : World) (h : VV w v xs) (k : VV w u ys) : Calls Tryd.prog 23 #[v, u] w fun e w' => e = .returned (.int .i64 (dpl xs ys)) ∧ Below w.heap.size w w' := by
  have HT := Lib.hid (sDiscantTogether_any v u xs ys w h k)
  cases ht : tog xs ys with
  | false =>
    rw [ht] at HT
    rw [dpl_no ht]
    clear ht h k
    go_enter Tryd.func23, Tryd.ntmps23
    go_wp2_with (fail)
    (go_at_call 45; refine (HT.out).mono ?_; rintro e w1 ⟨rfl, hb1⟩)
    have HB := Lib.hid hb1
    clear hb1
    go_wp2
    go_ret
    exact ⟨rfl, HB.out⟩
  | true =>
    rw [ht] at HT
    obtain ⟨⟨ax, lx⟩, ⟨ay, ly⟩, n, hn, bx, by8, sx, sy⟩ := tog_facts ht
    rw [dpl_yes ht, sx]
    have HL := Lib.hid (fun w' (hb : Below w.heap.size w w') => l8Beats_any v xs w' (h.below (w' := w') hb) ax lx)
    have HM := Lib.hid (fun w' (hb : Below w.heap.size w w') (j : Nat) (hj : j + 1 < n) => l8Moves_any v u xs ys n j w' (h.below (w' := w') hb) (k.below (w' := w') hb) ax lx ay ly bx by8 hj hn)
    have HA := Lib.hid (fun w' (hb : Below w.heap.size w w') (j : Nat) (hj : j < n) => l8At_any v xs j w' (h.below (w' := w') hb) ax lx (by omega))
    have HC := Lib.hid (fun w' (hb : Below w.heap.size w w') (j : Nat) (hj : j < n) => l8At_any u ys j w' (k.below (w' := w') hb) ay ly (by omega))
    have HV : Hid (∀ j, j < n → vd (tnA (snd8 xs) j).1 (tnA (snd8 xs) j).2 = true ∧ vd (tnA (snd8 ys) j).1 (tnA (snd8 ys) j).2 = true) := fun j hj => ⟨tn_vd ax hj sx, tn_vd ay hj sy⟩
    rw [bx] at HL
    clear ht h k bx by8 sx sy ax ay
    generalize snd8 xs = ts at HM HA HV ⊢
    generalize snd8 ys = us at HM HC HV ⊢
    go_enter Tryd.func23, Tryd.ntmps23
    go_wp2_with (fail)
    (go_at_call 45; refine (HT.out).mono ?_; rintro e w1 ⟨rfl, hb1⟩)
    have HB := Lib.hid hb1
    clear hb1 HT
    go_wp2
    go_loopw [5, 6] (fun m i wr => ∃ j : Nat, j ≤ n - 1 ∧ i = .int .i64 (j : Int) ∧ m = .int .i64 (cnt (prl ts us) j) ∧ Below w.heap.size w wr) (fun _ i _ => n - (intOf i).toNat)
    case atStart => exact ⟨0, by omega, rfl, rfl, HB.out⟩
    case round =>
      obtain ⟨j, hj, rfl, rfl, hb⟩ := hrel
      have HW := Lib.hid hb
      clear hb
      by_cases hlt : j + 1 < n
      · have hc := cnt_in (prl ts us) j
        have HM1 := Lib.hid (fun w' hb => HM.out w' hb j hlt)
        have HA1 := Lib.hid (fun w' hb => HA.out w' hb j (by omega))
        have HC1 := Lib.hid (fun w' hb => HC.out w' hb j (by omega))
        have HA2 : Hid (∀ w', Below w.heap.size w w' → Calls Tryd.prog 48 #[v, .int .i64 ((j : Int) + 1)] w' fun e w2 => e = .returned (.agg #[.int .i64 (tnA ts (j + 1)).1, .bool (tnA ts (j + 1)).2]) ∧ Below w'.heap.size w' w2) := fun w' hb => by
          have h9 := HA.out w' hb (j + 1) hlt
          rw [show ((j + 1 : Nat) : Int) = (j : Int) + 1 by omega] at h9
          exact h9
        have HC2 : Hid (∀ w', Below w.heap.size w w' → Calls Tryd.prog 48 #[u, .int .i64 ((j : Int) + 1)] w' fun e w2 => e = .returned (.agg #[.int .i64 (tnA us (j + 1)).1, .bool (tnA us (j + 1)).2]) ∧ Below w'.heap.size w' w2) := fun w' hb => by
          have h9 := HC.out w' hb (j + 1) hlt
          rw [show ((j + 1 : Nat) : Int) = (j : Int) + 1 by omega] at h9
          exact h9
        obtain ⟨v1, v2⟩ := HV.out j (by omega)
        obtain ⟨v3, v4⟩ := HV.out (j + 1) hlt
        have HK1 := Lib.hid (l8Conc_any _ _ v1 v2)
        have HK2 := Lib.hid (l8Conc_any _ _ v3 v4)
        have e1 : cnc (tnA ts j) (tnA us j) = cnk ts us j := rfl
        have e2 : cnc (tnA ts (j + 1)) (tnA us (j + 1)) = cnk ts us (j + 1) := rfl
        rw [e1] at HK1
        rw [e2] at HK2
        have hpr : prl ts us j = ((decide (chg8 ts j ≠ 0) && decide (chg8 ts j = chg8 us j)) && (cnk ts us j && cnk ts us (j + 1))) := rfl
        have gj : (j : Int) + 1 < (n : Int) := by omega
        have wj : IntKind.i64.wrap ((j : Int) + 1) = (j : Int) + 1 := IntWalk.i64_in _ (by omega)
        have HXT := Lib.hid (cnt_hit (p := prl ts us) (k := j))
        have HXF := Lib.hid (cnt_miss (p := prl ts us) (k := j))
        clear v1 v2 v3 v4 e1 e2
        generalize tnA ts (j + 1) = x2 at HA2 HK2
        generalize tnA us (j + 1) = y2 at HC2 HK2
        generalize tnA ts j = x1 at HA1 HK1
        generalize tnA us j = y1 at HC1 HK1
        generalize chg8 ts j = x at HM1 hpr
        generalize chg8 us j = y at HM1 hpr
        generalize cnk ts us (j + 1) = q2 at HK2 hpr
        generalize cnk ts us j = q1 at HK1 hpr
        generalize cnt (prl ts us) j = z at hc HXT HXF ⊢
        generalize prl ts us j = pr at hpr HXT HXF
        have wz : IntKind.i64.wrap (z + 1) = z + 1 := IntWalk.i64_in _ (by omega)
        go_wp2_with (fail)
        (go_at_call 46; refine (HL.out _ HW.out).mono ?_; rintro e wx ⟨rfl, rfl⟩)
        go_wp2_with (fail)
        (go_at_call 54; refine (HM1.out _ HW.out).mono ?_; rintro e w2 ⟨rfl, hb2⟩)
        have HW2 := Lib.hid (bl_step HW.out hb2)
        clear hb2
        by_cases hx : x = 0
        · have g1 : (x != 0) = false := by rw [bne_eq_false_iff_eq]; exact hx
          have HX := Lib.hid (HXF.out (by rw [hpr]; simp [hx]))
          clear hx hpr
          go_wp2
          go_roundw
          case rel => exact ⟨j + 1, by omega, by go_num, by rw [HX.out], HW2.out⟩
          case measure => simp [intOf]; omega
        have g1 : (x != 0) = true := by rw [bne_iff_ne]; exact hx
        by_cases hxy : x = y
        case neg =>
          have g2 : (x == y) = false := by rw [beq_eq_false_iff_ne]; exact hxy
          have HX := Lib.hid (HXF.out (by rw [hpr]; simp [hxy]))
          clear hx hxy hpr
          go_wp2
          go_roundw
          case rel => exact ⟨j + 1, by omega, by go_num, by rw [HX.out], HW2.out⟩
          case measure => simp [intOf]; omega
        have g2 : (x == y) = true := by rw [beq_iff_eq]; exact hxy
        have hpr2 : pr = (q1 && q2) := by rw [hpr, decide_eq_true hxy, decide_eq_true (show x ≠ 0 from hx)]; rfl
        clear hx hxy hpr
        go_wp2_with (fail)
        (go_at_call 48; refine (HA1.out _ HW2.out).mono ?_; rintro e w3 ⟨rfl, hb3⟩)
        have HW3 := Lib.hid (bl_step HW2.out hb3)
        clear hb3
        go_wp2_with (fail)
        (go_at_call 48; refine (HC1.out _ HW3.out).mono ?_; rintro e w4 ⟨rfl, hb4⟩)
        have HW4 := Lib.hid (bl_step HW3.out hb4)
        clear hb4
        go_wp2_with (fail)
        (go_at_call 47; refine (HK1.out _).mono ?_; rintro e w5 ⟨rfl, hb5⟩)
        have HW5 := Lib.hid (bl_step HW4.out hb5)
        clear hb5
        cases q1 with
        | false =>
          have HX := Lib.hid (HXF.out (by rw [hpr2]; rfl))
          clear hpr2
          go_wp2
          go_roundw
          case rel => exact ⟨j + 1, by omega, by go_num, by rw [HX.out], HW5.out⟩
          case measure => simp [intOf]; omega
        | true =>
          go_wp2_with (fail)
          (go_at_call 48; refine (HA2.out _ HW5.out).mono ?_; rintro e w6 ⟨rfl, hb6⟩)
          have HW6 := Lib.hid (bl_step HW5.out hb6)
          clear hb6
          go_wp2_with (fail)
          (go_at_call 48; refine (HC2.out _ HW6.out).mono ?_; rintro e w7 ⟨rfl, hb7⟩)
          have HW7 := Lib.hid (bl_step HW6.out hb7)
          clear hb7
          go_wp2_with (fail)
          (go_at_call 47; refine (HK2.out _).mono ?_; rintro e w8 ⟨rfl, hb8⟩)
          have HW8 := Lib.hid (bl_step HW7.out hb8)
          clear hb8
          cases q2 with
          | false =>
            have HX := Lib.hid (HXF.out (by rw [hpr2]; rfl))
            clear hpr2
            go_wp2
            go_roundw
            case rel => exact ⟨j + 1, by omega, by go_num, by rw [HX.out], HW8.out⟩
            case measure => simp [intOf]; omega
          | true =>
            have HX := Lib.hid (HXT.out (by rw [hpr2]; rfl))
            clear hpr2
            go_wp2
            go_roundw
            case rel => exact ⟨j + 1, by omega, by go_num, by rw [HX.out], HW8.out⟩
            case measure => simp [intOf]; omega
      · have hjn : j = n - 1 := by omega
        subst hjn
        have gj : decide (((n - 1 : Nat) : Int) + 1 < (n : Int)) = false := decide_eq_false (by omega)
        go_wp2_with (fail)
        (go_at_call 46; refine (HL.out _ HW.out).mono ?_; rintro e wx ⟨rfl, rfl⟩)
        go_wp2
        go_ret
        exact ⟨rfl, HW.out⟩

end Go.Proofs.YticapinlnlpbpaaDoor

namespace Go.Proofs.YticapinlnlpbpaaDoor
set_option maxRecDepth 100000
set_option linter.unusedVariables false

theorem mem_allT {t : Int × Bool} (h : vd t.1 t.2 = true) : t ∈ allT := vd_allT (s := t.1) (b := t.2) h
theorem cnc_sym {t u : Int × Bool} (h : vd t.1 t.2 = true) (k : vd u.1 u.2 = true) : cnc t u = cnc u t := cnc_sym_all t (mem_allT h) u (mem_allT k)
theorem cnc_self {t : Int × Bool} (h : vd t.1 t.2 = true) : cnc t t = true := cnc_self_all t (mem_allT h)
theorem tog_vd {xs ys : List Vc} (h : tog xs ys = true) {k : Nat} (hk : k < (snd8 xs).length) : vd (tnA (snd8 xs) k).1 (tnA (snd8 xs) k).2 = true ∧ vd (tnA (snd8 ys) k).1 (tnA (snd8 ys) k).2 = true :=
  ⟨tnA_valid (pval_in (tog_in h).1).1 hk, tnA_valid (pval_in (tog_in h).2.1).1 (by rw [← tog_len h]; exact hk)⟩
theorem cnk_sym {xs ys : List Vc} (h : tog xs ys = true) {k : Nat} (hk : k < (snd8 xs).length) : cnk (snd8 ys) (snd8 xs) k = cnk (snd8 xs) (snd8 ys) k :=
  cnc_sym (tog_vd h hk).2 (tog_vd h hk).1
theorem dcc_sym {xs ys : List Vc} (h : tog xs ys = true) : dcc ys xs = dcc xs ys := by
  rw [dcc_yes h, dcc_yes (by rw [tog_sym]; exact h), ← tog_len h]
  exact cnL_congr _ fun k hk => cnk_sym h hk
theorem tog_self {xs ys : List Vc} (h : tog xs ys = true) : tog xs xs = true := tog_yes (tog_in h).1 (tog_in h).1 rfl
theorem beats_len {xs ys : List Vc} (h : tog xs ys = true) : pbt xs = ((snd8 xs).length : Int) := by
  rw [pbt_yes (tog_in h).1, snd_len (pval_in (tog_in h).1).1]
theorem dcc_self {xs ys : List Vc} (h : tog xs ys = true) : (dcc xs xs).length = ((snd8 xs).length + 2) / 3 := by
  rw [dcc_yes (tog_self h), cnL_full]
  exact fun k hk _ => cnc_self (tog_vd h hk).1
theorem dcc_mem {xs ys : List Vc} (h : tog xs ys = true) {z : Int} (hz : z ∈ dcc xs ys) : ∃ k : Nat, z = (k : Int) ∧ k < (snd8 xs).length ∧ k % 3 = 0 ∧ cnc (tnA (snd8 xs) k) (tnA (snd8 ys) k) = true := by
  rw [dcc_yes h] at hz
  exact cnL_mem hz

theorem okA_congr {ts us ps qs : List (Int × Bool)} {n m : Nat} (h : ∀ k, k < m → cnk ts us k = cnk ps qs k) : okA ts us n m = okA ps qs n m := by
  rw [Bool.eq_iff_iff, okA_all, okA_all]
  constructor
  · intro e k hk; have := e k hk; unfold okk at this ⊢; rw [← h k hk]; exact this
  · intro e k hk; have := e k hk; unfold okk at this ⊢; rw [h k hk]; exact this
theorem dok_in {xs ys : List Vc} (h : dok xs ys = true) : tog xs ys = true := by
  cases e : tog xs ys with
  | true => rfl
  | false => rw [dok_no e] at h; cases h
theorem dok_sym {xs ys : List Vc} (h : dok xs ys = true) : dok ys xs = true := by
  have ht := dok_in h
  rw [dok_yes ht] at h
  rw [dok_yes (by rw [tog_sym]; exact ht), ← tog_len ht, ← h]
  exact okA_congr fun k hk => cnk_sym ht hk
theorem dok_slow {xs ys : List Vc} (h : dok xs ys = true) : dok (psL xs) (psL ys) = true := by
  have ht := dok_in h
  obtain ⟨h1, h2, h3⟩ := tog_in ht
  have a := slw_val h1
  have b := slw_val h2
  unfold psL
  rw [if_pos h1, if_pos h2, dok_yes (tog_yes a.1 b.1 (by rw [a.2, b.2, h3])), slw_snd (pval_in h1).1, slw_snd (pval_in h2).1, ← dok_yes ht]
  exact h
theorem dok_full {xs ys : List Vc} (h : dok xs ys = true) : (dcc xs ys).length = ((snd8 xs).length + 2) / 3 := by
  have ht := dok_in h
  rw [dok_yes ht, okA_all] at h
  rw [dcc_yes ht, cnL_full]
  intro k hk h3
  have := h k hk
  simpa [okk, h3] using this
theorem prl_sym {xs ys : List Vc} (h : tog xs ys = true) {k : Nat} (hk : k + 1 < (snd8 xs).length) : prl (snd8 ys) (snd8 xs) k = prl (snd8 xs) (snd8 ys) k := by
  unfold prl
  rw [cnk_sym h (by omega), cnk_sym h hk]
  congr 1
  rw [Bool.eq_iff_iff]
  simp only [Bool.and_eq_true, decide_eq_true_eq]
  constructor
  · rintro ⟨a, b⟩; exact ⟨by omega, b.symm⟩
  · rintro ⟨a, b⟩; exact ⟨by omega, b.symm⟩
theorem cnt_congr {p q : Nat → Bool} : ∀ {n : Nat}, (∀ k, k < n → p k = q k) → cnt p n = cnt q n
  | 0, _ => rfl
  | n + 1, h => by
    have ih := cnt_congr (p := p) (q := q) (n := n) (fun k hk => h k (by omega))
    simp only [cnt, ih, h n (by omega)]
theorem dpl_sym {xs ys : List Vc} (h : tog xs ys = true) : dpl ys xs = dpl xs ys := by
  rw [dpl_yes h, dpl_yes (by rw [tog_sym]; exact h), ← tog_len h]
  exact cnt_congr fun k hk => prl_sym h (by omega)
theorem dpl_in (xs ys : List Vc) : -1 ≤ dpl xs ys ∧ dpl xs ys ≤ 24 := by
  unfold dpl
  split
  · rename_i h
    have h1 := tog_24 h
    have h3 := cnt_in (prl (snd8 xs) (snd8 ys)) ((snd8 xs).length - 1)
    omega
  · omega
/-- does a part change its step behind a beat -/
def chn (ts : List (Int × Bool)) (k : Nat) : Bool := decide (chg8 ts k ≠ 0)
theorem dpl_self {xs ys : List Vc} (h : tog xs ys = true) : dpl xs xs = cnt (chn (snd8 xs)) ((snd8 xs).length - 1) := by
  rw [dpl_yes (tog_self h)]
  refine cnt_congr fun k hk => ?_
  unfold prl chn cnk
  rw [cnc_self (tog_vd h (k := k) (by omega)).1, cnc_self (tog_vd h (k := k + 1) (by omega)).1]
  simp
theorem cnt_sum {p q r : Nat → Bool} : ∀ {n : Nat}, (∀ k, k < n → (p k = true → q k = false ∧ r k = true) ∧ (q k = true → r k = true)) → cnt p n + cnt q n ≤ cnt r n
  | 0, _ => by simp [cnt]
  | n + 1, h => by
    have ih := cnt_sum (p := p) (q := q) (r := r) (n := n) (fun k hk => h k (by omega))
    obtain ⟨a, b⟩ := h n (by omega)
    cases hp : p n with
    | true => rw [cnt_hit hp, cnt_miss (a hp).1, cnt_hit (a hp).2]; omega
    | false =>
      rw [cnt_miss hp]
      cases hq : q n with
      | true => rw [cnt_hit hq, cnt_hit (b hq)]; omega
      | false =>
        rw [cnt_miss hq]
        cases hr : r n with
        | true => rw [cnt_hit hr]; omega
        | false => rw [cnt_miss hr]; omega
theorem dpl_both {xs ys : List Vc} (h : tog xs ys = true) : dpl xs ys + dct xs ys ≤ cnt (chn (snd8 xs)) ((snd8 xs).length - 1) := by
  rw [dpl_yes h, dct_yes h]
  refine cnt_sum fun k hk => ⟨fun hp => ?_, fun hq => ?_⟩
  · unfold prl at hp
    simp only [Bool.and_eq_true, decide_eq_true_eq] at hp
    obtain ⟨⟨a, b⟩, _⟩ := hp
    refine ⟨?_, by unfold chn; exact decide_eq_true a⟩
    unfold ctr
    rw [Bool.or_eq_false_iff, Bool.and_eq_false_iff, Bool.and_eq_false_iff]
    simp only [decide_eq_false_iff_not]
    omega
  · unfold ctr at hq
    simp only [Bool.or_eq_true, Bool.and_eq_true, decide_eq_true_eq] at hq
    unfold chn
    exact decide_eq_true (by omega)

end Go.Proofs.YticapinlnlpbpaaDoor

namespace Go.Proofs.YticapinlnlpbpaaDoor
set_option maxRecDepth 100000
set_option linter.unusedVariables false

/-- a part with the same beats, each tone k steps higher, sounds k steps higher at each beat -/
theorem snd_shift {k : Int} : ∀ (xs ys : List Vc), bts8 ys = bts8 xs → (tns ys).map (fun t => t.1) = (tns xs).map (fun t => t.1 + k) → (snd8 ys).map (fun t => t.1) = (snd8 xs).map (fun t => t.1 + k)
  | [], ys, h, _ => by
    have : ys = [] := by cases ys with
      | nil => rfl
      | cons y s => simp [bts8] at h
    subst this
    rfl
  | x :: r, [], h, _ => by simp [bts8] at h
  | x :: r, y :: s, h, h2 => by
    simp only [bts8, List.map_cons, List.cons.injEq] at h
    simp only [tns, List.map_cons, List.cons.injEq] at h2
    have ih := snd_shift r s h.2 h2.2
    rw [snd_cons, snd_cons, List.map_append, List.map_append, ih, List.map_replicate, List.map_replicate, h.1, h2.1]
theorem tnA_fst {ts : List (Int × Bool)} {j : Nat} : (tnA ts j).1 = (ts.map fun t => t.1).getD j 0 := by
  unfold tnA
  rw [List.getD_eq_getElem?_getD, List.getD_eq_getElem?_getD, List.getElem?_map]
  cases ts[j]? <;> rfl
theorem dm_shift {k : Int} {xs : List Vc} (h : dmOk k xs = true) : (snd8 (dmL k xs)).length = (snd8 xs).length ∧ ∀ j, j < (snd8 xs).length → (tnA (snd8 (dmL k xs)) j).1 = (tnA (snd8 xs) j).1 + k := by
  obtain ⟨h1, h2, h3, h4⟩ := dm_part h
  obtain ⟨z, hz⟩ := mm_mvd (dm_in h).2
  have e : (tns (dmL k xs)).map (fun t => t.1) = (tns xs).map (fun t => t.1 + k) := by
    rw [h2]
    apply List.ext_getElem?
    intro i
    rw [List.getElem?_map, List.getElem?_map]
    rcases Nat.lt_or_ge i (tns xs).length with hi | hi
    · have hi2 : i < (mmL k (tns xs)).length := by rw [← hz.len]; exact hi
      have := (hz.at_ i hi).1
      rw [gd_at hi, gd_at hi2] at this
      rw [List.getElem?_eq_getElem hi, List.getElem?_eq_getElem hi2]
      simp [this]
    · rw [List.getElem?_eq_none (by rw [← hz.len]; exact hi), List.getElem?_eq_none hi]; rfl
  have hs := snd_shift xs (dmL k xs) h3 e
  have hl : (snd8 (dmL k xs)).length = (snd8 xs).length := by
    have := congrArg List.length hs
    simpa using this
  refine ⟨hl, fun j hj => ?_⟩
  rw [tnA_fst, tnA_fst, hs, List.getD_eq_getElem?_getD, List.getD_eq_getElem?_getD, List.getElem?_map, List.getElem?_map, List.getElem?_eq_getElem hj]
  rfl
theorem dm_tog {k : Int} {xs ys : List Vc} (h : tog xs ys = true) (h2 : dmOk k ys = true) : tog xs (dmL k ys) = true := by
  obtain ⟨a, b, c⟩ := tog_in h
  obtain ⟨p, _, _, _⟩ := dm_part h2
  have l1 := snd_len (pval_in p).1
  have l2 := snd_len (pval_in b).1
  have l3 := (dm_shift h2).1
  exact tog_yes a p (by omega)
theorem cnt_le {p q : Nat → Bool} : ∀ {n : Nat}, (∀ k, k < n → p k = true → q k = true) → cnt p n ≤ cnt q n
  | 0, _ => by simp [cnt]
  | n + 1, h => by
    have ih := cnt_le (p := p) (q := q) (n := n) (fun k hk => h k (by omega))
    cases hp : p n with
    | true => rw [cnt_hit hp, cnt_hit (h n (by omega) hp)]; omega
    | false =>
      rw [cnt_miss hp]
      cases hq : q n with
      | true => rw [cnt_hit hq]; omega
      | false => rw [cnt_miss hq]; omega
theorem cnt_two {p q : Nat → Bool} : ∀ {n : Nat}, (∀ k, k < n → p k = true → q k = false) → cnt p n + cnt q n ≤ (n : Int)
  | 0, _ => by simp [cnt]
  | n + 1, h => by
    have ih := cnt_two (p := p) (q := q) (n := n) (fun k hk => h k (by omega))
    cases hp : p n with
    | true => rw [cnt_hit hp, cnt_miss (h n (by omega) hp)]; omega
    | false =>
      rw [cnt_miss hp]
      cases hq : q n with
      | true => rw [cnt_hit hq]; omega
      | false => rw [cnt_miss hq]; omega
theorem dcr_yes {xs ys : List Vc} (h : tog xs ys = true) : dcr xs ys = cnt (crs (snd8 xs) (snd8 ys)) (snd8 xs).length := by simp [dcr, h]
theorem dcr_no {xs ys : List Vc} (h : tog xs ys = false) : dcr xs ys = -1 := by simp [dcr, h]
/-- both crossings together are at most all beats -/
theorem dcr_both {xs ys : List Vc} (h : tog xs ys = true) : dcr xs ys + dcr ys xs ≤ pbt xs := by
  rw [dcr_yes h, dcr_yes (by rw [tog_sym]; exact h), ← tog_len h, pbt_yes (tog_in h).1, ← snd_len (pval_in (tog_in h).1).1]
  refine cnt_two fun k _ hk => ?_
  unfold crs at hk ⊢
  simp only [decide_eq_true_eq, decide_eq_false_iff_not] at hk ⊢
  omega
theorem dcr_self {xs ys : List Vc} (h : tog xs ys = true) : dcr xs xs = 0 := by
  have h1 := (tog_in h).1
  rw [dcr_yes (tog_yes h1 h1 rfl)]
  refine cnt_none (fun k => ?_) _
  unfold crs
  simp
theorem dcr_up {xs ys : List Vc} (h : tog xs ys = true) (h2 : dmOk 7 ys = true) : dcr xs (dmL 7 ys) ≤ dcr xs ys := by
  rw [dcr_yes h, dcr_yes (dm_tog h h2)]
  refine cnt_le fun k hk hc => ?_
  have := (dm_shift h2).2 k (by rw [← tog_len h]; exact hk)
  unfold crs at hc ⊢
  simp only [decide_eq_true_eq] at hc ⊢
  omega

end Go.Proofs.YticapinlnlpbpaaDoor

namespace Go.Proofs.YticapinlnlpbpaaDoor
set_option maxRecDepth 100000
set_option linter.unusedVariables false

/-- a part moved with the same Soft tones sounds moved -/
theorem snd_moved {k : Int} : ∀ (xs ys : List Vc), bts8 ys = bts8 xs → tns ys = (tns xs).map (fun t => (t.1 + k, t.2)) → snd8 ys = (snd8 xs).map (fun t => (t.1 + k, t.2))
  | [], ys, h, _ => by
    have : ys = [] := by cases ys with
      | nil => rfl
      | cons y s => simp [bts8] at h
    subst this
    rfl
  | x :: r, [], h, _ => by simp [bts8] at h
  | x :: r, y :: s, h, h2 => by
    simp only [bts8, List.map_cons, List.cons.injEq] at h
    simp only [tns, List.map_cons, List.cons.injEq] at h2
    have ih := snd_moved r s h.2 h2.2
    rw [snd_cons, snd_cons, List.map_append, ih, List.map_replicate, h.1, h2.1]
theorem dok_up {xs ys : List Vc} (h : dok xs ys = true) (h2 : dmOk 7 ys = true) (hs : ∀ i, i < ys.length → ((dmL 7 ys).getD i ((0, false), 0)).1.2 = (ys.getD i ((0, false), 0)).1.2) : dok xs (dmL 7 ys) = true := by
  have ht := dok_in h
  have ht2 := dm_tog ht h2
  obtain ⟨p1, p2, p3, p4⟩ := dm_part h2
  obtain ⟨z, hz⟩ := mm_mvd (dm_in h2).2
  have e : tns (dmL 7 ys) = (tns ys).map (fun t => (t.1 + 7, t.2)) := by
    apply List.ext_getElem
    · rw [tns_len, List.length_map, tns_len, p4]
    · intro i h1 h3
      have hi : i < ys.length := by rw [tns_len, p4] at h1; exact h1
      have hi2 : i < (dmL 7 ys).length := by rw [p4]; exact hi
      have a := hs i hi
      have b := (hz.at_ i (by rw [tns_len]; exact hi)).1
      rw [← p2, gd_at (by rw [tns_len]; exact hi2), gd_at (by rw [tns_len]; exact hi)] at b
      rw [List.getD_eq_getElem?_getD, List.getD_eq_getElem?_getD, List.getElem?_eq_getElem hi, List.getElem?_eq_getElem hi2] at a
      simp only [tns, List.getElem_map] at b ⊢
      simp only [Option.getD_some] at a
      exact Prod.ext b a
  have hm := snd_moved ys (dmL 7 ys) p3 e
  rw [dok_yes ht, okA_all] at h
  rw [dok_yes ht2, okA_all]
  intro k hk
  have h9 := h k hk
  have hky : k < (snd8 ys).length := by rw [← tog_len ht]; exact hk
  have e1 : tnA (snd8 (dmL 7 ys)) k = ((tnA (snd8 ys) k).1 + 7, (tnA (snd8 ys) k).2) := by
    have g : (snd8 (dmL 7 ys))[k]? = some ((tnA (snd8 ys) k).1 + 7, (tnA (snd8 ys) k).2) := by
      rw [hm, List.getElem?_map, tnA_get hky]; rfl
    unfold tnA at g ⊢
    rw [List.getD_eq_getElem?_getD, g]; rfl
  have hv := (tog_vd ht2 hk).2
  rw [e1] at hv
  unfold okk at h9 ⊢
  rw [Bool.or_eq_true] at h9 ⊢
  rcases h9 with h9 | h9
  · exact .inl h9
  · right
    unfold cnk at h9 ⊢
    rw [e1]
    exact cnc_up_all _ (mem_allT (tog_vd ht hk).1) _ (mem_allT (tog_vd ht hk).2) hv h9

theorem dm_chg {k : Int} {xs : List Vc} (h : dmOk k xs = true) {j : Nat} (hj : j + 1 < (snd8 xs).length) : chg8 (snd8 (dmL k xs)) j = chg8 (snd8 xs) j := by
  have a := (dm_shift h).2 j (by omega)
  have b := (dm_shift h).2 (j + 1) hj
  unfold chg8
  omega
theorem dm_self {k : Int} {xs : List Vc} (h : dmOk k xs = true) : tog xs (dmL k xs) = true :=
  dm_tog (tog_yes (dm_in h).1 (dm_in h).1 rfl) h
theorem dm_dct {k : Int} {xs : List Vc} (h : dmOk k xs = true) : dct xs (dmL k xs) = 0 := by
  rw [dct_yes (dm_self h)]
  have key : ∀ n, n ≤ (snd8 xs).length - 1 → cnt (ctr (snd8 xs) (snd8 (dmL k xs))) n = 0 := fun n => by
    induction n with
    | zero => intro _; rfl
    | succ n ih =>
      intro hn
      rw [cnt_miss, ih (by omega)]
      unfold ctr
      rw [dm_chg h (by omega), Bool.or_eq_false_iff, Bool.and_eq_false_iff, Bool.and_eq_false_iff]
      simp only [decide_eq_false_iff_not]
      omega
  exact key _ (Nat.le_refl _)
theorem dm_dpl {k : Int} {xs : List Vc} (h : dmOk k xs = true) : dpl xs (dmL k xs) ≤ dpl xs xs := by
  have ht := dm_self h
  rw [dpl_self ht, dpl_yes ht]
  refine cnt_le fun j hj hp => ?_
  unfold prl at hp
  simp only [Bool.and_eq_true, decide_eq_true_eq] at hp
  unfold chn
  exact decide_eq_true hp.1.1

end Go.Proofs.YticapinlnlpbpaaDoor

namespace Go.Proofs.YticapinlnlpbpaaDoor
open Go.RowKit Go.ChangeShapes Go.WideShapes Go.ChangeAt
set_option maxRecDepth 100000
set_option linter.unusedVariables false

theorem twoTab_at {W : World} {l : List (String × DataW Unit)} (h : laidMet Tryd.prog l W) (hm : ("loop.example/neumes/impl.stepHeights", (Rows.laid_loop_example_neumes_impl_stepHeights : DataW Unit)) ∈ l) (hm2 : ("loop.example/neumes/impl.leastSemis", (Rows.laid_loop_example_neumes_impl_leastSemis : DataW Unit)) ∈ l) : TwoTab W :=
  ⟨stepTab_at h hm, leastTab_at h hm2⟩

end Go.Proofs.YticapinlnlpbpaaDoor

namespace Go.Proofs.YticapinlnlpbpaaDoor
open Go.RowKit
set_option maxRecDepth 100000
set_option linter.unusedVariables false

theorem abv_in {s k : Int} {b c : Bool} (hv : vd s b = true) (h0 : -20 ≤ k) (h1 : k ≤ 20) : abv s b k c = vd (s + k) c := by simp [abv, hv, h0, h1]
/-- the tones that have been moved -/
def MdInv (w wr : World) (v : Value) (ys : List (Int × Bool)) : Prop :=
  wr.ownsRow w.heap.size 41 2 v ys.length (tcs ys) ∧ Below w.heap.size w wr
theorem MdInv.app {w wr w2 : World} {v v' : Value} {ys : List (Int × Bool)} {t : Int × Bool} {o : Obj} (h : MdInv w wr v ys)
    (hown : w2.ownsRow w.heap.size 41 2 v' (ys.length + 1) (tcs ys ++ [.int .i64 t.1, .bool t.2])) (hg : (wr.alloc o).grownBy w2 v.ownBlock) : MdInv w w2 v' (ys ++ [t]) := by
  refine ⟨?_, (h.2.alloc h.2.size o).grown hg (by have := h.2.size; simp; omega) (fun k hk => (h.1.lt k hk).1)⟩
  rw [tcs_app]
  simpa [tcs] using hown
theorem MdInv.below {w wr w1 : World} {v : Value} {ys : List (Int × Bool)} (h : MdInv w wr v ys) (hb : Below wr.heap.size wr w1) : MdInv w w1 v ys := ⟨tbelow h.1 hb, bl_step h.2 hb⟩
theorem MdInv.drew {w wr : World} {v : Value} {ys : List (Int × Bool)} (h : MdInv w wr v ys) : MdInv w wr.drew v ys := ⟨h.1.drew, h.2.drew⟩
theorem MdInv.start (w : World) : MdInv w (w.alloc (.cells #[] 41)) (.slice (some ⟨w.heap.size, 0, none⟩) 0 0) [] :=
  ⟨⟨rfl, .inr ⟨w.heap.size, 0, #[], rfl, Nat.le_refl _, heap_alloc_new w _, by simp, by simp [maxLen], by simp, by simp [tcs]⟩⟩, (Below.refl _ _).alloc (Nat.le_refl _) _⟩
theorem MdInv.built {w wr : World} {v : Value} {ys : List (Int × Bool)} (h : MdInv w wr v ys) : TBuilt2 w ys true (.returned (.tuple #[v, .bool true])) wr :=
  ⟨v, rfl, ⟨h.1, fun g hg => (h.1.lt g hg).2⟩, h.2⟩
theorem take_all {f : Int × Bool → Bool} {xs : List (Int × Bool)} {j : Nat} {t : Int × Bool} (hx : xs[j]? = some t) (h : (xs.take j).all f = true) (ht : f t = true) : (xs.take (j + 1)).all f = true := by
  rw [List.take_add_one, hx, List.all_append, h]; simp [ht]
theorem take_map {f : Int × Bool → Int × Bool} {xs : List (Int × Bool)} {j : Nat} {t : Int × Bool} (hx : xs[j]? = some t) : (xs.take (j + 1)).map f = (xs.take j).map f ++ [f t] := by
  rw [List.take_add_one, hx]; simp
theorem all_miss {f : Int × Bool → Bool} {xs : List (Int × Bool)} {j : Nat} {t : Int × Bool} (hx : xs[j]? = some t) (ht : f t = false) : xs.all f = false := by
  rw [List.all_eq_false]; exact ⟨t, List.mem_of_getElem? hx, by simp [ht]⟩
/-- the state of the inner loop -/
def MiInv (w wr : World) (v : Value) (ys : List (Int × Bool)) (k z : Int) (t : Int × Bool) (c : Int) (fd : Bool) : Prop :=
  (c = 0 ∧ fd = false ∧ MdInv w wr v ys) ∨ (c = 1 ∧ fd = false ∧ cnd k z false t = false ∧ MdInv w wr v ys) ∨ (c = 2 ∧ fd = false ∧ cnd k z false t = false ∧ cnd k z true t = false ∧ MdInv w wr v ys) ∨
    ((c = 1 ∨ c = 2) ∧ fd = true ∧ tmo k z t = true ∧ MdInv w wr v (ys ++ [tmv k z t]))
theorem tmv_hit {k z : Int} {c : Bool} {t : Int × Bool} (h : tmr k z t = (t.1 + k, c)) (h' : tmo k z t = true) : tmv k z t = (t.1 + k, c) := by
  unfold tmr at h; rw [if_pos h'] at h; exact h

/-- the moved list, none if some tone has none -/
def moL (k z : Int) (xs : List (Int × Bool)) : List (Int × Bool) := if xs.all (tmo k z) then xs.map (tmv k z) else []
theorem moL_yes {k z : Int} {xs : List (Int × Bool)} (h : xs.all (tmo k z) = true) : moL k z xs = xs.map (tmv k z) := by unfold moL; rw [h]; rfl
theorem moL_no {k z : Int} {xs : List (Int × Bool)} (h : xs.all (tmo k z) = false) : moL k z xs = [] := by unfold moL; rw [h]; rfl

set_option maxHeartbeats 16000000 in
theorem sMoved_any (lo hi : Nat) (v : Value) (xs : List (Int × Bool)) (k z : Int) (hk0 : -20 ≤ k) (hk1 : k ≤ 20) (hx : xs.all (fun t => vd t.1 t.2) = true) (hn : xs.length ≤ 24) (w : World) (h : TRow w lo hi v xs) :
    Calls Tryd.prog 87 #[v, .int .i64 k, .int .i64 z] w (TBuilt2 w (moL k z xs) (xs.all (tmo k z))) := by
  obtain ⟨i0, hi, hq0, hq1, hq2⟩ := info_parts infoTone
  have HS := Lib.hid (MdInv.start w)
  rcases h.form with ⟨rfl, rfl⟩ | ⟨g, cap, rfl, hg, hg2, hgs, hcap, hmax, hc⟩
  · have HE : Hid (TBuilt2 w (moL k z []) (([] : List (Int × Bool)).all (tmo k z)) (.returned (.tuple #[.slice (some ⟨w.heap.size, 0, none⟩) 0 0, .bool true])) (w.alloc (.cells #[] 41))) := HS.out.built
    clear h hx
    go_enter Tryd.func87, Tryd.ntmps87
    go_wp2
    go_rounds 1
    go_ret2
    exact HE.out
  have HC := Lib.hid hc
  have HV := Lib.hid hx
  have HY : Hid (xs.all (tmo k z) = true → ∀ wr v, MdInv w wr v (xs.map (tmv k z)) → TBuilt2 w (moL k z xs) (xs.all (tmo k z)) (.returned (.tuple #[v, .bool true])) wr) := by
    intro ha wr v hI
    rw [moL_yes ha, ha]
    exact hI.built
  have HN : Hid (xs.all (tmo k z) = false → ∀ w1, Below w.heap.size w w1 → TBuilt2 w (moL k z xs) (xs.all (tmo k z)) (.returned (.tuple #[.slice (some ⟨w1.heap.size, 0, none⟩) 0 0, .bool false])) (w1.alloc (.cells #[] 41))) := by
    intro ha w1 hb
    rw [moL_no ha, ha]
    exact empty_built2 hb
  clear h hc hx hmax
  go_enter Tryd.func87, Tryd.ntmps87
  go_wp2
  go_loopw [8, 9] (fun v i wr => ∃ j : Nat, j ≤ xs.length ∧ i = .int .i64 j ∧ (xs.take j).all (tmo k z) = true ∧ MdInv w wr v ((xs.take j).map (tmv k z))) (fun _ i _ => xs.length - (intOf i).toNat)
  case atStart => exact ⟨0, Nat.zero_le _, rfl, rfl, HS.out⟩
  case round =>
    obtain ⟨j, hj, rfl, ha, hI⟩ := hrel
    clear HS
    by_cases hlt : j < xs.length
    · have ht : xs[j]? = some xs[j] := List.getElem?_eq_getElem hlt
      have hvt := List.all_eq_true.1 HV.out _ (List.mem_of_getElem? ht)
      obtain ⟨a1, a2⟩ := HC.out j _ ht
      have HAA := Lib.hid (fun hh => take_all ht ha hh)
      have HMM := Lib.hid (take_map (f := tmv k z) ht)
      have HMI := Lib.hid (fun hh => all_miss (f := tmo k z) ht hh)
      have hln : ((xs.take j).map (tmv k z)).length ≤ 24 := by rw [List.length_map, List.length_take]; omega
      have hj0 : (0 : Int) ≤ (j : Int) := by omega
      have hj1 : (j : Int) < (xs.length : Int) := by omega
      have HI := Lib.hid hI
      clear ht ha hI
      generalize xs[j] = t at hvt a1 a2 HAA HMM HMI
      generalize (xs.take j).map (tmv k z) = ys at HMM hln HI
      obtain ⟨s, b⟩ := t
      have hvt : vd s b = true := hvt
      obtain ⟨v0, v1⟩ := vd_in hvt
      obtain ⟨g0, g1⟩ := hgt_bd (b := b) v0 v1
      have hab : ∀ c, abv s b k c = vd (s + k) c := fun c => abv_in hvt hk0 hk1
      have HAB := Lib.hid hab
      have sk : IntKind.i64.wrap (s + k) = s + k := IntWalk.i64_in _ (by omega)
      clear hab hvt
      go_wp2
      go_loopw [8, 10, 11] (fun v f c wr' => ∃ (ci : Int) (fd : Bool), c = .int .i64 ci ∧ f = .bool fd ∧ MiInv w wr' v ys k z (s, b) ci fd) (fun _ _ c _ => 2 - (intOf c).toNat)
      case atStart => exact ⟨0, false, rfl, rfl, .inl ⟨rfl, rfl, HI.out⟩⟩
      case round =>
        obtain ⟨ci, fd, rfl, rfl, hm⟩ := hrel
        rcases hm with ⟨rfl, rfl, hM⟩ | ⟨rfl, rfl, hm0, hM⟩ | ⟨rfl, rfl, hm0, hm1, hM⟩ | ⟨hcc, rfl, hto, hM⟩
        · by_cases hA : vd (s + k) false = false
          · have HA := Lib.hid hA
            have HM := Lib.hid hM
            have e1 := (hM.2.cell (p := ⟨g, j * 2, none⟩) hgs).trans a1
            have e2 := (hM.2.cell (p := ⟨g, j * 2 + 1, none⟩) hgs).trans a2
            have hgs1 : g < wr.heap.size := Nat.lt_of_lt_of_le hgs hM.2.size
            clear hM a1 a2
            go_wp2
            obtain ⟨W, hW⟩ : ∃ W, W = wr.alloc (.cells #[.int .i64 (s + k), .bool false] 41) := ⟨_, rfl⟩
            have f0 : W.cell? ⟨wr.heap.size, 0, none⟩ = some (.int .i64 (s + k)) := by rw [hW]; go_simp
            have f1 : W.cell? ⟨wr.heap.size, 1, none⟩ = some (.bool false) := by rw [hW]; go_simp
            have f2 : W.cell? ⟨g, j * 2, none⟩ = some (.int .i64 s) := by rw [hW, World.cell?_alloc_lt _ _ _ hgs1]; exact e1
            have f3 : W.cell? ⟨g, j * 2 + 1, none⟩ = some (.bool b) := by rw [hW, World.cell?_alloc_lt _ _ _ hgs1]; exact e2
            have HMW : Hid (MdInv w W u8 ys) := by rw [hW]; exact HM.out.below ((Below.refl _ _).alloc (Nat.le_refl _) _)
            have fz : wr.heap.size < W.heap.size := two_lt f0
            have fg : g < W.heap.size := World.block_lt_of_cell? W _ f2
            rw [← hW]
            clear hW e1 e2
            refine wp_region_held_drew (S := fun _ => True) (by kernel_rfl) trivial (fun hHeld => ?_)
            refine wpAnyH_ready (rs := [0]) (by kernel_rfl) (by simp) ?_
            refine AllReadyH.cons rfl (fun K hK => ?_) AllReadyH.nil
            go_simp
            refine hK.out _ _ trivial (fun hHeld => ?_)
            clear hK K
            try simp only [Act.put, List.getElem_toArray, List.getElem_cons_succ, List.getElem_cons_zero, List.setIfInBounds_toArray, List.set_cons_zero, List.set_cons_succ]
            refine wpAnyH_ready (rs := [1]) (by kernel_rfl) (by simp) ?_
            refine AllReadyH.cons rfl (fun K hK => ?_) AllReadyH.nil
            go_simp
            (go_at_call 84; refine (sToneValid_any _ _ _).mono ?_; rintro e w3 ⟨rfl, hb3⟩)
            have HM3 := Lib.hid (MdInv.below HMW.out.drew hb3)
            refine hK.out _ _ trivial (fun hHeld => ?_)
            clear hK K
            try simp only [Act.put, List.getElem_toArray, List.getElem_cons_succ, List.getElem_cons_zero, List.setIfInBounds_toArray, List.set_cons_zero, List.set_cons_succ]
            refine wpAnyH_take (i := 2) (v := .bool false) rfl (by kernel_rfl) (by kernel_rfl) (by kernel_rfl) (fun _ _ _ h => h) (Or.inl ⟨by kernel_rfl, fun w _ => ?y2⟩) trivial ?_
            case y2 => go_simp
            try simp only [Act.put, List.getElem_toArray, List.getElem_cons_succ, List.getElem_cons_zero, List.setIfInBounds_toArray, List.set_cons_zero, List.set_cons_succ]
            refine wpAnyH_take (i := 3) (v := undef) rfl (by kernel_rfl) (by kernel_rfl) (by kernel_rfl) (fun _ _ _ h => h) (Or.inr ⟨by kernel_rfl, rfl⟩) trivial ?_
            try simp only [Act.put, List.getElem_toArray, List.getElem_cons_succ, List.getElem_cons_zero, List.setIfInBounds_toArray, List.set_cons_zero, List.set_cons_succ]
            refine wpAnyH_take (i := 4) (v := undef) rfl (by kernel_rfl) (by kernel_rfl) (by kernel_rfl) (fun _ _ _ h => h) (Or.inr ⟨by kernel_rfl, rfl⟩) trivial ?_
            try simp only [Act.put, List.getElem_toArray, List.getElem_cons_succ, List.getElem_cons_zero, List.setIfInBounds_toArray, List.set_cons_zero, List.set_cons_succ]
            refine wpAnyH_take (i := 5) (v := undef) rfl (by kernel_rfl) (by kernel_rfl) (by kernel_rfl) (fun _ _ _ h => h) (Or.inr ⟨by kernel_rfl, rfl⟩) trivial ?_
            try simp only [Act.put, List.getElem_toArray, List.getElem_cons_succ, List.getElem_cons_zero, List.setIfInBounds_toArray, List.set_cons_zero, List.set_cons_succ]
            refine wpAnyH_take (i := 6) (v := undef) rfl (by kernel_rfl) (by kernel_rfl) (by kernel_rfl) (fun _ _ _ h => h) (Or.inr ⟨by kernel_rfl, rfl⟩) trivial ?_
            try simp only [Act.put, List.getElem_toArray, List.getElem_cons_succ, List.getElem_cons_zero, List.setIfInBounds_toArray, List.set_cons_zero, List.set_cons_succ]
            refine wpAnyH_take (i := 7) (v := undef) rfl (by kernel_rfl) (by kernel_rfl) (by kernel_rfl) (fun _ _ _ h => h) (Or.inr ⟨by kernel_rfl, rfl⟩) trivial ?_
            try simp only [Act.put, List.getElem_toArray, List.getElem_cons_succ, List.getElem_cons_zero, List.setIfInBounds_toArray, List.set_cons_zero, List.set_cons_succ]
            refine wpAnyH_take (i := 8) (v := undef) rfl (by kernel_rfl) (by kernel_rfl) (by kernel_rfl) (fun _ _ _ h => h) (Or.inr ⟨by kernel_rfl, rfl⟩) trivial ?_
            try simp only [Act.put, List.getElem_toArray, List.getElem_cons_succ, List.getElem_cons_zero, List.setIfInBounds_toArray, List.set_cons_zero, List.set_cons_succ]
            refine wpAnyH_take (i := 9) (v := undef) rfl (by kernel_rfl) (by kernel_rfl) (by kernel_rfl) (fun _ _ _ h => h) (Or.inr ⟨by kernel_rfl, rfl⟩) trivial ?_
            try simp only [Act.put, List.getElem_toArray, List.getElem_cons_succ, List.getElem_cons_zero, List.setIfInBounds_toArray, List.set_cons_zero, List.set_cons_succ]
            refine wpAnyH_take (i := 10) (v := undef) rfl (by kernel_rfl) (by kernel_rfl) (by kernel_rfl) (fun _ _ _ h => h) (Or.inr ⟨by kernel_rfl, rfl⟩) trivial ?_
            try simp only [Act.put, List.getElem_toArray, List.getElem_cons_succ, List.getElem_cons_zero, List.setIfInBounds_toArray, List.set_cons_zero, List.set_cons_succ]
            refine wpAnyH_take (i := 11) (v := undef) rfl (by kernel_rfl) (by kernel_rfl) (by kernel_rfl) (fun _ _ _ h => h) (Or.inr ⟨by kernel_rfl, rfl⟩) trivial ?_
            try simp only [Act.put, List.getElem_toArray, List.getElem_cons_succ, List.getElem_cons_zero, List.setIfInBounds_toArray, List.set_cons_zero, List.set_cons_succ]
            refine wpAnyH_take (i := 12) (v := undef) rfl (by kernel_rfl) (by kernel_rfl) (by kernel_rfl) (fun _ _ _ h => h) (Or.inr ⟨by kernel_rfl, rfl⟩) trivial ?_
            try simp only [Act.put, List.getElem_toArray, List.getElem_cons_succ, List.getElem_cons_zero, List.setIfInBounds_toArray, List.set_cons_zero, List.set_cons_succ]
            refine wpAnyH_take (i := 13) (v := .bool false) rfl (by kernel_rfl) (by kernel_rfl) (by kernel_rfl) (fun _ _ _ h => h) (Or.inl ⟨by kernel_rfl, fun w _ => ?y13⟩) trivial ?_
            case y13 => go_simp
            try simp only [Act.put, List.getElem_toArray, List.getElem_cons_succ, List.getElem_cons_zero, List.setIfInBounds_toArray, List.set_cons_zero, List.set_cons_succ]
            refine wpAnyH_done (by kernel_rfl) ?_ _
            clear f0 f1 f2 f3 hHeld
            go_wp2
            go_roundw
            case rel => exact ⟨1, false, rfl, rfl, .inr (.inl ⟨rfl, rfl, cnd_no1 (t := (s, b)) ((HAB.out false).trans HA.out), HM3.out⟩)⟩
            case measure => simp [intOf]
          rw [Bool.not_eq_false] at hA
          obtain ⟨u0, u1⟩ := vd_in hA
          obtain ⟨g2, g3⟩ := hgt_bd (b := false) u0 u1
          have sw : IntKind.i64.wrap (hgt (s + k) false - hgt s b) = hgt (s + k) false - hgt s b := IntWalk.i64_in _ (by omega)
          by_cases hG : (hgt (s + k) false - hgt s b == z) = true
          · have HH := Lib.hid (tmo_hit0 (cnd_yes (t := (s, b)) ((HAB.out false).trans hA) hG))
            have HM := Lib.hid hM
            have e1 := (hM.2.cell (p := ⟨g, j * 2, none⟩) hgs).trans a1
            have e2 := (hM.2.cell (p := ⟨g, j * 2 + 1, none⟩) hgs).trans a2
            have hgs1 : g < wr.heap.size := Nat.lt_of_lt_of_le hgs hM.2.size
            clear hM a1 a2
            go_wp2
            obtain ⟨W, hW⟩ : ∃ W, W = wr.alloc (.cells #[.int .i64 (s + k), .bool false] 41) := ⟨_, rfl⟩
            have f0 : W.cell? ⟨wr.heap.size, 0, none⟩ = some (.int .i64 (s + k)) := by rw [hW]; go_simp
            have f1 : W.cell? ⟨wr.heap.size, 1, none⟩ = some (.bool false) := by rw [hW]; go_simp
            have f2 : W.cell? ⟨g, j * 2, none⟩ = some (.int .i64 s) := by rw [hW, World.cell?_alloc_lt _ _ _ hgs1]; exact e1
            have f3 : W.cell? ⟨g, j * 2 + 1, none⟩ = some (.bool b) := by rw [hW, World.cell?_alloc_lt _ _ _ hgs1]; exact e2
            have HMW : Hid (MdInv w W u8 ys) := by rw [hW]; exact HM.out.below ((Below.refl _ _).alloc (Nat.le_refl _) _)
            have fz : wr.heap.size < W.heap.size := two_lt f0
            have fg : g < W.heap.size := World.block_lt_of_cell? W _ f2
            rw [← hW]
            clear hW e1 e2
            go_region_held3 (fun wx => wx.cell? ⟨wr.heap.size, 0, none⟩ = some (.int .i64 (s + k)) ∧ wx.cell? ⟨wr.heap.size, 1, none⟩ = some (.bool false) ∧ wx.cell? ⟨g, j * 2, none⟩ = some (.int .i64 s) ∧ wx.cell? ⟨g, j * 2 + 1, none⟩ = some (.bool b)) (go_keep)
              (first | (go_at_call 84; refine (sToneValid_any _ _ _).mono ?_; rintro e w3 ⟨rfl, hb3⟩; have c3a := (hb3.cell (p := ⟨wr.heap.size, 0, none⟩) fz).trans f0; have c3b := (hb3.cell (p := ⟨wr.heap.size, 1, none⟩) fz).trans f1; have c3c := (hb3.cell (p := ⟨g, j * 2, none⟩) fg).trans f2; have c3d := (hb3.cell (p := ⟨g, j * 2 + 1, none⟩) fg).trans f3; have fz3 := Nat.lt_of_lt_of_le fz hb3.size; have fg3 := Nat.lt_of_lt_of_le fg hb3.size; have HM3 := Lib.hid (MdInv.below HMW.out.drew hb3)) | (go_at_call_of 88 (Value.agg #[Value.int .i64 (s + k), Value.bool false]); refine (l1Height_any _ _ u0 u1 _).mono ?_; rintro e w4 ⟨rfl, hb4⟩; have c4a := (hb4.cell (p := ⟨wr.heap.size, 0, none⟩) fz3).trans c3a; have c4b := (hb4.cell (p := ⟨wr.heap.size, 1, none⟩) fz3).trans c3b; have c4c := (hb4.cell (p := ⟨g, j * 2, none⟩) fg3).trans c3c; have c4d := (hb4.cell (p := ⟨g, j * 2 + 1, none⟩) fg3).trans c3d; have fz4 := Nat.lt_of_lt_of_le fz3 hb4.size; have fg4 := Nat.lt_of_lt_of_le fg3 hb4.size; have HM4 := Lib.hid (HM3.out.below hb4)) | (go_at_call 88; refine (l1Height_any _ _ v0 v1 _).mono ?_; rintro e w5 ⟨rfl, hb5⟩; have c5a := (hb5.cell (p := ⟨wr.heap.size, 0, none⟩) fz4).trans c4a; have c5b := (hb5.cell (p := ⟨wr.heap.size, 1, none⟩) fz4).trans c4b; have c5c := (hb5.cell (p := ⟨g, j * 2, none⟩) fg4).trans c4c; have c5d := (hb5.cell (p := ⟨g, j * 2 + 1, none⟩) fg4).trans c4d; have fz5 := Nat.lt_of_lt_of_le fz4 hb5.size; have fg5 := Nat.lt_of_lt_of_le fg4 hb5.size; have HM5 := Lib.hid (HM4.out.below hb5)))
            have hown := HM5.out.1
            have hsz := HM5.out.2.size
            go_wp2_with (at_builtin; refine wpList_append_own _ rfl _ _ 52 rfl w.heap.size 41 i0 (.agg #[.int .i64 0, .bool false]) 2 16 Tryd.underlying52 hi hq0 hq1 hq2 rfl (by decide) _ _ _ rfl (hown.alloc _) ⟨w5.heap.size, 0, none⟩ 1 1 [.int .i64 (s + k), .bool false] rfl rfl news2 news2_one (by unfold maxLen; omega) (by omega) (by simp; omega) ?_)
            intro v' w6 hown' hgrow _
            have HN6 : Hid (MdInv w w6 v' (ys ++ [tmv k z (s, b)])) := by
              rw [tmv_hit HH.out.2 HH.out.1]
              exact HM5.out.app (t := (s + k, false)) hown' hgrow
            clear hown hown' hgrow f0 f1 f2 f3 c3a c3b c3c c3d c4a c4b c4c c4d c5a c5b c5c c5d
            go_wp2
            go_roundw
            case rel => exact ⟨1, true, rfl, rfl, .inr (.inr (.inr ⟨.inl rfl, rfl, HH.out.1, HN6.out⟩))⟩
            case measure => simp [intOf]
          · rw [Bool.not_eq_true] at hG
            have HG := Lib.hid hG
            have HM := Lib.hid hM
            have e1 := (hM.2.cell (p := ⟨g, j * 2, none⟩) hgs).trans a1
            have e2 := (hM.2.cell (p := ⟨g, j * 2 + 1, none⟩) hgs).trans a2
            have hgs1 : g < wr.heap.size := Nat.lt_of_lt_of_le hgs hM.2.size
            clear hM a1 a2
            go_wp2
            obtain ⟨W, hW⟩ : ∃ W, W = wr.alloc (.cells #[.int .i64 (s + k), .bool false] 41) := ⟨_, rfl⟩
            have f0 : W.cell? ⟨wr.heap.size, 0, none⟩ = some (.int .i64 (s + k)) := by rw [hW]; go_simp
            have f1 : W.cell? ⟨wr.heap.size, 1, none⟩ = some (.bool false) := by rw [hW]; go_simp
            have f2 : W.cell? ⟨g, j * 2, none⟩ = some (.int .i64 s) := by rw [hW, World.cell?_alloc_lt _ _ _ hgs1]; exact e1
            have f3 : W.cell? ⟨g, j * 2 + 1, none⟩ = some (.bool b) := by rw [hW, World.cell?_alloc_lt _ _ _ hgs1]; exact e2
            have HMW : Hid (MdInv w W u8 ys) := by rw [hW]; exact HM.out.below ((Below.refl _ _).alloc (Nat.le_refl _) _)
            have fz : wr.heap.size < W.heap.size := two_lt f0
            have fg : g < W.heap.size := World.block_lt_of_cell? W _ f2
            rw [← hW]
            clear hW e1 e2
            go_region_held3 (fun wx => wx.cell? ⟨wr.heap.size, 0, none⟩ = some (.int .i64 (s + k)) ∧ wx.cell? ⟨wr.heap.size, 1, none⟩ = some (.bool false) ∧ wx.cell? ⟨g, j * 2, none⟩ = some (.int .i64 s) ∧ wx.cell? ⟨g, j * 2 + 1, none⟩ = some (.bool b)) (go_keep)
              (first | (go_at_call 84; refine (sToneValid_any _ _ _).mono ?_; rintro e w3 ⟨rfl, hb3⟩; have c3a := (hb3.cell (p := ⟨wr.heap.size, 0, none⟩) fz).trans f0; have c3b := (hb3.cell (p := ⟨wr.heap.size, 1, none⟩) fz).trans f1; have c3c := (hb3.cell (p := ⟨g, j * 2, none⟩) fg).trans f2; have c3d := (hb3.cell (p := ⟨g, j * 2 + 1, none⟩) fg).trans f3; have fz3 := Nat.lt_of_lt_of_le fz hb3.size; have fg3 := Nat.lt_of_lt_of_le fg hb3.size; have HM3 := Lib.hid (MdInv.below HMW.out.drew hb3)) | (go_at_call_of 88 (Value.agg #[Value.int .i64 (s + k), Value.bool false]); refine (l1Height_any _ _ u0 u1 _).mono ?_; rintro e w4 ⟨rfl, hb4⟩; have c4a := (hb4.cell (p := ⟨wr.heap.size, 0, none⟩) fz3).trans c3a; have c4b := (hb4.cell (p := ⟨wr.heap.size, 1, none⟩) fz3).trans c3b; have c4c := (hb4.cell (p := ⟨g, j * 2, none⟩) fg3).trans c3c; have c4d := (hb4.cell (p := ⟨g, j * 2 + 1, none⟩) fg3).trans c3d; have fz4 := Nat.lt_of_lt_of_le fz3 hb4.size; have fg4 := Nat.lt_of_lt_of_le fg3 hb4.size; have HM4 := Lib.hid (HM3.out.below hb4)) | (go_at_call 88; refine (l1Height_any _ _ v0 v1 _).mono ?_; rintro e w5 ⟨rfl, hb5⟩; have c5a := (hb5.cell (p := ⟨wr.heap.size, 0, none⟩) fz4).trans c4a; have c5b := (hb5.cell (p := ⟨wr.heap.size, 1, none⟩) fz4).trans c4b; have c5c := (hb5.cell (p := ⟨g, j * 2, none⟩) fg4).trans c4c; have c5d := (hb5.cell (p := ⟨g, j * 2 + 1, none⟩) fg4).trans c4d; have fz5 := Nat.lt_of_lt_of_le fz4 hb5.size; have fg5 := Nat.lt_of_lt_of_le fg4 hb5.size; have HM5 := Lib.hid (HM4.out.below hb5)))
            clear f0 f1 f2 f3 c3a c3b c3c c3d c4a c4b c4c c4d c5a c5b c5c c5d
            go_wp2
            go_roundw
            case rel => exact ⟨1, false, rfl, rfl, .inr (.inl ⟨rfl, rfl, cnd_no2 (t := (s, b)) HG.out, HM5.out⟩)⟩
            case measure => simp [intOf]
        · have HM0 := Lib.hid hm0
          clear hm0
          by_cases hA : vd (s + k) true = false
          · have HA := Lib.hid hA
            have HM := Lib.hid hM
            have e1 := (hM.2.cell (p := ⟨g, j * 2, none⟩) hgs).trans a1
            have e2 := (hM.2.cell (p := ⟨g, j * 2 + 1, none⟩) hgs).trans a2
            have hgs1 : g < wr.heap.size := Nat.lt_of_lt_of_le hgs hM.2.size
            clear hM a1 a2
            go_wp2
            obtain ⟨W, hW⟩ : ∃ W, W = wr.alloc (.cells #[.int .i64 (s + k), .bool true] 41) := ⟨_, rfl⟩
            have f0 : W.cell? ⟨wr.heap.size, 0, none⟩ = some (.int .i64 (s + k)) := by rw [hW]; go_simp
            have f1 : W.cell? ⟨wr.heap.size, 1, none⟩ = some (.bool true) := by rw [hW]; go_simp
            have f2 : W.cell? ⟨g, j * 2, none⟩ = some (.int .i64 s) := by rw [hW, World.cell?_alloc_lt _ _ _ hgs1]; exact e1
            have f3 : W.cell? ⟨g, j * 2 + 1, none⟩ = some (.bool b) := by rw [hW, World.cell?_alloc_lt _ _ _ hgs1]; exact e2
            have HMW : Hid (MdInv w W u8 ys) := by rw [hW]; exact HM.out.below ((Below.refl _ _).alloc (Nat.le_refl _) _)
            have fz : wr.heap.size < W.heap.size := two_lt f0
            have fg : g < W.heap.size := World.block_lt_of_cell? W _ f2
            rw [← hW]
            clear hW e1 e2
            refine wp_region_held_drew (S := fun _ => True) (by kernel_rfl) trivial (fun hHeld => ?_)
            refine wpAnyH_ready (rs := [0]) (by kernel_rfl) (by simp) ?_
            refine AllReadyH.cons rfl (fun K hK => ?_) AllReadyH.nil
            go_simp
            refine hK.out _ _ trivial (fun hHeld => ?_)
            clear hK K
            try simp only [Act.put, List.getElem_toArray, List.getElem_cons_succ, List.getElem_cons_zero, List.setIfInBounds_toArray, List.set_cons_zero, List.set_cons_succ]
            refine wpAnyH_ready (rs := [1]) (by kernel_rfl) (by simp) ?_
            refine AllReadyH.cons rfl (fun K hK => ?_) AllReadyH.nil
            go_simp
            (go_at_call 84; refine (sToneValid_any _ _ _).mono ?_; rintro e w3 ⟨rfl, hb3⟩)
            have HM3 := Lib.hid (MdInv.below HMW.out.drew hb3)
            refine hK.out _ _ trivial (fun hHeld => ?_)
            clear hK K
            try simp only [Act.put, List.getElem_toArray, List.getElem_cons_succ, List.getElem_cons_zero, List.setIfInBounds_toArray, List.set_cons_zero, List.set_cons_succ]
            refine wpAnyH_take (i := 2) (v := .bool false) rfl (by kernel_rfl) (by kernel_rfl) (by kernel_rfl) (fun _ _ _ h => h) (Or.inl ⟨by kernel_rfl, fun w _ => ?y2⟩) trivial ?_
            case y2 => go_simp
            try simp only [Act.put, List.getElem_toArray, List.getElem_cons_succ, List.getElem_cons_zero, List.setIfInBounds_toArray, List.set_cons_zero, List.set_cons_succ]
            refine wpAnyH_take (i := 3) (v := undef) rfl (by kernel_rfl) (by kernel_rfl) (by kernel_rfl) (fun _ _ _ h => h) (Or.inr ⟨by kernel_rfl, rfl⟩) trivial ?_
            try simp only [Act.put, List.getElem_toArray, List.getElem_cons_succ, List.getElem_cons_zero, List.setIfInBounds_toArray, List.set_cons_zero, List.set_cons_succ]
            refine wpAnyH_take (i := 4) (v := undef) rfl (by kernel_rfl) (by kernel_rfl) (by kernel_rfl) (fun _ _ _ h => h) (Or.inr ⟨by kernel_rfl, rfl⟩) trivial ?_
            try simp only [Act.put, List.getElem_toArray, List.getElem_cons_succ, List.getElem_cons_zero, List.setIfInBounds_toArray, List.set_cons_zero, List.set_cons_succ]
            refine wpAnyH_take (i := 5) (v := undef) rfl (by kernel_rfl) (by kernel_rfl) (by kernel_rfl) (fun _ _ _ h => h) (Or.inr ⟨by kernel_rfl, rfl⟩) trivial ?_
            try simp only [Act.put, List.getElem_toArray, List.getElem_cons_succ, List.getElem_cons_zero, List.setIfInBounds_toArray, List.set_cons_zero, List.set_cons_succ]
            refine wpAnyH_take (i := 6) (v := undef) rfl (by kernel_rfl) (by kernel_rfl) (by kernel_rfl) (fun _ _ _ h => h) (Or.inr ⟨by kernel_rfl, rfl⟩) trivial ?_
            try simp only [Act.put, List.getElem_toArray, List.getElem_cons_succ, List.getElem_cons_zero, List.setIfInBounds_toArray, List.set_cons_zero, List.set_cons_succ]
            refine wpAnyH_take (i := 7) (v := undef) rfl (by kernel_rfl) (by kernel_rfl) (by kernel_rfl) (fun _ _ _ h => h) (Or.inr ⟨by kernel_rfl, rfl⟩) trivial ?_
            try simp only [Act.put, List.getElem_toArray, List.getElem_cons_succ, List.getElem_cons_zero, List.setIfInBounds_toArray, List.set_cons_zero, List.set_cons_succ]
            refine wpAnyH_take (i := 8) (v := undef) rfl (by kernel_rfl) (by kernel_rfl) (by kernel_rfl) (fun _ _ _ h => h) (Or.inr ⟨by kernel_rfl, rfl⟩) trivial ?_
            try simp only [Act.put, List.getElem_toArray, List.getElem_cons_succ, List.getElem_cons_zero, List.setIfInBounds_toArray, List.set_cons_zero, List.set_cons_succ]
            refine wpAnyH_take (i := 9) (v := undef) rfl (by kernel_rfl) (by kernel_rfl) (by kernel_rfl) (fun _ _ _ h => h) (Or.inr ⟨by kernel_rfl, rfl⟩) trivial ?_
            try simp only [Act.put, List.getElem_toArray, List.getElem_cons_succ, List.getElem_cons_zero, List.setIfInBounds_toArray, List.set_cons_zero, List.set_cons_succ]
            refine wpAnyH_take (i := 10) (v := undef) rfl (by kernel_rfl) (by kernel_rfl) (by kernel_rfl) (fun _ _ _ h => h) (Or.inr ⟨by kernel_rfl, rfl⟩) trivial ?_
            try simp only [Act.put, List.getElem_toArray, List.getElem_cons_succ, List.getElem_cons_zero, List.setIfInBounds_toArray, List.set_cons_zero, List.set_cons_succ]
            refine wpAnyH_take (i := 11) (v := undef) rfl (by kernel_rfl) (by kernel_rfl) (by kernel_rfl) (fun _ _ _ h => h) (Or.inr ⟨by kernel_rfl, rfl⟩) trivial ?_
            try simp only [Act.put, List.getElem_toArray, List.getElem_cons_succ, List.getElem_cons_zero, List.setIfInBounds_toArray, List.set_cons_zero, List.set_cons_succ]
            refine wpAnyH_take (i := 12) (v := undef) rfl (by kernel_rfl) (by kernel_rfl) (by kernel_rfl) (fun _ _ _ h => h) (Or.inr ⟨by kernel_rfl, rfl⟩) trivial ?_
            try simp only [Act.put, List.getElem_toArray, List.getElem_cons_succ, List.getElem_cons_zero, List.setIfInBounds_toArray, List.set_cons_zero, List.set_cons_succ]
            refine wpAnyH_take (i := 13) (v := .bool false) rfl (by kernel_rfl) (by kernel_rfl) (by kernel_rfl) (fun _ _ _ h => h) (Or.inl ⟨by kernel_rfl, fun w _ => ?y13⟩) trivial ?_
            case y13 => go_simp
            try simp only [Act.put, List.getElem_toArray, List.getElem_cons_succ, List.getElem_cons_zero, List.setIfInBounds_toArray, List.set_cons_zero, List.set_cons_succ]
            refine wpAnyH_done (by kernel_rfl) ?_ _
            clear f0 f1 f2 f3 hHeld
            go_wp2
            go_roundw
            case rel => exact ⟨2, false, rfl, rfl, .inr (.inr (.inl ⟨rfl, rfl, HM0.out, cnd_no1 (t := (s, b)) ((HAB.out true).trans HA.out), HM3.out⟩))⟩
            case measure => simp [intOf]
          rw [Bool.not_eq_false] at hA
          obtain ⟨u0, u1⟩ := vd_in hA
          obtain ⟨g2, g3⟩ := hgt_bd (b := true) u0 u1
          have sw : IntKind.i64.wrap (hgt (s + k) true - hgt s b) = hgt (s + k) true - hgt s b := IntWalk.i64_in _ (by omega)
          by_cases hG : (hgt (s + k) true - hgt s b == z) = true
          · have HH := Lib.hid (tmo_hit1 HM0.out (cnd_yes (t := (s, b)) ((HAB.out true).trans hA) hG))
            have HM := Lib.hid hM
            have e1 := (hM.2.cell (p := ⟨g, j * 2, none⟩) hgs).trans a1
            have e2 := (hM.2.cell (p := ⟨g, j * 2 + 1, none⟩) hgs).trans a2
            have hgs1 : g < wr.heap.size := Nat.lt_of_lt_of_le hgs hM.2.size
            clear hM a1 a2
            go_wp2
            obtain ⟨W, hW⟩ : ∃ W, W = wr.alloc (.cells #[.int .i64 (s + k), .bool true] 41) := ⟨_, rfl⟩
            have f0 : W.cell? ⟨wr.heap.size, 0, none⟩ = some (.int .i64 (s + k)) := by rw [hW]; go_simp
            have f1 : W.cell? ⟨wr.heap.size, 1, none⟩ = some (.bool true) := by rw [hW]; go_simp
            have f2 : W.cell? ⟨g, j * 2, none⟩ = some (.int .i64 s) := by rw [hW, World.cell?_alloc_lt _ _ _ hgs1]; exact e1
            have f3 : W.cell? ⟨g, j * 2 + 1, none⟩ = some (.bool b) := by rw [hW, World.cell?_alloc_lt _ _ _ hgs1]; exact e2
            have HMW : Hid (MdInv w W u8 ys) := by rw [hW]; exact HM.out.below ((Below.refl _ _).alloc (Nat.le_refl _) _)
            have fz : wr.heap.size < W.heap.size := two_lt f0
            have fg : g < W.heap.size := World.block_lt_of_cell? W _ f2
            rw [← hW]
            clear hW e1 e2
            go_region_held3 (fun wx => wx.cell? ⟨wr.heap.size, 0, none⟩ = some (.int .i64 (s + k)) ∧ wx.cell? ⟨wr.heap.size, 1, none⟩ = some (.bool true) ∧ wx.cell? ⟨g, j * 2, none⟩ = some (.int .i64 s) ∧ wx.cell? ⟨g, j * 2 + 1, none⟩ = some (.bool b)) (go_keep)
              (first | (go_at_call 84; refine (sToneValid_any _ _ _).mono ?_; rintro e w3 ⟨rfl, hb3⟩; have c3a := (hb3.cell (p := ⟨wr.heap.size, 0, none⟩) fz).trans f0; have c3b := (hb3.cell (p := ⟨wr.heap.size, 1, none⟩) fz).trans f1; have c3c := (hb3.cell (p := ⟨g, j * 2, none⟩) fg).trans f2; have c3d := (hb3.cell (p := ⟨g, j * 2 + 1, none⟩) fg).trans f3; have fz3 := Nat.lt_of_lt_of_le fz hb3.size; have fg3 := Nat.lt_of_lt_of_le fg hb3.size; have HM3 := Lib.hid (MdInv.below HMW.out.drew hb3)) | (go_at_call_of 88 (Value.agg #[Value.int .i64 (s + k), Value.bool true]); refine (l1Height_any _ _ u0 u1 _).mono ?_; rintro e w4 ⟨rfl, hb4⟩; have c4a := (hb4.cell (p := ⟨wr.heap.size, 0, none⟩) fz3).trans c3a; have c4b := (hb4.cell (p := ⟨wr.heap.size, 1, none⟩) fz3).trans c3b; have c4c := (hb4.cell (p := ⟨g, j * 2, none⟩) fg3).trans c3c; have c4d := (hb4.cell (p := ⟨g, j * 2 + 1, none⟩) fg3).trans c3d; have fz4 := Nat.lt_of_lt_of_le fz3 hb4.size; have fg4 := Nat.lt_of_lt_of_le fg3 hb4.size; have HM4 := Lib.hid (HM3.out.below hb4)) | (go_at_call 88; refine (l1Height_any _ _ v0 v1 _).mono ?_; rintro e w5 ⟨rfl, hb5⟩; have c5a := (hb5.cell (p := ⟨wr.heap.size, 0, none⟩) fz4).trans c4a; have c5b := (hb5.cell (p := ⟨wr.heap.size, 1, none⟩) fz4).trans c4b; have c5c := (hb5.cell (p := ⟨g, j * 2, none⟩) fg4).trans c4c; have c5d := (hb5.cell (p := ⟨g, j * 2 + 1, none⟩) fg4).trans c4d; have fz5 := Nat.lt_of_lt_of_le fz4 hb5.size; have fg5 := Nat.lt_of_lt_of_le fg4 hb5.size; have HM5 := Lib.hid (HM4.out.below hb5)))
            have hown := HM5.out.1
            have hsz := HM5.out.2.size
            go_wp2_with (at_builtin; refine wpList_append_own _ rfl _ _ 52 rfl w.heap.size 41 i0 (.agg #[.int .i64 0, .bool false]) 2 16 Tryd.underlying52 hi hq0 hq1 hq2 rfl (by decide) _ _ _ rfl (hown.alloc _) ⟨w5.heap.size, 0, none⟩ 1 1 [.int .i64 (s + k), .bool true] rfl rfl news2 news2_one (by unfold maxLen; omega) (by omega) (by simp; omega) ?_)
            intro v' w6 hown' hgrow _
            have HN6 : Hid (MdInv w w6 v' (ys ++ [tmv k z (s, b)])) := by
              rw [tmv_hit HH.out.2 HH.out.1]
              exact HM5.out.app (t := (s + k, true)) hown' hgrow
            clear hown hown' hgrow f0 f1 f2 f3 c3a c3b c3c c3d c4a c4b c4c c4d c5a c5b c5c c5d
            go_wp2
            go_roundw
            case rel => exact ⟨2, true, rfl, rfl, .inr (.inr (.inr ⟨.inr rfl, rfl, HH.out.1, HN6.out⟩))⟩
            case measure => simp [intOf]
          · rw [Bool.not_eq_true] at hG
            have HG := Lib.hid hG
            have HM := Lib.hid hM
            have e1 := (hM.2.cell (p := ⟨g, j * 2, none⟩) hgs).trans a1
            have e2 := (hM.2.cell (p := ⟨g, j * 2 + 1, none⟩) hgs).trans a2
            have hgs1 : g < wr.heap.size := Nat.lt_of_lt_of_le hgs hM.2.size
            clear hM a1 a2
            go_wp2
            obtain ⟨W, hW⟩ : ∃ W, W = wr.alloc (.cells #[.int .i64 (s + k), .bool true] 41) := ⟨_, rfl⟩
            have f0 : W.cell? ⟨wr.heap.size, 0, none⟩ = some (.int .i64 (s + k)) := by rw [hW]; go_simp
            have f1 : W.cell? ⟨wr.heap.size, 1, none⟩ = some (.bool true) := by rw [hW]; go_simp
            have f2 : W.cell? ⟨g, j * 2, none⟩ = some (.int .i64 s) := by rw [hW, World.cell?_alloc_lt _ _ _ hgs1]; exact e1
            have f3 : W.cell? ⟨g, j * 2 + 1, none⟩ = some (.bool b) := by rw [hW, World.cell?_alloc_lt _ _ _ hgs1]; exact e2
            have HMW : Hid (MdInv w W u8 ys) := by rw [hW]; exact HM.out.below ((Below.refl _ _).alloc (Nat.le_refl _) _)
            have fz : wr.heap.size < W.heap.size := two_lt f0
            have fg : g < W.heap.size := World.block_lt_of_cell? W _ f2
            rw [← hW]
            clear hW e1 e2
            go_region_held3 (fun wx => wx.cell? ⟨wr.heap.size, 0, none⟩ = some (.int .i64 (s + k)) ∧ wx.cell? ⟨wr.heap.size, 1, none⟩ = some (.bool true) ∧ wx.cell? ⟨g, j * 2, none⟩ = some (.int .i64 s) ∧ wx.cell? ⟨g, j * 2 + 1, none⟩ = some (.bool b)) (go_keep)
              (first | (go_at_call 84; refine (sToneValid_any _ _ _).mono ?_; rintro e w3 ⟨rfl, hb3⟩; have c3a := (hb3.cell (p := ⟨wr.heap.size, 0, none⟩) fz).trans f0; have c3b := (hb3.cell (p := ⟨wr.heap.size, 1, none⟩) fz).trans f1; have c3c := (hb3.cell (p := ⟨g, j * 2, none⟩) fg).trans f2; have c3d := (hb3.cell (p := ⟨g, j * 2 + 1, none⟩) fg).trans f3; have fz3 := Nat.lt_of_lt_of_le fz hb3.size; have fg3 := Nat.lt_of_lt_of_le fg hb3.size; have HM3 := Lib.hid (MdInv.below HMW.out.drew hb3)) | (go_at_call_of 88 (Value.agg #[Value.int .i64 (s + k), Value.bool true]); refine (l1Height_any _ _ u0 u1 _).mono ?_; rintro e w4 ⟨rfl, hb4⟩; have c4a := (hb4.cell (p := ⟨wr.heap.size, 0, none⟩) fz3).trans c3a; have c4b := (hb4.cell (p := ⟨wr.heap.size, 1, none⟩) fz3).trans c3b; have c4c := (hb4.cell (p := ⟨g, j * 2, none⟩) fg3).trans c3c; have c4d := (hb4.cell (p := ⟨g, j * 2 + 1, none⟩) fg3).trans c3d; have fz4 := Nat.lt_of_lt_of_le fz3 hb4.size; have fg4 := Nat.lt_of_lt_of_le fg3 hb4.size; have HM4 := Lib.hid (HM3.out.below hb4)) | (go_at_call 88; refine (l1Height_any _ _ v0 v1 _).mono ?_; rintro e w5 ⟨rfl, hb5⟩; have c5a := (hb5.cell (p := ⟨wr.heap.size, 0, none⟩) fz4).trans c4a; have c5b := (hb5.cell (p := ⟨wr.heap.size, 1, none⟩) fz4).trans c4b; have c5c := (hb5.cell (p := ⟨g, j * 2, none⟩) fg4).trans c4c; have c5d := (hb5.cell (p := ⟨g, j * 2 + 1, none⟩) fg4).trans c4d; have fz5 := Nat.lt_of_lt_of_le fz4 hb5.size; have fg5 := Nat.lt_of_lt_of_le fg4 hb5.size; have HM5 := Lib.hid (HM4.out.below hb5)))
            clear f0 f1 f2 f3 c3a c3b c3c c3d c4a c4b c4c c4d c5a c5b c5c c5d
            go_wp2
            go_roundw
            case rel => exact ⟨2, false, rfl, rfl, .inr (.inr (.inl ⟨rfl, rfl, HM0.out, cnd_no2 (t := (s, b)) HG.out, HM5.out⟩))⟩
            case measure => simp [intOf]
        · have HF := Lib.hid (HN.out (HMI.out (tmo_miss hm0 hm1).1))
          have HM := Lib.hid hM.2
          clear hm0 hm1 hM a1 a2
          go_wp2
          go_ret2
          exact HF.out _ HM.out
        · have HM := Lib.hid hM
          have HT := Lib.hid (HAA.out hto)
          clear hto hM a1 a2
          rcases hcc with rfl | rfl
          all_goals
            go_wp2
            go_roundw
            case rel => exact ⟨j + 1, by omega, by go_num, HT.out, by rw [HMM.out]; exact HM.out⟩
            case measure => simp [intOf]; omega
    · have hje : j = xs.length := by omega
      subst hje
      rw [List.take_length] at ha hI
      have HF := Lib.hid (HY.out ha _ _ hI)
      clear ha hI
      go_wp2
      go_ret2
      exact HF.out

end Go.Proofs.YticapinlnlpbpaaDoor

namespace Go.Proofs.YticapinlnlpbpaaDoor
open Go.RowKit
set_option maxRecDepth 100000
set_option linter.unusedVariables false

theorem abv_out {s k : Int} {b c : Bool} (h : k < -20 ∨ 20 < k) : abv s b k c = false := by
  rcases h with h | h
  · exact ab_no2 h
  · exact ab_no3 h
theorem mm_far {k : Int} {xs : List (Int × Bool)} (h : k < -20 ∨ 20 < k) (hx : xs ≠ []) : mmL k xs = [] ∧ mmB k xs = false := by
  cases xs with
  | nil => exact absurd rfl hx
  | cons t r =>
    by_cases hm : mv (t :: r) = true
    · exact mm_miss hm (hitc_no1 (abv_out h)) (hitc_no1 (abv_out h))
    · exact mm_no1 (by simpa using hm)

set_option maxHeartbeats 16000000 in
theorem sMelodyMove_any (lo hi : Nat) (v : Value) (ys : List (Int × Bool)) (k : Int) (w : World) (h : TRow w lo hi v ys) :
    Calls Tryd.prog 58 #[v, .int .i64 k] w (TBuilt2 w (mmL k ys) (mmB k ys)) := by
  rcases h.form with ⟨rfl, rfl⟩ | ⟨g, cap, rfl, hg, hg2, hgs, hcap, hmax, hc⟩
  · have HE := Lib.hid (empty_built2 (w := w) (w1 := w) (ok := true) (Below.refl _ _))
    rw [(mm_nil k).1, (mm_nil k).2]
    clear h
    go_enter Tryd.func58, Tryd.ntmps58
    go_wp2
    go_ret2
    exact HE.out
  by_cases hl0 : ys.length = 0
  · have hy0 : ys = [] := List.eq_nil_of_length_eq_zero hl0
    subst hy0
    have HE := Lib.hid (empty_built2 (w := w) (w1 := w) (ok := true) (Below.refl _ _))
    rw [(mm_nil k).1, (mm_nil k).2]
    clear h hc
    go_enter Tryd.func58, Tryd.ntmps58
    go_wp2
    go_ret2
    exact HE.out
  obtain ⟨L, hL⟩ : ∃ L : Nat, ys.length = L := ⟨_, rfl⟩
  have hz0 : ((L : Int) == 0) = false := by rw [beq_eq_false_iff_ne]; omega
  have hp0 : (0 : Int) < (L : Int) := by omega
  have hp1 : 0 < L := by omega
  rw [hL] at h hcap ⊢
  by_cases hm : mv ys = false
  · rw [(mm_no1 hm).1, (mm_no1 hm).2]
    have HE := Lib.hid (fun w1 hb => empty_built2 (w := w) (w1 := w1) (ok := false) hb)
    have HH := Lib.hid h
    clear h hc hl0
    go_enter Tryd.func58, Tryd.ntmps58
    go_wp2_with (fail)
    (go_at_call 86; refine (sMelodyValid_any lo hi _ ys _ HH.out).mono ?_; rintro e w1 ⟨rfl, hb1⟩)
    rw [hm]
    go_wp2
    go_ret2
    exact HE.out _ hb1
  rw [Bool.not_eq_false] at hm
  by_cases hk : k < -20 ∨ 20 < k
  · have hf := mm_far (xs := ys) hk (fun e => hl0 (by rw [e]; rfl))
    rw [hf.1, hf.2]
    have HE := Lib.hid (fun w1 hb => empty_built2 (w := w) (w1 := w1) (ok := false) hb)
    have HH := Lib.hid h
    have HF := Lib.hid hk
    clear h hc hl0 hk hf
    go_enter Tryd.func58, Tryd.ntmps58
    go_wp2_with (fail)
    (go_at_call 86; refine (sMelodyValid_any lo hi _ ys _ HH.out).mono ?_; rintro e w1 ⟨rfl, hb1⟩)
    rw [hm]
    go_wp2_with (fail)
    (go_at_call 85; refine (in_no k (-20) 20 HF.out _).mono ?_; rintro e wx ⟨rfl, rfl⟩)
    go_wp2
    go_ret2
    exact HE.out _ hb1
  have hk0 : -20 ≤ k := by omega
  have hk1 : k ≤ 20 := by omega
  obtain ⟨t, r, HYS0⟩ : ∃ t r, ys = t :: r := by
    cases ys with
    | nil => exact absurd rfl hl0
    | cons t r => exact ⟨t, r, rfl⟩
  obtain ⟨s, b⟩ := t
  have HYS : Hid (ys = (s, b) :: r) := HYS0
  have hmt := mv_tail (t := (s, b)) (r := r) (by rw [← HYS.out]; exact hm)
  rw [← HYS.out] at hmt
  obtain ⟨hv, hall, hlen⟩ := hmt
  have HV := Lib.hid hall
  have HM := Lib.hid hm
  have hv : vd s b = true := hv
  obtain ⟨v0, v1⟩ := vd_in hv
  obtain ⟨g0, g1⟩ := hgt_bd (b := b) v0 v1
  have hab : ∀ c, abv s b k c = vd (s + k) c := fun c => abv_in hv hk0 hk1
  have HAB := Lib.hid hab
  have HL := Lib.hid hlen
  have HH := Lib.hid h
  have sk : IntKind.i64.wrap (s + k) = s + k := IntWalk.i64_in _ (by omega)
  obtain ⟨a1, a2⟩ := hc 0 (s, b) (by rw [HYS.out]; rfl)
  simp only [Nat.zero_mul, Nat.zero_add] at a1 a2
  clear HYS0 hall hv hab hl0 hk h hc
  go_enter Tryd.func58, Tryd.ntmps58
  go_wp2_with (fail)
  (go_at_call 86; refine (sMelodyValid_any lo hi _ ys _ HH.out).mono ?_; rintro e w1 ⟨rfl, hb1⟩)
  rw [hm]
  go_wp2_with (fail)
  (go_at_call 85; refine (in_yes k (-20) 20 hk0 hk1 _).mono ?_; rintro e wx ⟨rfl, rfl⟩)
  go_wp2
  go_loopw [6] (fun i wr => ∃ j : Int, (j = 0 ∨ j = 1 ∧ hitc k false ys = false ∨ j = 2 ∧ hitc k false ys = false ∧ hitc k true ys = false) ∧ i = .int .i64 j ∧ Below w.heap.size w wr) (fun i _ => 2 - (intOf i).toNat)
  case atStart => exact ⟨0, .inl rfl, rfl, hb1⟩
  case round =>
    obtain ⟨j, hj, rfl, hb⟩ := hrel
    have e0 := (hb.cell (p := ⟨g, 0, none⟩) hgs).trans a1
    have e1 := (hb.cell (p := ⟨g, 1, none⟩) hgs).trans a2
    have hgs1 : g < wr.heap.size := Nat.lt_of_lt_of_le hgs hb.size
    have HB := Lib.hid hb
    clear hb hm
    rcases hj with rfl | ⟨rfl, hm0⟩ | ⟨rfl, hm0, hm1⟩
    · by_cases hA : vd (s + k) false = false
      · have HA := Lib.hid hA
        go_wp2_with (fail)
        obtain ⟨W, hW⟩ : ∃ W, W = wr.alloc (.cells #[.int .i64 (s + k), .bool false] 41) := ⟨_, rfl⟩
        have f0 : W.cell? ⟨wr.heap.size, 0, none⟩ = some (.int .i64 (s + k)) := by rw [hW]; go_simp
        have f1 : W.cell? ⟨wr.heap.size, 1, none⟩ = some (.bool false) := by rw [hW]; go_simp
        have f2 : W.cell? ⟨g, 0, none⟩ = some (.int .i64 s) := by rw [hW, World.cell?_alloc_lt _ _ _ hgs1]; exact e0
        have f3 : W.cell? ⟨g, 1, none⟩ = some (.bool b) := by rw [hW, World.cell?_alloc_lt _ _ _ hgs1]; exact e1
        have HBW : Hid (Below w.heap.size w W) := by rw [hW]; exact HB.out.alloc HB.out.size _
        have fz : wr.heap.size < W.heap.size := two_lt f0
        have fg : g < W.heap.size := World.block_lt_of_cell? W _ f2
        rw [← hW]
        clear hW e0 e1
        (go_at_call 84; refine (sToneValid_any _ _ _).mono ?_; rintro e w3 ⟨rfl, hb3⟩)
        have c3a := (hb3.cell (p := ⟨wr.heap.size, 0, none⟩) fz).trans f0
        have c3b := (hb3.cell (p := ⟨wr.heap.size, 1, none⟩) fz).trans f1
        have c3c := (hb3.cell (p := ⟨g, 0, none⟩) fg).trans f2
        have c3d := (hb3.cell (p := ⟨g, 1, none⟩) fg).trans f3
        have fz3 := Nat.lt_of_lt_of_le fz hb3.size
        have fg3 := Nat.lt_of_lt_of_le fg hb3.size
        have HB3 := Lib.hid (bl_step HBW.out hb3)
        rw [hA]
        clear hA f0 f1 f2 f3 c3a c3b c3c c3d
        go_wp2
        go_roundw
        case rel => exact ⟨1, .inr (.inl ⟨rfl, hitc_no1' (HYS.out) ((HAB.out false).trans HA.out)⟩), rfl, HB3.out⟩
        case measure => simp [intOf]
      rw [Bool.not_eq_false] at hA
      obtain ⟨u0, u1⟩ := vd_in hA
      obtain ⟨g2, g3⟩ := hgt_bd (b := false) u0 u1
      have hAv : abv s b k false = true := (HAB.out false).trans hA
      have sw : IntKind.i64.wrap (hgt (s + k) false - hgt s b) = hgt (s + k) false - hgt s b := IntWalk.i64_in _ (by omega)
      by_cases hG : ys.all (tmo k (hgt (s + k) false - hgt s b)) = true
      · have HG := Lib.hid hG
        have HH1 := Lib.hid (mm_hit0 HM.out (hitc_yes' HYS.out hAv hG).1)
        have HZ := Lib.hid (hitc_yes' HYS.out hAv hG).2
        go_wp2_with (fail)
        obtain ⟨W, hW⟩ : ∃ W, W = wr.alloc (.cells #[.int .i64 (s + k), .bool false] 41) := ⟨_, rfl⟩
        have f0 : W.cell? ⟨wr.heap.size, 0, none⟩ = some (.int .i64 (s + k)) := by rw [hW]; go_simp
        have f1 : W.cell? ⟨wr.heap.size, 1, none⟩ = some (.bool false) := by rw [hW]; go_simp
        have f2 : W.cell? ⟨g, 0, none⟩ = some (.int .i64 s) := by rw [hW, World.cell?_alloc_lt _ _ _ hgs1]; exact e0
        have f3 : W.cell? ⟨g, 1, none⟩ = some (.bool b) := by rw [hW, World.cell?_alloc_lt _ _ _ hgs1]; exact e1
        have HBW : Hid (Below w.heap.size w W) := by rw [hW]; exact HB.out.alloc HB.out.size _
        have fz : wr.heap.size < W.heap.size := two_lt f0
        have fg : g < W.heap.size := World.block_lt_of_cell? W _ f2
        rw [← hW]
        clear hW e0 e1
        (go_at_call 84; refine (sToneValid_any _ _ _).mono ?_; rintro e w3 ⟨rfl, hb3⟩)
        have c3a := (hb3.cell (p := ⟨wr.heap.size, 0, none⟩) fz).trans f0
        have c3b := (hb3.cell (p := ⟨wr.heap.size, 1, none⟩) fz).trans f1
        have c3c := (hb3.cell (p := ⟨g, 0, none⟩) fg).trans f2
        have c3d := (hb3.cell (p := ⟨g, 1, none⟩) fg).trans f3
        have fz3 := Nat.lt_of_lt_of_le fz hb3.size
        have fg3 := Nat.lt_of_lt_of_le fg hb3.size
        have HB3 := Lib.hid (bl_step HBW.out hb3)
        rw [hA]
        go_wp2
        go_region_held3 (fun wx => wx.cell? ⟨wr.heap.size, 0, none⟩ = some (.int .i64 (s + k)) ∧ wx.cell? ⟨wr.heap.size, 1, none⟩ = some (.bool false) ∧ wx.cell? ⟨g, 0, none⟩ = some (.int .i64 s) ∧ wx.cell? ⟨g, 1, none⟩ = some (.bool b)) (go_keep)
          (first | (go_at_call_of 88 (Value.agg #[Value.int .i64 (s + k), Value.bool false]); refine (l1Height_any _ _ u0 u1 _).mono ?_; rintro e w4 ⟨rfl, hb4⟩; have c4a := (hb4.cell (p := ⟨wr.heap.size, 0, none⟩) fz3).trans c3a; have c4b := (hb4.cell (p := ⟨wr.heap.size, 1, none⟩) fz3).trans c3b; have c4c := (hb4.cell (p := ⟨g, 0, none⟩) fg3).trans c3c; have c4d := (hb4.cell (p := ⟨g, 1, none⟩) fg3).trans c3d; have fz4 := Nat.lt_of_lt_of_le fz3 hb4.size; have fg4 := Nat.lt_of_lt_of_le fg3 hb4.size; have HB4 := Lib.hid (bl_step HB3.out.drew hb4)) | (go_at_call 88; refine (l1Height_any _ _ v0 v1 _).mono ?_; rintro e w5 ⟨rfl, hb5⟩; have c5a := (hb5.cell (p := ⟨wr.heap.size, 0, none⟩) fz4).trans c4a; have c5b := (hb5.cell (p := ⟨wr.heap.size, 1, none⟩) fz4).trans c4b; have c5c := (hb5.cell (p := ⟨g, 0, none⟩) fg4).trans c4c; have c5d := (hb5.cell (p := ⟨g, 1, none⟩) fg4).trans c4d; have fz5 := Nat.lt_of_lt_of_le fz4 hb5.size; have fg5 := Nat.lt_of_lt_of_le fg4 hb5.size; have HB5 := Lib.hid (bl_step HB4.out hb5)) | (go_at_call 87; refine (sMoved_any lo hi _ ys k _ hk0 hk1 HV.out HL.out _ (HH.out.below HB5.out (.inr (Nat.le_refl _)))).mono ?_; rintro e w6 ⟨u, rfl, hu, hb6⟩; have c6a := (hb6.cell (p := ⟨wr.heap.size, 0, none⟩) fz5).trans c5a; have c6b := (hb6.cell (p := ⟨wr.heap.size, 1, none⟩) fz5).trans c5b; have c6c := (hb6.cell (p := ⟨g, 0, none⟩) fg5).trans c5c; have c6d := (hb6.cell (p := ⟨g, 1, none⟩) fg5).trans c5d))
        (try rw [HG.out])
        have HE : Hid (TBuilt2 w (mmL k ys) (mmB k ys) (.returned (.tuple #[u, .bool true])) w6) := by
          rw [HH1.out.1, HH1.out.2, HZ.out, ← moL_yes HG.out]
          exact ⟨u, rfl, ⟨tmono hu.1 HB5.out.size, hu.2⟩, bl_step HB5.out hb6⟩
        clear hu f0 f1 f2 f3 c3a c3b c3c c3d c4a c4b c4c c4d c5a c5b c5c c5d c6a c6b c6c c6d
        go_wp2
        go_ret2
        exact HE.out
      · rw [Bool.not_eq_true] at hG
        have HG := Lib.hid hG
        go_wp2_with (fail)
        obtain ⟨W, hW⟩ : ∃ W, W = wr.alloc (.cells #[.int .i64 (s + k), .bool false] 41) := ⟨_, rfl⟩
        have f0 : W.cell? ⟨wr.heap.size, 0, none⟩ = some (.int .i64 (s + k)) := by rw [hW]; go_simp
        have f1 : W.cell? ⟨wr.heap.size, 1, none⟩ = some (.bool false) := by rw [hW]; go_simp
        have f2 : W.cell? ⟨g, 0, none⟩ = some (.int .i64 s) := by rw [hW, World.cell?_alloc_lt _ _ _ hgs1]; exact e0
        have f3 : W.cell? ⟨g, 1, none⟩ = some (.bool b) := by rw [hW, World.cell?_alloc_lt _ _ _ hgs1]; exact e1
        have HBW : Hid (Below w.heap.size w W) := by rw [hW]; exact HB.out.alloc HB.out.size _
        have fz : wr.heap.size < W.heap.size := two_lt f0
        have fg : g < W.heap.size := World.block_lt_of_cell? W _ f2
        rw [← hW]
        clear hW e0 e1
        (go_at_call 84; refine (sToneValid_any _ _ _).mono ?_; rintro e w3 ⟨rfl, hb3⟩)
        have c3a := (hb3.cell (p := ⟨wr.heap.size, 0, none⟩) fz).trans f0
        have c3b := (hb3.cell (p := ⟨wr.heap.size, 1, none⟩) fz).trans f1
        have c3c := (hb3.cell (p := ⟨g, 0, none⟩) fg).trans f2
        have c3d := (hb3.cell (p := ⟨g, 1, none⟩) fg).trans f3
        have fz3 := Nat.lt_of_lt_of_le fz hb3.size
        have fg3 := Nat.lt_of_lt_of_le fg hb3.size
        have HB3 := Lib.hid (bl_step HBW.out hb3)
        rw [hA]
        go_wp2
        go_region_held3 (fun wx => wx.cell? ⟨wr.heap.size, 0, none⟩ = some (.int .i64 (s + k)) ∧ wx.cell? ⟨wr.heap.size, 1, none⟩ = some (.bool false) ∧ wx.cell? ⟨g, 0, none⟩ = some (.int .i64 s) ∧ wx.cell? ⟨g, 1, none⟩ = some (.bool b)) (go_keep)
          (first | (go_at_call_of 88 (Value.agg #[Value.int .i64 (s + k), Value.bool false]); refine (l1Height_any _ _ u0 u1 _).mono ?_; rintro e w4 ⟨rfl, hb4⟩; have c4a := (hb4.cell (p := ⟨wr.heap.size, 0, none⟩) fz3).trans c3a; have c4b := (hb4.cell (p := ⟨wr.heap.size, 1, none⟩) fz3).trans c3b; have c4c := (hb4.cell (p := ⟨g, 0, none⟩) fg3).trans c3c; have c4d := (hb4.cell (p := ⟨g, 1, none⟩) fg3).trans c3d; have fz4 := Nat.lt_of_lt_of_le fz3 hb4.size; have fg4 := Nat.lt_of_lt_of_le fg3 hb4.size; have HB4 := Lib.hid (bl_step HB3.out.drew hb4)) | (go_at_call 88; refine (l1Height_any _ _ v0 v1 _).mono ?_; rintro e w5 ⟨rfl, hb5⟩; have c5a := (hb5.cell (p := ⟨wr.heap.size, 0, none⟩) fz4).trans c4a; have c5b := (hb5.cell (p := ⟨wr.heap.size, 1, none⟩) fz4).trans c4b; have c5c := (hb5.cell (p := ⟨g, 0, none⟩) fg4).trans c4c; have c5d := (hb5.cell (p := ⟨g, 1, none⟩) fg4).trans c4d; have fz5 := Nat.lt_of_lt_of_le fz4 hb5.size; have fg5 := Nat.lt_of_lt_of_le fg4 hb5.size; have HB5 := Lib.hid (bl_step HB4.out hb5)) | (go_at_call 87; refine (sMoved_any lo hi _ ys k _ hk0 hk1 HV.out HL.out _ (HH.out.below HB5.out (.inr (Nat.le_refl _)))).mono ?_; rintro e w6 ⟨u, rfl, hu, hb6⟩; have c6a := (hb6.cell (p := ⟨wr.heap.size, 0, none⟩) fz5).trans c5a; have c6b := (hb6.cell (p := ⟨wr.heap.size, 1, none⟩) fz5).trans c5b; have c6c := (hb6.cell (p := ⟨g, 0, none⟩) fg5).trans c5c; have c6d := (hb6.cell (p := ⟨g, 1, none⟩) fg5).trans c5d))
        (try rw [HG.out])
        have HB6 := Lib.hid (bl_step HB5.out hb6)
        clear hu f0 f1 f2 f3 c3a c3b c3c c3d c4a c4b c4c c4d c5a c5b c5c c5d c6a c6b c6c c6d
        go_wp2
        go_roundw
        case rel => exact ⟨1, .inr (.inl ⟨rfl, hitc_no2' (HYS.out) HG.out⟩), rfl, HB6.out⟩
        case measure => simp [intOf]
    · have HM0 := Lib.hid hm0
      clear hm0
      by_cases hA : vd (s + k) true = false
      · have HA := Lib.hid hA
        go_wp2_with (fail)
        obtain ⟨W, hW⟩ : ∃ W, W = wr.alloc (.cells #[.int .i64 (s + k), .bool true] 41) := ⟨_, rfl⟩
        have f0 : W.cell? ⟨wr.heap.size, 0, none⟩ = some (.int .i64 (s + k)) := by rw [hW]; go_simp
        have f1 : W.cell? ⟨wr.heap.size, 1, none⟩ = some (.bool true) := by rw [hW]; go_simp
        have f2 : W.cell? ⟨g, 0, none⟩ = some (.int .i64 s) := by rw [hW, World.cell?_alloc_lt _ _ _ hgs1]; exact e0
        have f3 : W.cell? ⟨g, 1, none⟩ = some (.bool b) := by rw [hW, World.cell?_alloc_lt _ _ _ hgs1]; exact e1
        have HBW : Hid (Below w.heap.size w W) := by rw [hW]; exact HB.out.alloc HB.out.size _
        have fz : wr.heap.size < W.heap.size := two_lt f0
        have fg : g < W.heap.size := World.block_lt_of_cell? W _ f2
        rw [← hW]
        clear hW e0 e1
        (go_at_call 84; refine (sToneValid_any _ _ _).mono ?_; rintro e w3 ⟨rfl, hb3⟩)
        have c3a := (hb3.cell (p := ⟨wr.heap.size, 0, none⟩) fz).trans f0
        have c3b := (hb3.cell (p := ⟨wr.heap.size, 1, none⟩) fz).trans f1
        have c3c := (hb3.cell (p := ⟨g, 0, none⟩) fg).trans f2
        have c3d := (hb3.cell (p := ⟨g, 1, none⟩) fg).trans f3
        have fz3 := Nat.lt_of_lt_of_le fz hb3.size
        have fg3 := Nat.lt_of_lt_of_le fg hb3.size
        have HB3 := Lib.hid (bl_step HBW.out hb3)
        rw [hA]
        clear hA f0 f1 f2 f3 c3a c3b c3c c3d
        go_wp2
        go_roundw
        case rel => exact ⟨2, .inr (.inr ⟨rfl, HM0.out, hitc_no1' (HYS.out) ((HAB.out true).trans HA.out)⟩), rfl, HB3.out⟩
        case measure => simp [intOf]
      rw [Bool.not_eq_false] at hA
      obtain ⟨u0, u1⟩ := vd_in hA
      obtain ⟨g2, g3⟩ := hgt_bd (b := true) u0 u1
      have hAv : abv s b k true = true := (HAB.out true).trans hA
      have sw : IntKind.i64.wrap (hgt (s + k) true - hgt s b) = hgt (s + k) true - hgt s b := IntWalk.i64_in _ (by omega)
      by_cases hG : ys.all (tmo k (hgt (s + k) true - hgt s b)) = true
      · have HG := Lib.hid hG
        have HH1 := Lib.hid (mm_hit1 HM.out HM0.out (hitc_yes' HYS.out hAv hG).1)
        have HZ := Lib.hid (hitc_yes' HYS.out hAv hG).2
        go_wp2_with (fail)
        obtain ⟨W, hW⟩ : ∃ W, W = wr.alloc (.cells #[.int .i64 (s + k), .bool true] 41) := ⟨_, rfl⟩
        have f0 : W.cell? ⟨wr.heap.size, 0, none⟩ = some (.int .i64 (s + k)) := by rw [hW]; go_simp
        have f1 : W.cell? ⟨wr.heap.size, 1, none⟩ = some (.bool true) := by rw [hW]; go_simp
        have f2 : W.cell? ⟨g, 0, none⟩ = some (.int .i64 s) := by rw [hW, World.cell?_alloc_lt _ _ _ hgs1]; exact e0
        have f3 : W.cell? ⟨g, 1, none⟩ = some (.bool b) := by rw [hW, World.cell?_alloc_lt _ _ _ hgs1]; exact e1
        have HBW : Hid (Below w.heap.size w W) := by rw [hW]; exact HB.out.alloc HB.out.size _
        have fz : wr.heap.size < W.heap.size := two_lt f0
        have fg : g < W.heap.size := World.block_lt_of_cell? W _ f2
        rw [← hW]
        clear hW e0 e1
        (go_at_call 84; refine (sToneValid_any _ _ _).mono ?_; rintro e w3 ⟨rfl, hb3⟩)
        have c3a := (hb3.cell (p := ⟨wr.heap.size, 0, none⟩) fz).trans f0
        have c3b := (hb3.cell (p := ⟨wr.heap.size, 1, none⟩) fz).trans f1
        have c3c := (hb3.cell (p := ⟨g, 0, none⟩) fg).trans f2
        have c3d := (hb3.cell (p := ⟨g, 1, none⟩) fg).trans f3
        have fz3 := Nat.lt_of_lt_of_le fz hb3.size
        have fg3 := Nat.lt_of_lt_of_le fg hb3.size
        have HB3 := Lib.hid (bl_step HBW.out hb3)
        rw [hA]
        go_wp2
        go_region_held3 (fun wx => wx.cell? ⟨wr.heap.size, 0, none⟩ = some (.int .i64 (s + k)) ∧ wx.cell? ⟨wr.heap.size, 1, none⟩ = some (.bool true) ∧ wx.cell? ⟨g, 0, none⟩ = some (.int .i64 s) ∧ wx.cell? ⟨g, 1, none⟩ = some (.bool b)) (go_keep)
          (first | (go_at_call_of 88 (Value.agg #[Value.int .i64 (s + k), Value.bool true]); refine (l1Height_any _ _ u0 u1 _).mono ?_; rintro e w4 ⟨rfl, hb4⟩; have c4a := (hb4.cell (p := ⟨wr.heap.size, 0, none⟩) fz3).trans c3a; have c4b := (hb4.cell (p := ⟨wr.heap.size, 1, none⟩) fz3).trans c3b; have c4c := (hb4.cell (p := ⟨g, 0, none⟩) fg3).trans c3c; have c4d := (hb4.cell (p := ⟨g, 1, none⟩) fg3).trans c3d; have fz4 := Nat.lt_of_lt_of_le fz3 hb4.size; have fg4 := Nat.lt_of_lt_of_le fg3 hb4.size; have HB4 := Lib.hid (bl_step HB3.out.drew hb4)) | (go_at_call 88; refine (l1Height_any _ _ v0 v1 _).mono ?_; rintro e w5 ⟨rfl, hb5⟩; have c5a := (hb5.cell (p := ⟨wr.heap.size, 0, none⟩) fz4).trans c4a; have c5b := (hb5.cell (p := ⟨wr.heap.size, 1, none⟩) fz4).trans c4b; have c5c := (hb5.cell (p := ⟨g, 0, none⟩) fg4).trans c4c; have c5d := (hb5.cell (p := ⟨g, 1, none⟩) fg4).trans c4d; have fz5 := Nat.lt_of_lt_of_le fz4 hb5.size; have fg5 := Nat.lt_of_lt_of_le fg4 hb5.size; have HB5 := Lib.hid (bl_step HB4.out hb5)) | (go_at_call 87; refine (sMoved_any lo hi _ ys k _ hk0 hk1 HV.out HL.out _ (HH.out.below HB5.out (.inr (Nat.le_refl _)))).mono ?_; rintro e w6 ⟨u, rfl, hu, hb6⟩; have c6a := (hb6.cell (p := ⟨wr.heap.size, 0, none⟩) fz5).trans c5a; have c6b := (hb6.cell (p := ⟨wr.heap.size, 1, none⟩) fz5).trans c5b; have c6c := (hb6.cell (p := ⟨g, 0, none⟩) fg5).trans c5c; have c6d := (hb6.cell (p := ⟨g, 1, none⟩) fg5).trans c5d))
        (try rw [HG.out])
        have HE : Hid (TBuilt2 w (mmL k ys) (mmB k ys) (.returned (.tuple #[u, .bool true])) w6) := by
          rw [HH1.out.1, HH1.out.2, HZ.out, ← moL_yes HG.out]
          exact ⟨u, rfl, ⟨tmono hu.1 HB5.out.size, hu.2⟩, bl_step HB5.out hb6⟩
        clear hu f0 f1 f2 f3 c3a c3b c3c c3d c4a c4b c4c c4d c5a c5b c5c c5d c6a c6b c6c c6d
        go_wp2
        go_ret2
        exact HE.out
      · rw [Bool.not_eq_true] at hG
        have HG := Lib.hid hG
        go_wp2_with (fail)
        obtain ⟨W, hW⟩ : ∃ W, W = wr.alloc (.cells #[.int .i64 (s + k), .bool true] 41) := ⟨_, rfl⟩
        have f0 : W.cell? ⟨wr.heap.size, 0, none⟩ = some (.int .i64 (s + k)) := by rw [hW]; go_simp
        have f1 : W.cell? ⟨wr.heap.size, 1, none⟩ = some (.bool true) := by rw [hW]; go_simp
        have f2 : W.cell? ⟨g, 0, none⟩ = some (.int .i64 s) := by rw [hW, World.cell?_alloc_lt _ _ _ hgs1]; exact e0
        have f3 : W.cell? ⟨g, 1, none⟩ = some (.bool b) := by rw [hW, World.cell?_alloc_lt _ _ _ hgs1]; exact e1
        have HBW : Hid (Below w.heap.size w W) := by rw [hW]; exact HB.out.alloc HB.out.size _
        have fz : wr.heap.size < W.heap.size := two_lt f0
        have fg : g < W.heap.size := World.block_lt_of_cell? W _ f2
        rw [← hW]
        clear hW e0 e1
        (go_at_call 84; refine (sToneValid_any _ _ _).mono ?_; rintro e w3 ⟨rfl, hb3⟩)
        have c3a := (hb3.cell (p := ⟨wr.heap.size, 0, none⟩) fz).trans f0
        have c3b := (hb3.cell (p := ⟨wr.heap.size, 1, none⟩) fz).trans f1
        have c3c := (hb3.cell (p := ⟨g, 0, none⟩) fg).trans f2
        have c3d := (hb3.cell (p := ⟨g, 1, none⟩) fg).trans f3
        have fz3 := Nat.lt_of_lt_of_le fz hb3.size
        have fg3 := Nat.lt_of_lt_of_le fg hb3.size
        have HB3 := Lib.hid (bl_step HBW.out hb3)
        rw [hA]
        go_wp2
        go_region_held3 (fun wx => wx.cell? ⟨wr.heap.size, 0, none⟩ = some (.int .i64 (s + k)) ∧ wx.cell? ⟨wr.heap.size, 1, none⟩ = some (.bool true) ∧ wx.cell? ⟨g, 0, none⟩ = some (.int .i64 s) ∧ wx.cell? ⟨g, 1, none⟩ = some (.bool b)) (go_keep)
          (first | (go_at_call_of 88 (Value.agg #[Value.int .i64 (s + k), Value.bool true]); refine (l1Height_any _ _ u0 u1 _).mono ?_; rintro e w4 ⟨rfl, hb4⟩; have c4a := (hb4.cell (p := ⟨wr.heap.size, 0, none⟩) fz3).trans c3a; have c4b := (hb4.cell (p := ⟨wr.heap.size, 1, none⟩) fz3).trans c3b; have c4c := (hb4.cell (p := ⟨g, 0, none⟩) fg3).trans c3c; have c4d := (hb4.cell (p := ⟨g, 1, none⟩) fg3).trans c3d; have fz4 := Nat.lt_of_lt_of_le fz3 hb4.size; have fg4 := Nat.lt_of_lt_of_le fg3 hb4.size; have HB4 := Lib.hid (bl_step HB3.out.drew hb4)) | (go_at_call 88; refine (l1Height_any _ _ v0 v1 _).mono ?_; rintro e w5 ⟨rfl, hb5⟩; have c5a := (hb5.cell (p := ⟨wr.heap.size, 0, none⟩) fz4).trans c4a; have c5b := (hb5.cell (p := ⟨wr.heap.size, 1, none⟩) fz4).trans c4b; have c5c := (hb5.cell (p := ⟨g, 0, none⟩) fg4).trans c4c; have c5d := (hb5.cell (p := ⟨g, 1, none⟩) fg4).trans c4d; have fz5 := Nat.lt_of_lt_of_le fz4 hb5.size; have fg5 := Nat.lt_of_lt_of_le fg4 hb5.size; have HB5 := Lib.hid (bl_step HB4.out hb5)) | (go_at_call 87; refine (sMoved_any lo hi _ ys k _ hk0 hk1 HV.out HL.out _ (HH.out.below HB5.out (.inr (Nat.le_refl _)))).mono ?_; rintro e w6 ⟨u, rfl, hu, hb6⟩; have c6a := (hb6.cell (p := ⟨wr.heap.size, 0, none⟩) fz5).trans c5a; have c6b := (hb6.cell (p := ⟨wr.heap.size, 1, none⟩) fz5).trans c5b; have c6c := (hb6.cell (p := ⟨g, 0, none⟩) fg5).trans c5c; have c6d := (hb6.cell (p := ⟨g, 1, none⟩) fg5).trans c5d))
        (try rw [HG.out])
        have HB6 := Lib.hid (bl_step HB5.out hb6)
        clear hu f0 f1 f2 f3 c3a c3b c3c c3d c4a c4b c4c c4d c5a c5b c5c c5d c6a c6b c6c c6d
        go_wp2
        go_roundw
        case rel => exact ⟨2, .inr (.inr ⟨rfl, HM0.out, hitc_no2' (HYS.out) HG.out⟩), rfl, HB6.out⟩
        case measure => simp [intOf]
    · have HX := Lib.hid (mm_miss' HYS.out HM.out hm0 hm1)
      have HE : Hid (TBuilt2 w (mmL k ys) (mmB k ys) (.returned (.tuple #[.slice (some ⟨wr.heap.size, 0, none⟩) 0 0, .bool false])) (wr.alloc (.cells #[] 41))) := by
        rw [HX.out.1, HX.out.2]
        exact empty_built2 HB.out
      clear hm0 hm1
      go_wp2
      go_ret2
      exact HE.out

end Go.Proofs.YticapinlnlpbpaaDoor

namespace Go.Proofs.YticapinlnlpbpaaDoor
open Go.RowKit
set_option maxRecDepth 100000
set_option linter.unusedVariables false

theorem rows_ne {wr : World} {b b' n n' : Nat} {v u : Value} {xs ys : List Value} (h : wr.ownsRow b 3 1 v n xs) (k : wr.ownsRow b' 41 2 u n' ys) : (v.ownBlock = none ∨ v.ownBlock ≠ u.ownBlock) ∧ (u.ownBlock = none ∨ u.ownBlock ≠ v.ownBlock) := by
  obtain ⟨_, ⟨rfl, _⟩ | ⟨g, cap, cur, rfl, _, hh, _⟩⟩ := h
  · refine ⟨.inl rfl, ?_⟩
    obtain ⟨_, ⟨rfl, _⟩ | ⟨g, cap, cur, rfl, _, hh, _⟩⟩ := k
    · exact .inl rfl
    · right; simp [Value.ownBlock]
  · obtain ⟨_, ⟨rfl, _⟩ | ⟨g', cap', cur', rfl, _, hh', _⟩⟩ := k
    · refine ⟨?_, .inl rfl⟩
      right; simp [Value.ownBlock]
    · have hne : g ≠ g' := fun e => by
        subst e
        rw [hh] at hh'
        injection hh' with h1
        injection h1 with _ h2
        exact absurd h2 (by decide)
      refine ⟨.inr ?_, .inr ?_⟩
      · intro e; simp [Value.ownBlock] at e; exact hne e
      · intro e; simp [Value.ownBlock] at e; exact hne e.symm
theorem IbInv.from_ {w w1 wr : World} {v : Value} {xs : List Int} (h : IbInv w1 wr v xs) (hb : Below w.heap.size w w1) : IbInv w wr v xs := by
  obtain ⟨⟨hl, hr⟩, hbl⟩ := h
  refine ⟨⟨hl, ?_⟩, bl_step hb hbl⟩
  rcases hr with h0 | ⟨g, cap, cur, hv, hg, hr⟩
  · exact .inl h0
  · exact .inr ⟨g, cap, cur, hv, Nat.le_trans hb.size hg, hr⟩
theorem IbInv.kept_ {w wr w2 : World} {v u : Value} {xs : List Int} {o : Obj} (h : IbInv w wr v xs) (hg : (wr.alloc o).grownBy w2 u.ownBlock) (hne : v.ownBlock = none ∨ v.ownBlock ≠ u.ownBlock) (hlt : ∀ k, u.ownBlock = some k → w.heap.size ≤ k) : IbInv w w2 v xs :=
  ⟨(h.own.alloc o).kept hg hne, (h.bl.alloc h.bl.size o).grown hg (by have := h.bl.size; simp; omega) hlt⟩
theorem TbInv.kept_ {w wr w2 : World} {v u : Value} {xs : List (Int × Bool)} {o : Obj} (h : TbInv w wr v xs) (hg : (wr.alloc o).grownBy w2 u.ownBlock) (hne : v.ownBlock = none ∨ v.ownBlock ≠ u.ownBlock) (hlt : ∀ k, u.ownBlock = some k → w.heap.size ≤ k) : TbInv w w2 v xs :=
  ⟨(h.own.alloc o).kept hg hne, (h.bl.alloc h.bl.size o).grown hg (by have := h.bl.size; simp; omega) hlt⟩

set_option maxHeartbeats 8000000 in
theorem sDiscantMove_any (v : Value) (k : Int) (xs : List Vc) (w : World) (h : VV w v xs) :
    Calls Tryd.prog 25 #[v, .int .i64 k] w (VBuilt2 w (dmL k xs) (dmOk k xs)) := by
  obtain ⟨i0, hi0, hq0, hq1, hq2⟩ := info_parts infoTone
  obtain ⟨j0, hj0, hr0, hr1, hr2⟩ := info_parts infoIb
  have HV := Lib.hid (sPartValid8_any v xs w h)
  obtain ⟨a, c, rfl, ha, hc1, hc2⟩ := h
  have HA := Lib.hid ha
  clear ha
  cases hp : pval xs with
  | false =>
    have hok := dm_no1 (k := k) hp
    rw [dmL_no hok, hok]
    rw [hp] at HV
    clear hok hp
    go_enter Tryd.func25, Tryd.ntmps25
    go_wp2_with (fail)
    (go_at_call 57; refine (HV.out).mono ?_; rintro e w1 ⟨rfl, hb1⟩)
    have HE := Lib.hid (VBuilt2.none_ w w1 hb1)
    clear hb1
    go_wp2
    go_ret2
    exact HE.out
  | true =>
    rw [hp] at HV
    obtain ⟨_, l12, _⟩ := pval_in hp
    have HP := Lib.hid hp
    clear hp
    go_enter Tryd.func25, Tryd.ntmps25
    go_wp2_with (fail)
    (go_at_call 57; refine (HV.out).mono ?_; rintro e w1 ⟨rfl, hb1⟩)
    have HB1 := Lib.hid hb1
    have HS : Hid (TbInv w1 ((w1.alloc (.cells #[] 41)).alloc (.cells #[] 3)) (.slice (some ⟨w1.heap.size, 0, none⟩) 0 0) (tns (xs.take 0))) := (TbInv.start w1).below ((Below.refl _ _).alloc (Nat.le_refl _) _)
    have HS2 : Hid (IbInv w1 ((w1.alloc (.cells #[] 41)).alloc (.cells #[] 3)) (.slice (some ⟨w1.heap.size + 1, 0, none⟩) 0 0) (bts8 (xs.take 0))) := by
      have h1 := (IbInv.start (w1.alloc (.cells #[] 41))).from_ ((Below.refl w1.heap.size w1).alloc (Nat.le_refl _) _)
      rw [show (w1.alloc (.cells #[] 41)).heap.size = w1.heap.size + 1 by simp] at h1
      exact h1
    clear hb1 HV
    go_wp2
    go_loopw [6, 7, 8] (fun q r i wr => ∃ n : Nat, n ≤ xs.length ∧ i = .int .i64 (n : Int) ∧ TbInv w1 wr q (tns (xs.take n)) ∧ IbInv w1 wr r (bts8 (xs.take n))) (fun _ _ i _ => xs.length - (intOf i).toNat)
    case atStart => exact ⟨0, by omega, rfl, HS.out, HS2.out⟩
    case round =>
      obtain ⟨n, hn, rfl, hinv, hinw⟩ := hrel
      clear HS HS2
      by_cases hlt : n < xs.length
      · obtain ⟨⟨⟨s, b⟩, m⟩, hx⟩ : ∃ x, xs[n]? = some x := ⟨xs[n], List.getElem?_eq_getElem hlt⟩
        rcases HA.out with h0 | ⟨A, off, rfl, hA, hcz⟩
        · subst h0; simp at hlt
        have hbw := bl_step HB1.out hinv.bl
        have HX := Lib.hid (tns_take hx)
        have HY := Lib.hid (bts_take8 hx)
        obtain ⟨e0, e1, e2⟩ := hcz n _ hx
        have d0 := (hbw.cell (p := ⟨A, off + n * 3, none⟩) hA).trans e0
        have d1 := (hbw.cell (p := ⟨A, off + n * 3 + 1, none⟩) hA).trans e1
        have hlen : (tns (xs.take n)).length = n := by rw [tns_len, List.length_take]; omega
        have hlen2 : (bts8 (xs.take n)).length = n := by rw [bts_len8, List.length_take]; omega
        have hown := hinv.own
        rw [hlen] at hown
        have hk0 : (0 : Int) ≤ (n : Int) := by omega
        have hk1 : (n : Int) < (xs.length : Int) := by omega
        have HN := Lib.hid hinv
        have HM := Lib.hid hinw
        have hws := hinv.bl.size
        have HNB : Hid ((wr.alloc (.cells #[.int .i64 s, .bool b] 41)).heap[wr.heap.size]? = some (.cells #[.int .i64 s, .bool b] 41 (0, 0))) := heap_alloc_new wr (.cells #[.int .i64 s, .bool b] 41)
        have HD := Lib.hid e2
        clear hx hbw hcz hinv hinw e0 e1 e2
        go_wp2_with (at_builtin; refine wpList_append_own _ rfl _ _ 52 rfl w1.heap.size 41 i0 (.agg #[.int .i64 0, .bool false]) 2 16 Tryd.underlying52 hi0 hq0 hq1 hq2 rfl (by decide) _ _ _ rfl (hown.alloc _) ⟨wr.heap.size, 0, none⟩ 1 1 [.int .i64 s, .bool b] rfl rfl (World.news_of_block HNB.out) (by simp [Value.oneCell']) (by unfold maxLen; omega) (by omega) (by simp; omega) ?_)
        intro v' w4 hown' hgrow _
        have hq := TbInv.app (s := s) (b := b) HN.out (by rw [hlen]; exact hown') hgrow
        have hr := HM.out.kept_ hgrow (rows_ne HM.out.own HN.out.own).1 (fun k hk => (own_ltb HN.out.own hk).1)
        rw [← HX.out] at hq
        have HQ := Lib.hid hq
        have HR := Lib.hid hr
        have hown2 := hr.own
        rw [hlen2] at hown2
        have hw4 := hr.bl.size
        have d2 := ((bl_step HB1.out hr.bl).cell (p := ⟨A, off + n * 3 + 2, none⟩) hA).trans HD.out
        have HNC : Hid ((w4.alloc (.cells #[.int .i64 m] 3)).heap[w4.heap.size]? = some (.cells #[.int .i64 m] 3 (0, 0))) := heap_alloc_new w4 (.cells #[.int .i64 m] 3)
        clear hown' hgrow hown HN HM hq hr d0 d1
        go_wp2_with (at_builtin; refine wpList_append_own _ rfl _ _ 24 rfl w1.heap.size 3 j0 (.int .i64 0) 1 8 Tryd.underlying24 hj0 hr0 hr1 hr2 rfl (by decide) _ _ _ rfl (hown2.alloc _) ⟨w4.heap.size, 0, none⟩ 1 1 [.int .i64 m] rfl rfl (World.news_of_block HNC.out) (by simp [Value.oneCell']) (by unfold maxLen; omega) (by omega) (by simp; omega) ?_)
        intro v5 w5 hown5 hgrow5 _
        have hr5 := IbInv.app (z := m) HR.out (by rw [hlen2]; exact hown5) hgrow5
        have hq5 := HQ.out.kept_ hgrow5 (rows_ne HR.out.own HQ.out.own).2 (fun k hk => (own_ltb HR.out.own hk).1)
        rw [← HY.out] at hr5
        have HQ5 := Lib.hid hq5
        have HR5 := Lib.hid hr5
        clear hown5 hgrow5 hown2 hq5 hr5 HQ HR d2
        go_wp2
        go_roundw
        case rel => exact ⟨n + 1, by omega, by go_num, HQ5.out, HR5.out⟩
        case measure => simp [intOf]; omega
      · have hnn : n = xs.length := by omega
        subst hnn
        rw [List.take_length] at hinv hinw
        have HBW := Lib.hid (bl_step HB1.out hinv.bl)
        have HM := Lib.hid (sMelodyMove_any w1.heap.size wr.heap.size _ (tns xs) k wr hinv.row)
        have HI := Lib.hid hinw
        clear hinv hinw HB1
        cases hm : mmB k (tns xs) with
        | false =>
          have hok := dm_no2 (xs := xs) hm
          rw [hm] at HM
          have HE : Hid (∀ w2, Below w.heap.size w w2 → VBuilt2 w (dmL k xs) (dmOk k xs) (.returned (.tuple #[.slice (some ⟨w2.heap.size, 0, none⟩) 0 0, .bool false])) (w2.alloc (.cells #[] 49))) := fun w2 hb => by
            rw [dmL_no hok, hok]; exact VBuilt2.none_ w w2 hb
          clear hok hm
          go_wp2_with (fail)
          (go_at_call 58; refine (HM.out).mono ?_; rintro e w2 ⟨u, rfl, hu, hb2⟩)
          have HF := Lib.hid (HE.out w2 (bl_step HBW.out hb2))
          clear hu hb2 HE
          go_wp2
          go_ret2
          exact HF.out
        | true =>
          have hok := dm_ok HP.out hm
          obtain ⟨hpm, hpl⟩ := dm_pm hok
          have HPM : Hid (∀ lo hi v u w', TRow w' lo hi v (mmL k (tns xs)) → IV w' u (bts8 xs) → Calls Tryd.prog 59 #[v, u] w' (VBuilt2 w' (dmL k xs) (dmOk k xs))) := fun lo hi v u w' h1 h2 => by
            have := sPartMake_any lo hi v u _ _ w' h1 h2
            rw [hpm, hpl, ← hok] at this
            exact this
          rw [hm] at HM
          clear hok hm hpm hpl
          generalize mmL k (tns xs) = ys at HM HPM
          go_wp2_with (fail)
          (go_at_call 58; refine (HM.out).mono ?_; rintro e w2 ⟨u, rfl, hu, hb2⟩)
          have hi2 := (IRow.view (lo := w1.heap.size) (hi := wr.heap.size) ⟨HI.out.own, fun g hg => (own_ltb HI.out.own hg).2⟩).below hb2
          have HP2 := Lib.hid (HPM.out _ _ _ _ _ hu hi2)
          have HB2 := Lib.hid (bl_step HBW.out hb2)
          clear hu hb2 hi2 HM HPM HI
          go_wp2_with (fail)
          (go_at_call 59; refine (HP2.out).mono ?_; rintro e w3 hv3)
          obtain ⟨r, rfl, hr3, hb3⟩ := hv3
          have HE : Hid (VBuilt2 w (dmL k xs) (dmOk k xs) (.returned (.tuple #[r, .bool (dmOk k xs)])) w3) := VBuilt2.from_ ⟨r, rfl, hr3, hb3⟩ HB2.out
          clear hr3 hb3
          go_wp2
          go_ret2
          exact HE.out

end Go.Proofs.YticapinlnlpbpaaDoor

namespace Go.Proofs.YticapinlnlpbpaaDoor
open Go.RowKit
set_option maxRecDepth 100000
set_option linter.unusedVariables false

set_option maxHeartbeats 2000000 in
theorem sameVoicesV_yes (v u : Value) (xs : List Vc) (w : World) (h : VV w v xs) (k : VV w u xs) :
    Calls Tryd.prog 41 #[v, u] w fun e w' => e = .returned (.bool true) ∧ Below w.heap.size w w' := by
  obtain ⟨a, c, rfl, ha, hc1, hc2⟩ := h
  obtain ⟨a', c', rfl, ha', hc1', hc2'⟩ := k
  unfold maxLen at hc2 hc2'
  have hlen : xs.length ≤ 9223372036854775807 := by omega
  have HA := Lib.hid ha
  have HA' := Lib.hid ha'
  clear ha ha'
  go_enter Tryd.func41, Tryd.ntmps41
  go_wp2
  go_loopw [5] (fun i wr => ∃ k : Nat, k ≤ xs.length ∧ i = .int .i64 k ∧ Below w.heap.size w wr) (fun i _ => xs.length - (intOf i).toNat)
  case atStart => exact ⟨0, Nat.zero_le _, rfl, Below.refl _ _⟩
  case round =>
    obtain ⟨k, hk, rfl, hb⟩ := hrel
    by_cases hlt : k < xs.length
    · have hne : xs ≠ [] := by rintro rfl; simp at hlt
      obtain ⟨⟨⟨s, b⟩, n⟩, hx⟩ : ∃ x, xs[k]? = some x := ⟨xs[k], List.getElem?_eq_getElem hlt⟩
      rcases HA.out with h | ⟨A, off, rfl, hA, hc⟩
      · exact absurd h hne
      rcases HA'.out with h | ⟨A', off', rfl, hA', hc'⟩
      · exact absurd h hne
      obtain ⟨d0, d1, d2⟩ := hc k _ hx
      obtain ⟨d0', d1', d2'⟩ := hc' k _ hx
      have e1 : wr.cell? ⟨A, off + k * 3, none⟩ = some (.int .i64 s) := (hb.cell (p := ⟨A, off + k * 3, none⟩) hA).trans d0
      have e2 : wr.cell? ⟨A, off + k * 3 + 1, none⟩ = some (.bool b) := (hb.cell (p := ⟨A, off + k * 3 + 1, none⟩) hA).trans d1
      have e3 : wr.cell? ⟨A, off + k * 3 + 2, none⟩ = some (.int .i64 n) := (hb.cell (p := ⟨A, off + k * 3 + 2, none⟩) hA).trans d2
      have e4 : wr.cell? ⟨A', off' + k * 3, none⟩ = some (.int .i64 s) := (hb.cell (p := ⟨A', off' + k * 3, none⟩) hA').trans d0'
      have e5 : wr.cell? ⟨A', off' + k * 3 + 1, none⟩ = some (.bool b) := (hb.cell (p := ⟨A', off' + k * 3 + 1, none⟩) hA').trans d1'
      have e6 : wr.cell? ⟨A', off' + k * 3 + 2, none⟩ = some (.int .i64 n) := (hb.cell (p := ⟨A', off' + k * 3 + 2, none⟩) hA').trans d2'
      have hk0 : (0 : Int) ≤ (k : Int) := by omega
      have hk1 : (k : Int) < (xs.length : Int) := by omega
      clear hc hc' hne hx d0 d1 d2 d0' d1' d2'
      go_wp2
      go_quiet (fail)
      go_wp2
      go_roundw
      case rel => exact ⟨k + 1, by omega, by go_num, ⟨hb.os, hb.tape, hb.output, hb.size, hb.block⟩⟩
      case measure => simp [intOf]; omega
    · go_wp2
      go_ret
      exact ⟨rfl, hb⟩

end Go.Proofs.YticapinlnlpbpaaDoor

namespace Go.Proofs.YticapinlnlpbpaaDoor
open Go.RowKit
set_option maxRecDepth 100000
set_option linter.unusedVariables false

theorem sameTones_yes (lo hi lo' hi' : Nat) (v u : Value) (xs : List (Int × Bool)) (w : World) (h : TRow w lo hi v xs) (k : TRow w lo' hi' u xs) :
    Calls Tryd.prog 43 #[v, u] w fun e w' => e = .returned (.bool true) ∧ Below w.heap.size w w' := by
  rcases h.form with ⟨rfl, rfl⟩ | ⟨g, cap, rfl, hg, hg2, hgs, hcap, hmax, hc⟩
  · rcases k.form with ⟨rfl, _⟩ | ⟨g', cap', rfl, _, _, _, _, _, _⟩
    all_goals
      go_enter Tryd.func43, Tryd.ntmps43
      go_wp2
      go_rounds 1
      go_ret
      exact ⟨rfl, Below.refl _ _⟩
  · rcases k.form with ⟨rfl, hx⟩ | ⟨g', cap', rfl, hg', hg2', hgs', hcap', hmax', hc'⟩
    · subst hx
      go_enter Tryd.func43, Tryd.ntmps43
      go_wp2
      go_rounds 1
      go_ret
      exact ⟨rfl, Below.refl _ _⟩
    · unfold maxLen at hmax hmax'
      have hlen : xs.length ≤ 9223372036854775807 := by omega
      have HG : Hid (∀ i, i < xs.length → ∃ s b, xs[i]? = some (s, b)) := fun i hi => ⟨xs[i].1, xs[i].2, List.getElem?_eq_getElem hi⟩
      clear h k
      generalize hn : xs.length = n at *
      clear hn
      have HC := Lib.hid hc
      have HC' := Lib.hid hc'
      clear hc hc'
      go_enter Tryd.func43, Tryd.ntmps43
      go_wp2
      go_loopw [5] (fun i wr => ∃ k : Nat, k ≤ n ∧ i = .int .i64 k ∧ Below w.heap.size w wr) (fun i _ => n - (intOf i).toNat)
      case atStart => exact ⟨0, Nat.zero_le _, rfl, Below.refl _ _⟩
      case round =>
        obtain ⟨k, hk, rfl, hb⟩ := hrel
        by_cases hlt : k < n
        · obtain ⟨s, b, hg0⟩ := HG.out k hlt
          have e1 : wr.cell? ⟨g, k * 2, none⟩ = some (.int .i64 s) := (hb.cell (p := ⟨g, k * 2, none⟩) hgs).trans (HC.out k _ hg0).1
          have e2 : wr.cell? ⟨g, k * 2 + 1, none⟩ = some (.bool b) := (hb.cell (p := ⟨g, k * 2 + 1, none⟩) hgs).trans (HC.out k _ hg0).2
          have e3 : wr.cell? ⟨g', k * 2, none⟩ = some (.int .i64 s) := (hb.cell (p := ⟨g', k * 2, none⟩) hgs').trans (HC'.out k _ hg0).1
          have e4 : wr.cell? ⟨g', k * 2 + 1, none⟩ = some (.bool b) := (hb.cell (p := ⟨g', k * 2 + 1, none⟩) hgs').trans (HC'.out k _ hg0).2
          have hk0 : (0 : Int) ≤ (k : Int) := by omega
          have hk1 : (k : Int) < (n : Int) := by omega
          clear hg0
          go_wp2
          go_quiet (fail)
          all_goals
            go_wp2
            go_roundw
            case rel => exact ⟨k + 1, by omega, by go_num, by first | exact hb | exact hb.drew | exact ⟨hb.os, hb.tape, hb.output, hb.size, hb.block⟩⟩
            case measure => simp [intOf]; omega
        · go_wp2
          go_ret
          exact ⟨rfl, hb⟩

def DrewMel (most : Nat) (w : World) (e : Ending) (w' : World) : Prop :=
  ∃ v xs, e = .returned v ∧ TRow w' w.heap.size w'.heap.size v xs ∧ xs.length ≤ most ∧ Below w.heap.size w w'
theorem drewMel {B A q most : Nat} {w w1 w2 : World} {v : Value} {xs : List (Int × Bool)} (h : DmInv w1 w2 B A q v xs) (hl : xs.length ≤ most) (hb : Below w.heap.size w w1) (hB : w.heap.size ≤ B) : DrewMel most w (.returned v) w2 :=
  ⟨v, xs, rfl, ⟨tmono h.own hb.size, fun g hg => (h.own.lt g hg).2⟩, hl, below_gb hb h.gb hB⟩

end Go.Proofs.YticapinlnlpbpaaDoor

namespace Go.Proofs.YticapinlnlpbpaaDoor
open Go.RowKit
set_option maxRecDepth 100000
set_option linter.unusedVariables false

def sl (l : List Int) (k : Int) : Int := l.getD k.toNat 0
theorem sl_list {l : List Int} {k : Int} (h0 : 0 ≤ k) (h1 : k < l.length) : (l.map (Value.int .i64))[k.toNat]? = some (.int .i64 (sl l k)) := by
  have h : k.toNat < l.length := by omega
  simp [sl, List.getD_eq_getElem?_getD, h]
theorem sl_arr {l : List Int} {k : Int} (h0 : 0 ≤ k) (h1 : k < l.length) : ((l.map (Value.int .i64)).toArray)[k.toNat]? = some (.int .i64 (sl l k)) := by
  rw [List.getElem?_toArray]; exact sl_list h0 h1
theorem sl_get {l : List Int} {k : Int} (h0 : 0 ≤ k) (h1 : k < l.length) (h : k.toNat < (l.map (Value.int .i64)).length) : (l.map (Value.int .i64))[k.toNat] = .int .i64 (sl l k) := by
  have e := sl_list h0 h1
  rw [List.getElem?_eq_getElem h] at e
  exact Option.some.inj e
theorem sl_cell {w : World} {b : Nat} {l : List Int} {k : Int} (h0 : 0 ≤ k) (h1 : k < l.length) (c : ∀ j, j < l.length → w.cell? ⟨b, j, none⟩ = some (.int .i64 (l.getD j 0))) : w.cell? ⟨b, k.toNat, none⟩ = some (.int .i64 (sl l k)) := c _ (by omega)
theorem sl_bd {l : List Int} {k : Int} (h : ∀ x, x ∈ l → -9223372036854775808 ≤ x ∧ x ≤ 9223372036854775807) : -9223372036854775808 ≤ sl l k ∧ sl l k ≤ 9223372036854775807 := by
  unfold sl
  rw [List.getD_eq_getElem?_getD]
  cases e : l[k.toNat]? with
  | none => exact ⟨by decide, by decide⟩
  | some x => exact h x (List.mem_of_getElem? e)
theorem ten_cell {w : World} {b : Nat} {k : Int} {x0 x1 x2 x3 x4 x5 x6 x7 x8 x9 : Int} (h0 : 0 ≤ k) (h1 : k < 10) (c0 : w.cell? ⟨b, 0, none⟩ = some (.int .i64 x0)) (c1 : w.cell? ⟨b, 1, none⟩ = some (.int .i64 x1)) (c2 : w.cell? ⟨b, 2, none⟩ = some (.int .i64 x2)) (c3 : w.cell? ⟨b, 3, none⟩ = some (.int .i64 x3)) (c4 : w.cell? ⟨b, 4, none⟩ = some (.int .i64 x4)) (c5 : w.cell? ⟨b, 5, none⟩ = some (.int .i64 x5)) (c6 : w.cell? ⟨b, 6, none⟩ = some (.int .i64 x6)) (c7 : w.cell? ⟨b, 7, none⟩ = some (.int .i64 x7)) (c8 : w.cell? ⟨b, 8, none⟩ = some (.int .i64 x8)) (c9 : w.cell? ⟨b, 9, none⟩ = some (.int .i64 x9)) : w.cell? ⟨b, k.toNat, none⟩ = some (.int .i64 (sl [x0, x1, x2, x3, x4, x5, x6, x7, x8, x9] k)) := by
  refine sl_cell h0 (by simpa using h1) fun j hj => ?_
  match j, hj with
  | 0, _ => exact c0
  | 1, _ => exact c1
  | 2, _ => exact c2
  | 3, _ => exact c3
  | 4, _ => exact c4
  | 5, _ => exact c5
  | 6, _ => exact c6
  | 7, _ => exact c7
  | 8, _ => exact c8
  | 9, _ => exact c9

end Go.Proofs.YticapinlnlpbpaaDoor

namespace Go.Proofs.YticapinlnlpbpaaDoor
open Go.RowKit Go.ChangeShapes Go.WideShapes Go.ChangeAt
set_option maxRecDepth 100000
set_option linter.unusedVariables false

/-- a list of voices and a number of a draw -/
def DrewDm (w : World) (e : Ending) (w' : World) : Prop :=
  ∃ (v : Value) (xs : List Vc) (k : Int), e = .returned (.tuple #[v, .int .i64 k]) ∧ VV w' v xs ∧ Below w.heap.size w w'
theorem drewDm_e {w w3 w4 : World} {B lo hi : Nat} {v : Value} {xs : List Vc} {k : Int} {e : Ending} (he : e = .returned (.tuple #[v, .int .i64 k])) (hr : VRow w3 lo hi v xs) (hg : w3.grownBy w4 (some B)) (hB : B < lo) (hb : Below w.heap.size w w3) (hw : w.heap.size ≤ B) : DrewDm w e w4 :=
  ⟨v, xs, k, he, (vrow_gb hr hg hB).view, below_gb hb hg hw⟩
theorem sev_cell {w : World} {b : Nat} {k : Int} {x0 x1 x2 x3 x4 x5 x6 : Int} (h0 : 0 ≤ k) (h1 : k < 7) (c0 : w.cell? ⟨b, 0, none⟩ = some (.int .i64 x0)) (c1 : w.cell? ⟨b, 1, none⟩ = some (.int .i64 x1)) (c2 : w.cell? ⟨b, 2, none⟩ = some (.int .i64 x2)) (c3 : w.cell? ⟨b, 3, none⟩ = some (.int .i64 x3)) (c4 : w.cell? ⟨b, 4, none⟩ = some (.int .i64 x4)) (c5 : w.cell? ⟨b, 5, none⟩ = some (.int .i64 x5)) (c6 : w.cell? ⟨b, 6, none⟩ = some (.int .i64 x6)) : w.cell? ⟨b, k.toNat, none⟩ = some (.int .i64 (sl [x0, x1, x2, x3, x4, x5, x6] k)) := by
  refine sl_cell h0 (by simpa using h1) fun j hj => ?_
  match j, hj with
  | 0, _ => exact c0
  | 1, _ => exact c1
  | 2, _ => exact c2
  | 3, _ => exact c3
  | 4, _ => exact c4
  | 5, _ => exact c5
  | 6, _ => exact c6
set_option maxHeartbeats 4000000 in
theorem drawDiscantMove_any (a : Option Addr) (n cap : Nat) (w : World) (h : CodeAt w a n) (hc : n ≤ cap) (hcap : cap ≤ maxLen) :
    Calls Tryd.prog 40 #[.slice a n cap] w (DrewDm w) := by
  go_enter Tryd.func40, Tryd.ntmps40
  go_wp2_with (fail)
  (go_at_call 62; refine (open_any a n cap _ h hc hcap).mono ?_; rintro e w1 ⟨A, rfl, hr1, hb1, hs1⟩)
  have hB1 := hr1.lt
  go_wp2_with (fail)
  (go_at_call 72; refine (pick_any 10 w.heap.size A 0 (by omega) (by omega) (by omega) _ hr1).mono ?_; rintro e w2 ⟨k2, rfl, h20, h21, hr2, hb2⟩)
  obtain ⟨kn, rfl⟩ : ∃ q : Nat, k2 = (q : Int) := ⟨k2.toNat, by omega⟩
  have hz2 := hb2.size
  go_wp2_with (fail)
  (go_at_call 71; refine (l92Part_any w.heap.size A 1 kn (by omega) (by omega) _ hr2).mono ?_; rintro e w3 ⟨v, xs, rfl, hd, hxl⟩)
  have HE := Lib.hid (below_gb (below_gb hb1 hb2 (Nat.le_refl _)) hd.gb (Nat.le_refl _))
  have HR := Lib.hid hd.row
  have hBlt : w.heap.size < w2.heap.size := by omega
  have hr3 := hd.rd
  have hB3 := hr3.lt
  have hA3 := hr3.ltA
  clear hr1 hb1 hr2 hb2 hd
  go_wp2
  go_region_with ((go_at_call 72; refine (pick_any 7 w.heap.size A (1 + 40) ?_ ?_ ?_ _ ?_).mono ?_; (focus omega); (focus omega); (focus omega); (focus ((repeat' (first | (with_reducible refine Rd.set_ ?_ ?_ ?_ _) | (with_reducible refine Rd.alloc ?_ _) | (with_reducible refine Rd.drew ?_) | (refine Rd.more (by assumption) ?_; (first | omega | (simp; omega))) | (show _ ≠ _; (first | omega | (simp; omega))))); done)); rintro e w4 ⟨k4, rfl, h40, h41, hr4, hb4⟩; obtain ⟨hc4, hf4, hz4⟩ := bg hb4; (try simp at hz4); (try (refine got (p := w3.heap.size < w4.heap.size) ?_ ?_; (focus (go_size; done)); intro q4_w30)); (try (refine got (p := w4.cell? ⟨w3.heap.size, 0, none⟩ = some (.int .i64 (-7))) ?_ ?_; (focus (refine (hc4 _ _ ?_ ?_).trans ?_; (focus (go_size; done)); (focus (first | omega | (simp; omega))); go_simp; done)); intro c4_w30_0)); (try (refine got (p := w4.cell? ⟨w3.heap.size, 1, none⟩ = some (.int .i64 (-4))) ?_ ?_; (focus (refine (hc4 _ _ ?_ ?_).trans ?_; (focus (go_size; done)); (focus (first | omega | (simp; omega))); go_simp; done)); intro c4_w30_1)); (try (refine got (p := w4.cell? ⟨w3.heap.size, 2, none⟩ = some (.int .i64 (-3))) ?_ ?_; (focus (refine (hc4 _ _ ?_ ?_).trans ?_; (focus (go_size; done)); (focus (first | omega | (simp; omega))); go_simp; done)); intro c4_w30_2)); (try (refine got (p := w4.cell? ⟨w3.heap.size, 3, none⟩ = some (.int .i64 0)) ?_ ?_; (focus (refine (hc4 _ _ ?_ ?_).trans ?_; (focus (go_size; done)); (focus (first | omega | (simp; omega))); go_simp; done)); intro c4_w30_3)); (try (refine got (p := w4.cell? ⟨w3.heap.size, 4, none⟩ = some (.int .i64 3)) ?_ ?_; (focus (refine (hc4 _ _ ?_ ?_).trans ?_; (focus (go_size; done)); (focus (first | omega | (simp; omega))); go_simp; done)); intro c4_w30_4)); (try (refine got (p := w4.cell? ⟨w3.heap.size, 5, none⟩ = some (.int .i64 4)) ?_ ?_; (focus (refine (hc4 _ _ ?_ ?_).trans ?_; (focus (go_size; done)); (focus (first | omega | (simp; omega))); go_simp; done)); intro c4_w30_5)); (try (refine got (p := w4.cell? ⟨w3.heap.size, 6, none⟩ = some (.int .i64 7)) ?_ ?_; (focus (refine (hc4 _ _ ?_ ?_).trans ?_; (focus (go_size; done)); (focus (first | omega | (simp; omega))); go_simp; done)); intro c4_w30_6)); (try (refine got (p := ∀ o, w4.frozen? ⟨w3.heap.size, o, none⟩ = false) ?_ ?_; (focus (intro o; refine (hf4 _ _ ?_ ?_).trans ?_; (focus (go_size; done)); (focus (first | omega | (simp; omega))); go_simp; done)); intro f4_w30)); clear hc4 hf4); (try have hx := sev_cell h40 h41 c4_w30_0 c4_w30_1 c4_w30_2 c4_w30_3 c4_w30_4 c4_w30_5 c4_w30_6); have hx2 : (#[.int .i64 (-7), .int .i64 (-4), .int .i64 (-3), .int .i64 0, .int .i64 3, .int .i64 4, .int .i64 7] : Array Value)[k4.toNat]? = some (.int .i64 (sl [-7, -4, -3, 0, 3, 4, 7] k4)) := sl_arr (l := [-7, -4, -3, 0, 3, 4, 7]) h40 h41; have hx3 : ([.int .i64 (-7), .int .i64 (-4), .int .i64 (-3), .int .i64 0, .int .i64 3, .int .i64 4, .int .i64 7] : List Value)[k4.toNat]? = some (.int .i64 (sl [-7, -4, -3, 0, 3, 4, 7] k4)) := sl_list (l := [-7, -4, -3, 0, 3, 4, 7]) h40 h41; have hx4 : ∀ h : k4.toNat < ([.int .i64 (-7), .int .i64 (-4), .int .i64 (-3), .int .i64 0, .int .i64 3, .int .i64 4, .int .i64 7] : List Value).length, ([.int .i64 (-7), .int .i64 (-4), .int .i64 (-3), .int .i64 0, .int .i64 3, .int .i64 4, .int .i64 7] : List Value)[k4.toNat] = .int .i64 (sl [-7, -4, -3, 0, 3, 4, 7] k4) := fun h => sl_get (l := [-7, -4, -3, 0, 3, 4, 7]) h40 h41 h)
  all_goals go_wp2
  all_goals go_ret2
  all_goals exact (by first | exact drewDm_e (k := sl [-7, -4, -3, 0, 3, 4, 7] k4) (by first | rfl | simp [hx4]) HR.out (gb_step (gb_alloc (gb_drew (gb_refl _ _)) _) hb4) hBlt HE.out (Nat.le_refl _) | exact drewDm_e (k := sl [-7, -4, -3, 0, 3, 4, 7] k4) (by first | rfl | simp [hx4]) HR.out (gb_alloc (gb_step (gb_drew (gb_refl _ _)) hb4) _) hBlt HE.out (Nat.le_refl _))
theorem TbInv.from_ {w w1 wr : World} {v : Value} {xs : List (Int × Bool)} (h : TbInv w1 wr v xs) (hb : Below w.heap.size w w1) : TbInv w wr v xs := by
  obtain ⟨⟨hl, hr⟩, hbl⟩ := h
  refine ⟨⟨hl, ?_⟩, bl_step hb hbl⟩
  rcases hr with h0 | ⟨g, cap, cur, hv, hg, hr⟩
  · exact .inl h0
  · exact .inr ⟨g, cap, cur, hv, Nat.le_trans hb.size hg, hr⟩

set_option maxHeartbeats 8000000 in
theorem fnDiscantMove_walk (a : Option Addr) (n cap : Nat) (w : World) (h : CodeAt w a n) (hc : n ≤ cap) (hcap : cap ≤ maxLen) (ht : TwoTab w) :
    Calls Tryd.prog 11 #[.slice a n cap] w fun e w' => e = .returned (.bool true) ∧ Below w.heap.size w w' := by
  obtain ⟨i0, hi0, hq0, hq1, hq2⟩ := info_parts infoTone
  by_cases hn : 1048576 < n
  · have g : (1048576 : Int) < (n : Int) := by omega
    clear ht
    go_enter Tryd.func11, Tryd.ntmps11
    go_wp2
    go_ret
    exact ⟨rfl, Below.refl _ _⟩
  have g : decide ((1048576 : Int) < (n : Int)) = false := by simp; omega
  have gn : decide (1048576 < n) = false := decide_eq_false hn
  have HT := Lib.hid ht
  clear ht
  go_enter Tryd.func11, Tryd.ntmps11
  go_wp2_with (fail)
  (go_at_call 40; refine (drawDiscantMove_any a n cap _ h hc hcap).mono ?_; rintro e w1 ⟨v, xs, k, rfl, hv, hb1⟩)
  clear h hc hcap g hn gn
  have HV1 := Lib.hid hv
  have HW1 := Lib.hid hb1
  have HI := Lib.hid (fun w h t => discantMove_any v k xs w h t)
  have HS := Lib.hid (fun w h => sDiscantMove_any v k xs w h)
  have HSV := Lib.hid (fun p q w h k' => sameVoicesV_yes p q (dmL k xs) w h k')
  unfold VBuilt2 at HI HS
  clear hv hb1
  cases hok : dmOk k xs with
  | false =>
    rw [hok] at HI HS
    clear hok
    generalize dmL k xs = zs at HI HS HSV
    go_wp2_with (fail)
    (go_at_call 26; refine (HI.out _ HV1.out (HT.out.below HW1.out).1).mono ?_; rintro e w2 ⟨vo, rfl, ro, hb2⟩)
    have HV2 := Lib.hid (HV1.out.below hb2)
    have HO2 := Lib.hid ro.view
    have HW2 := Lib.hid (bl_step HW1.out hb2)
    clear hb2 ro
    go_wp2_with (fail)
    (go_at_call 25; refine (HS.out _ HV2.out).mono ?_; rintro e w3 ⟨vs, rfl, rs, hb3⟩)
    have HO3 := Lib.hid (HO2.out.below hb3)
    have HS3 := Lib.hid rs.view
    have HW3 := Lib.hid (bl_step HW2.out hb3)
    clear hb3 rs
    go_wp2_with (fail)
    (go_at_call 41; refine (HSV.out _ _ _ HO3.out HS3.out).mono ?_; rintro e w4 ⟨rfl, hb4⟩)
    have HO4 := Lib.hid (HO3.out.below hb4)
    have HS4 := Lib.hid (HS3.out.below hb4)
    have HW4 := Lib.hid (bl_step HW3.out hb4)
    clear hb4
    go_wp2_with (fail)
    (go_at_call 41; refine (HSV.out _ _ _ HO4.out HS4.out).mono ?_; rintro e w5 ⟨rfl, hb5⟩)
    have HW5 := Lib.hid (bl_step HW4.out hb5)
    clear hb5
    go_wp2
    go_ret
    exact ⟨rfl, HW5.out⟩
  | true =>
    obtain ⟨hpv, hmm⟩ := dm_in hok
    obtain ⟨_, htn, hbt, hzl⟩ := dm_part hok
    have l12 := (pval_in hpv).2.1
    have hTg := dm_self hok
    have hCt := dm_dct hok
    have hPl := dm_dpl hok
    have HTG := Lib.hid (fun q w h h2 => discantTogether_any v q xs (dmL k xs) w h h2)
    have HCT := Lib.hid (fun q w h h2 => discantContrary_any v q xs (dmL k xs) w h h2)
    have HPL := Lib.hid (fun q w h h2 t => discantParallels_any v q xs (dmL k xs) w h h2 t)
    have HPS := Lib.hid (fun w h t => discantParallels_any v v xs xs w h h t)
    have HMM := Lib.hid (fun lo hi q w h t => melodyMove_any lo hi q (tns xs) k w h t)
    unfold TBuilt2 at HMM
    rw [hTg] at HTG
    rw [hCt] at HCT
    rw [hmm, ← htn] at HMM
    rw [hok] at HI HS
    have HBT := Lib.hid hbt
    clear hok hpv hmm htn hbt hTg hCt
    generalize dmL k xs = zs at HI HS HSV HTG HCT HPL HMM HBT hzl hPl
    generalize dpl xs zs = pz at HPL hPl
    generalize dpl xs xs = px at HPS hPl
    have gp : decide (pz ≤ px) = true := decide_eq_true hPl
    have HZL := Lib.hid hzl
    clear hzl
    go_wp2_with (fail)
    (go_at_call 26; refine (HI.out _ HV1.out (HT.out.below HW1.out).1).mono ?_; rintro e w2 ⟨vo, rfl, ro, hb2⟩)
    have HV2 := Lib.hid (HV1.out.below hb2)
    have HO2 := Lib.hid ro.view
    have HW2 := Lib.hid (bl_step HW1.out hb2)
    clear hb2 ro
    go_wp2_with (fail)
    (go_at_call 25; refine (HS.out _ HV2.out).mono ?_; rintro e w3 ⟨vs, rfl, rs, hb3⟩)
    have HV3 := Lib.hid (HV2.out.below hb3)
    have HO3 := Lib.hid (HO2.out.below hb3)
    have HS3 := Lib.hid rs.view
    have HW3 := Lib.hid (bl_step HW2.out hb3)
    clear hb3 rs
    go_wp2_with (fail)
    (go_at_call 41; refine (HSV.out _ _ _ HO3.out HS3.out).mono ?_; rintro e w4 ⟨rfl, hb4⟩)
    have HV4 := Lib.hid (HV3.out.below hb4)
    have HO4 := Lib.hid (HO3.out.below hb4)
    have HW4 := Lib.hid (bl_step HW3.out hb4)
    clear hb4 HV1 HV2 HV3 HO2 HO3 HS3 HW1 HW2 HW3 HI HS HSV
    obtain ⟨av, cv, rfl⟩ : ∃ av cv, v = .slice av xs.length cv := by obtain ⟨av, cv, e, _⟩ := HV4.out; exact ⟨av, cv, e⟩
    obtain ⟨ao, co, rfl⟩ : ∃ ao co, vo = .slice ao xs.length co := by obtain ⟨ao, co, e, _⟩ := HO4.out; rw [HZL.out] at e; exact ⟨ao, co, e⟩
    have HSa : Hid (TbInv w4 ((w4.alloc (.cells #[] 41)).alloc (.cells #[] 41)) (.slice (some ⟨w4.heap.size, 0, none⟩) 0 0) (tns (xs.take 0))) := (TbInv.start w4).below ((Below.refl _ _).alloc (Nat.le_refl _) _)
    have HSb : Hid (TbInv w4 ((w4.alloc (.cells #[] 41)).alloc (.cells #[] 41)) (.slice (some ⟨w4.heap.size + 1, 0, none⟩) 0 0) (tns (zs.take 0))) := by
      have h1 := (TbInv.start (w4.alloc (.cells #[] 41))).from_ ((Below.refl w4.heap.size w4).alloc (Nat.le_refl _) _)
      rw [show (w4.alloc (.cells #[] 41)).heap.size = w4.heap.size + 1 by simp] at h1
      exact h1
    go_wp2
    go_loopw [9, 10, 11] (fun q r i wr => ∃ j : Nat, j ≤ xs.length ∧ i = .int .i64 (j : Int) ∧ TbInv w4 wr q (tns (xs.take j)) ∧ TbInv w4 wr r (tns (zs.take j)) ∧ ∃ gq gr, q.ownBlock = some gq ∧ r.ownBlock = some gr ∧ gq ≠ gr) (fun _ _ i _ => xs.length - (intOf i).toNat)
    case atStart => exact ⟨0, by omega, rfl, HSa.out, HSb.out, w4.heap.size, w4.heap.size + 1, rfl, rfl, by omega⟩
    case round =>
      obtain ⟨j, hj, rfl, hinv, hinw, gq, gr, hgq, hgr, hgn⟩ := hrel
      clear HSa HSb
      by_cases hlt : j < xs.length
      · obtain ⟨⟨⟨s, b⟩, m⟩, hx⟩ : ∃ x, xs[j]? = some x := ⟨xs[j], List.getElem?_eq_getElem hlt⟩
        obtain ⟨⟨⟨s', b'⟩, m'⟩, hz⟩ : ∃ x, zs[j]? = some x := ⟨zs[j]'(by rw [HZL.out]; exact hlt), List.getElem?_eq_getElem (by rw [HZL.out]; exact hlt)⟩
        have hm : m' = m := by
          have e := congrArg (fun l => l[j]?) HBT.out
          simp only [bts8, List.getElem?_map, hx, hz, Option.map_some, Option.some.injEq] at e
          exact e
        subst hm
        obtain ⟨_, _, e0, hav, _, _⟩ := HV4.out
        injection e0 with e1 e2 e3
        subst e1 e3
        clear e2
        obtain ⟨_, _, e0, hao, _, _⟩ := HO4.out
        injection e0 with e1 e2 e3
        subst e1 e3
        clear e2
        rcases hav with h0 | ⟨A, off, rfl, hA, hcz⟩
        · subst h0; simp at hlt
        rcases hao with h0 | ⟨C, of2, rfl, hC, hco⟩
        · subst h0; simp at hz
        obtain ⟨e0, e1, e2⟩ := hcz j _ hx
        obtain ⟨c0, c1, c2⟩ := hco j _ hz
        have d0 := (hinv.bl.cell (p := ⟨A, off + j * 3, none⟩) hA).trans e0
        have d1 := (hinv.bl.cell (p := ⟨A, off + j * 3 + 1, none⟩) hA).trans e1
        have HE2 := Lib.hid e2
        have HC0 := Lib.hid c0
        have HC1 := Lib.hid c1
        have HC2 := Lib.hid c2
        have HX := Lib.hid (tns_take hx)
        have HZ := Lib.hid (tns_take hz)
        have hlen : (tns (xs.take j)).length = j := by rw [tns_len, List.length_take]; omega
        have hlen2 : (tns (zs.take j)).length = j := by have := HZL.out; rw [tns_len, List.length_take]; omega
        have hown := hinv.own
        rw [hlen] at hown
        have hk0 : (0 : Int) ≤ (j : Int) := by omega
        have hk1 : (j : Int) < (xs.length : Int) := by omega
        have HN := Lib.hid hinv
        have HM := Lib.hid hinw
        have hws := hinv.bl.size
        have HGQ := Lib.hid hgq
        have HGR := Lib.hid hgr
        have hgrl := (own_ltb hinw.own hgr).2
        have HNB : Hid ((wr.alloc (.cells #[.int .i64 s, .bool b] 41)).heap[wr.heap.size]? = some (.cells #[.int .i64 s, .bool b] 41 (0, 0))) := heap_alloc_new wr (.cells #[.int .i64 s, .bool b] 41)
        clear hx hz hcz hco hinv hinw e0 e1 e2 c0 c1 c2 hgq hgr
        go_wp2_with (at_builtin; refine wpList_append_lies _ rfl _ _ 52 rfl w4.heap.size 41 i0 (.agg #[.int .i64 0, .bool false]) 2 16 Tryd.underlying52 hi0 hq0 hq1 hq2 rfl (by decide) _ _ _ rfl (hown.alloc _) ⟨wr.heap.size, 0, none⟩ 1 1 [.int .i64 s, .bool b] rfl rfl (World.news_of_block HNB.out) (by simp [Value.oneCell']) (by decide) (by unfold maxLen; omega) (by omega) (by simp; omega) (wr.heap.size + 1) (by simp) ?_)
        intro gg capg w5 hown' hgrow hat hltg
        have hq := TbInv.app (s := s) (b := b) HN.out (by rw [hlen]; exact hown') hgrow
        have hr := HM.out.kept_ hgrow (.inr (by rw [HGR.out, HGQ.out]; intro e; injection e with e; exact hgn e.symm)) (fun k hk => (own_ltb HN.out.own hk).1)
        rw [← HX.out] at hq
        have HQ := Lib.hid hq
        have HR := Lib.hid hr
        have hown2 := hr.own
        rw [hlen2] at hown2
        have hw5 := hr.bl.size
        have hggr : gg ≠ gr := by
          rcases hat with e | e
          · rw [HGQ.out] at e; injection e with e; omega
          · omega
        have d2 := (hr.bl.cell (p := ⟨C, of2 + j * 3, none⟩) hC).trans HC0.out
        have d3 := (hr.bl.cell (p := ⟨C, of2 + j * 3 + 1, none⟩) hC).trans HC1.out
        have HNC : Hid ((w5.alloc (.cells #[.int .i64 s', .bool b'] 41)).heap[w5.heap.size]? = some (.cells #[.int .i64 s', .bool b'] 41 (0, 0))) := heap_alloc_new w5 (.cells #[.int .i64 s', .bool b'] 41)
        have HL5 := Lib.hid hltg
        clear hown' hgrow hown HN HM hq hr d0 d1 hat hltg hgn
        go_wp2_with (at_builtin; refine wpList_append_lies _ rfl _ _ 52 rfl w4.heap.size 41 i0 (.agg #[.int .i64 0, .bool false]) 2 16 Tryd.underlying52 hi0 hq0 hq1 hq2 rfl (by decide) _ _ _ rfl (hown2.alloc _) ⟨w5.heap.size, 0, none⟩ 1 1 [.int .i64 s', .bool b'] rfl rfl (World.news_of_block HNC.out) (by simp [Value.oneCell']) (by decide) (by unfold maxLen; omega) (by omega) (by simp; omega) (w5.heap.size + 1) (by simp) ?_)
        intro g6 cap6 w6 hown6 hgrow6 hat6 hlt6
        have hr6 := TbInv.app (s := s') (b := b') HR.out (by rw [hlen2]; exact hown6) hgrow6
        have hq6 := HQ.out.kept_ hgrow6 (.inr (by rw [HGR.out]; intro e; have e9 : gg = gr := (by simpa [Value.ownBlock] using e); exact hggr e9)) (fun k hk => (own_ltb HR.out.own hk).1)
        rw [← HZ.out] at hr6
        have hg6 : gg ≠ g6 := by
          have hl := HL5.out
          rcases hat6 with e | e
          · rw [HGR.out] at e; injection e with e; omega
          · omega
        have f0 := (hr6.bl.cell (p := ⟨A, off + j * 3 + 2, none⟩) hA).trans HE2.out
        have f1 := (hr6.bl.cell (p := ⟨C, of2 + j * 3 + 2, none⟩) hC).trans HC2.out
        have HQ6 := Lib.hid hq6
        have HR6 := Lib.hid hr6
        clear hown6 hgrow6 hown2 hq6 hr6 HQ HR d2 d3 hat6 hlt6
        go_wp2
        go_quiet (fail)
        go_wp2
        go_roundw
        case rel => exact ⟨j + 1, by omega, by go_num, HQ6.out.below (bl_dn8 _ _), HR6.out.below (bl_dn8 _ _), gg, g6, rfl, rfl, hg6⟩
        case measure => simp [intOf]; omega
      · have hjl : j = xs.length := by omega
        have hzt : zs.take j = zs := List.take_of_length_le (by have := HZL.out; omega)
        rw [hzt] at hinw
        subst hjl
        rw [List.take_length] at hinv
        have hbl := hinv.bl
        have HVR := Lib.hid (HV4.out.below hbl)
        have HOR := Lib.hid (HO4.out.below hbl)
        have HWR := Lib.hid (bl_step HW4.out hbl)
        have HQ := Lib.hid hinv.row
        have HR := Lib.hid hinw.row
        clear hinv hinw hzt hbl HV4 HO4 HW4 hgq hgr hgn
        go_wp2_with (fail)
        (go_at_call 42; refine (HMM.out _ _ _ _ HQ.out (HT.out.below HWR.out).1).mono ?_; rintro e w5 ⟨y, rfl, ry, hb5⟩)
        have HV5 := Lib.hid (HVR.out.below hb5)
        have HO5 := Lib.hid (HOR.out.below hb5)
        have HR5 := Lib.hid (HR.out.below hb5 (.inl (Nat.le_refl _)))
        have HY5 := Lib.hid ry
        have HW5 := Lib.hid (bl_step HWR.out hb5)
        clear hb5 ry
        go_wp2_with (fail)
        (go_at_call 43; refine (sameTones_yes _ _ _ _ _ _ (tns zs) _ HR5.out HY5.out).mono ?_; rintro e w6 ⟨rfl, hb6⟩)
        have HV6 := Lib.hid (HV5.out.below hb6)
        have HO6 := Lib.hid (HO5.out.below hb6)
        have HW6 := Lib.hid (bl_step HW5.out hb6)
        clear hb6
        go_wp2_with (fail)
        (go_at_call 44; refine (HTG.out _ _ HV6.out HO6.out).mono ?_; rintro e w7 ⟨rfl, hb7⟩)
        have HV7 := Lib.hid (HV6.out.below hb7)
        have HO7 := Lib.hid (HO6.out.below hb7)
        have HW7 := Lib.hid (bl_step HW6.out hb7)
        clear hb7
        go_wp2_with (fail)
        (go_at_call 36; refine (HCT.out _ _ HV7.out HO7.out).mono ?_; rintro e w8 ⟨rfl, hb8⟩)
        have HV8 := Lib.hid (HV7.out.below hb8)
        have HO8 := Lib.hid (HO7.out.below hb8)
        have HW8 := Lib.hid (bl_step HW7.out hb8)
        clear hb8
        go_wp2_with (fail)
        (go_at_call 24; refine (HPL.out _ _ HV8.out HO8.out (HT.out.below HW8.out)).mono ?_; rintro e w9 ⟨rfl, hb9⟩)
        have HV9 := Lib.hid (HV8.out.below hb9)
        have HW9 := Lib.hid (bl_step HW8.out hb9)
        clear hb9
        go_wp2_with (fail)
        (go_at_call 24; refine (HPS.out _ HV9.out (HT.out.below HW9.out)).mono ?_; rintro e w10 ⟨rfl, hb10⟩)
        have HW10 := Lib.hid (bl_step HW9.out hb10)
        clear hb10
        go_wp2
        go_ret
        exact ⟨rfl, HW10.out⟩
noncomputable def fnDiscantMove_world (os : Os) : World := { World.holding Tryd.prog os ⟨#[], #[], []⟩ with heap := ((((((World.holding Tryd.prog os ⟨#[], #[], []⟩).heap.modify 3 fun | .cells _ t frozen => .cells #[.int .u8 0, .int .u8 1, .int .u8 28, .int .u8 2, .int .u8 29, .int .u8 14, .int .u8 24, .int .u8 3, .int .u8 30, .int .u8 22, .int .u8 20, .int .u8 15, .int .u8 25, .int .u8 17, .int .u8 4, .int .u8 8, .int .u8 31, .int .u8 27, .int .u8 13, .int .u8 23, .int .u8 21, .int .u8 19, .int .u8 16, .int .u8 7, .int .u8 26, .int .u8 12, .int .u8 18, .int .u8 6, .int .u8 11, .int .u8 5, .int .u8 10, .int .u8 9] t frozen | o => o).modify 4 fun | .cells _ t frozen => .cells #[.int .u8 0, .int .u8 1, .int .u8 56, .int .u8 2, .int .u8 57, .int .u8 49, .int .u8 28, .int .u8 3, .int .u8 61, .int .u8 58, .int .u8 42, .int .u8 50, .int .u8 38, .int .u8 29, .int .u8 17, .int .u8 4, .int .u8 62, .int .u8 47, .int .u8 59, .int .u8 36, .int .u8 45, .int .u8 43, .int .u8 51, .int .u8 22, .int .u8 53, .int .u8 39, .int .u8 33, .int .u8 30, .int .u8 24, .int .u8 18, .int .u8 12, .int .u8 5, .int .u8 63, .int .u8 55, .int .u8 48, .int .u8 27, .int .u8 60, .int .u8 41, .int .u8 37, .int .u8 16, .int .u8 46, .int .u8 35, .int .u8 44, .int .u8 21, .int .u8 52, .int .u8 32, .int .u8 23, .int .u8 11, .int .u8 54, .int .u8 26, .int .u8 40, .int .u8 15, .int .u8 34, .int .u8 20, .int .u8 31, .int .u8 10, .int .u8 25, .int .u8 14, .int .u8 19, .int .u8 9, .int .u8 13, .int .u8 8, .int .u8 7, .int .u8 6] t frozen | o => o).modify 2 fun | .cells _ t frozen => .cells #[.int .u64 1, .int .u64 10, .int .u64 100, .int .u64 1000, .int .u64 10000, .int .u64 100000, .int .u64 1000000, .int .u64 10000000, .int .u64 100000000, .int .u64 1000000000, .int .u64 10000000000, .int .u64 100000000000, .int .u64 1000000000000, .int .u64 10000000000000, .int .u64 100000000000000, .int .u64 1000000000000000, .int .u64 10000000000000000, .int .u64 100000000000000000, .int .u64 1000000000000000000, .int .u64 10000000000000000000] t frozen | o => o).modify 1 fun | .cells _ t frozen => .cells #[.int .i64 0, .int .i64 2, .int .i64 4, .int .i64 5, .int .i64 7, .int .i64 9, .int .i64 10] t frozen | o => o).modify 0 fun | .cells _ t frozen => .cells #[.int .i64 0, .int .i64 1, .int .i64 3, .int .i64 5, .int .i64 7, .int .i64 8, .int .i64 10] t frozen | o => o) }
theorem fnDiscantMove_met (os : Os) : laidMet Tryd.prog Rows.fnDiscantMoveRow.laid ((fnDiscantMove_world os).forCall (fun _ _ => 0) ⟨#[], #[.slice none 0 0], []⟩).memory :=
  laidMet_of_run' 8 (by kernel_rfl) (by kernel_rfl)
theorem fnDiscantMove_reads (os : Os) {H : Type} (enc : TypeId × Value → H) : ∃ places, DataW.whole enc Tryd.prog ((fnDiscantMove_world os).forCall (fun _ _ => 0) ⟨#[], #[.slice none 0 0], []⟩).memory Tryd.f11.params.toList Rows.fnDiscantMoveSpec.vars false (#[.slice none 0 0] : Array Value).toList 8 = some ([.nil], [Rows.laid_loop_example_neumes_impl_stepHeights, Rows.laid_loop_example_neumes_impl_leastSemis], places) :=
  ⟨((DataW.whole enc Tryd.prog ((fnDiscantMove_world os).forCall (fun _ _ => 0) ⟨#[], #[.slice none 0 0], []⟩).memory Tryd.f11.params.toList Rows.fnDiscantMoveSpec.vars false (#[.slice none 0 0] : Array Value).toList 8).getD ([], [], [])).2.2, by kernel_rfl⟩
set_option maxRecDepth 100000 in
theorem fnDiscantMove_lifted (os : Os) (started : os.Started) (H : Type) (enc : TypeId × Value → H) (F : Stop.Interp) :
    ReturnsInHanded {} Tryd.checked os 11 .any ((OpenSpec.ofChange Rows.fnDiscantMoveSpec).preRow enc Tryd.prog Tryd.f11 Rows.fnDiscantMoveRow.domain false Rows.fnDiscantMoveRow.laid) (((OpenSpec.ofChange Rows.fnDiscantMoveSpec).at F).post enc Tryd.prog Tryd.f11 false true false false) := by
  obtain ⟨places, hx⟩ := fnDiscantMove_reads os enc
  refine returnsInHanded_of_row (C := Tryd.checked) (s := OpenSpec.ofChange Rows.fnDiscantMoveSpec) own started (by kernel_rfl) Tryd.func11
    (witness_row_at (enc := enc) (C := Tryd.checked) false (fnDiscantMove_world os) #[.slice none 0 0] rfl (by kernel_rfl) (by kernel_rfl) (by kernel_rfl)
      (OpenSpec.preRow_of_cond 8 hx (by kernel_rfl) (fun k hk => by cases hk) (by kernel_rfl) (fnDiscantMove_met os))) ?_
  intro W base args ds gs before hval0 hW _ _ _ hL _ _
  have hval : ∀ (j : Nat) t v, Tryd.f11.params[j]? = some t → args[j]? = some v → Value.okWide Tryd.prog W .any base t v := hval0
  have hW' := hW
  obtain ⟨p, q, hA0, hV, rfl, _, _⟩ := hW
  have hA : DataW.TrodAll enc Tryd.prog W 0 (fun _ => true) true Tryd.f11.params.toList args.toList ds p := hA0
  rw [Tryd.params11] at hA hval
  obtain ⟨v0, vs0, d0, ds0, p0, q0, hargs, rfl, rfl, h0, r0⟩ := trodAll_cons hA
  obtain ⟨rfl, rfl, rfl⟩ := trodAll_nil r0
  obtain rfl : args = #[v0] := by cases args; simp_all
  obtain ⟨g0, g1, rfl⟩ := vars2 hV
  obtain ⟨a0, n0, c0, rfl⟩ := okWide_slice Tryd.underlying37 (hval 0 37 v0 rfl rfl)
  have k0 := h0
  have lt0 : ∀ x ∈ p0, x.block < W.heap.size := by obtain ⟨m, hm⟩ := k0; exact DataW.trod_lt m _ _ _ hm
  have y0 := code_in h0
  clear hA0 hval0
  refine (fnDiscantMove_walk a0 n0 c0 W y0.1 y0.2.1 y0.2.2 (twoTab_at hL (.tail _ (.tail _ (.tail _ (.head _)))) (.tail _ (.tail _ (.tail _ (.tail _ (.head _))))))).mono fun e W' ⟨he, hb⟩ => ?_
  subst he
  exact ⟨_, rfl, _, _, _, [], _, _, hW', trodAll_cons_mk (shut_bool Tryd.underlying4 _) trodAll_mk0, trodAll_cons_mk (Below.trod laidOut (by kernel_rfl) (of_decide_eq_true (by kernel_rfl)) k0 hb lt0) (trodAll_mk0), hb.trodVars laidOut (by kernel_rfl) hV, hb.frame _, fun h => by cases h⟩

theorem fnDiscantMove_holds : Rows.FnDiscantMoveSaid :=
  OpenClaim.holds_of_cond 11 Tryd.f11 rfl rfl rfl rfl rfl rfl rfl ⟨rfl, rfl, rfl, rfl, rfl⟩ rfl rfl rfl rfl rfl (by kernel_rfl) Tryd.func11 (by kernel_rfl)
    (of_decide_eq_true (by kernel_rfl)) (by unfold Func.isWrapper; first | (rw [if_pos (by decide +kernel)]; kernel_rfl) | (rw [if_neg (by decide +kernel)]; exact ⟨rfl, rfl⟩))
    (fun os started H enc _ F => by rw [OpenClaim.pre_eq_preRow]; exact fnDiscantMove_lifted os started H enc F)
theorem fnDiscantMove_plain (f : FuncId) (fn : Func) (hf : Tryd.pinned.checked.prog.funcNamed "loop.example/neumes/laws.FnDiscantMove" = some f) (hfn : Tryd.pinned.checked.prog.funcs[f]? = some fn) :
    false = Tryd.pinned.checked.prog.looks [] ∧ ∀ (j : Nat) t, fn.params[j]? = some t → Tryd.pinned.checked.prog.wantsStandIn t = false := by
  obtain rfl : f = 11 := Option.some.inj ((show Tryd.prog.funcNamed "loop.example/neumes/laws.FnDiscantMove" = some 11 by kernel_rfl).symm.trans hf) |>.symm
  obtain rfl : fn = Tryd.f11 := (Option.some.inj (Tryd.func11.symm.trans hfn)).symm
  refine ⟨by kernel_rfl, fun j t ht => ?_⟩
  rw [Tryd.params11] at ht
  have hm := Array.mem_of_getElem? ht
  simp only [List.mem_toArray, List.mem_cons, List.not_mem_nil, or_false] at hm
  subst hm
  exact (show Tryd.prog.wantsStandIn _ = false by kernel_rfl)
/-- the card -/
theorem fnDiscantMove_card : Rows.FnDiscantMoveCardSaid :=
  Claim7.holds_tied_plain_at .later [] _ _ _ _ fnDiscantMove_holds (fun _ h => by cases h) (by kernel_rfl) (fun _ h => by cases h) fnDiscantMove_row_tie rfl ⟨rfl, rfl⟩ (by kernel_rfl) rfl fnDiscantMove_plain (by kernel_rfl)


end Go.Proofs.YticapinlnlpbpaaDoor
