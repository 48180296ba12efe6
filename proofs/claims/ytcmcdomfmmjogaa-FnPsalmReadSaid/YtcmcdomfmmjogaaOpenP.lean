/-
  A law's laws.Psalm argument, opened: its tones lie in memory that was there.
-/
import Derived.Test.YtcmcdomfmmjogaaOpenT
namespace Go.Proofs.Ytcmcdomfmmjogaa
open Go.RowKit Go.ChangeShapes Go.WideShapes Go.ChangeAt Go.Joins
set_option maxRecDepth 100000
set_option linter.unusedVariables false

theorem cellsPsalm : Try.prog.cellsOf 55 = 5 := by kernel_rfl
theorem cellsSlT : Try.prog.cellsOf 52 = 1 := by kernel_rfl
theorem array5 {α : Type} {cs : Array α} (h : cs.size = 5) : ∃ c0 c1 c2 c3 c4, cs = #[c0, c1, c2, c3, c4] := by
  obtain ⟨l⟩ := cs
  match l, h with
  | [c0, c1, c2, c3, c4], _ => exact ⟨c0, c1, c2, c3, c4, rfl⟩

section
variable {H : Type} {enc : TypeId × Value → H} {w : World} {base : Nat} {spare : Nat → Bool} {held : Bool}
/-- a list of tones of the arguments -/
def ArgL (w : World) (v : Value) (xs : List (Int × Bool)) : Prop := ∃ a c, v = .slice a xs.length c ∧ ArgT w a xs ∧ xs.length ≤ c ∧ c ≤ maxLen
set_option maxRecDepth 100000 in
theorem tones_cell {n : Nat} {c : Value} {y : DataW H × List MemPlace} (h : DataW.trod enc Try.prog w base spare held n 52 [c] = some y) : ∃ xs, ArgL w c xs := by
  obtain ⟨a, l, k, e⟩ := slice_form Try.underlying52 h
  injection e with e _
  subst e
  obtain ⟨xs, hl, hA, h1, h2⟩ := tones_in (d := y.1) (p := y.2) ⟨n, by simpa [Value.cells] using h⟩
  subst hl
  exact ⟨xs, a, k, rfl, hA, h1, h2⟩
set_option maxRecDepth 100000 in
theorem psalm_cells {n : Nat} {cs : List Value} {y : DataW H × List MemPlace} (hl : ∃ c0 c1 c2 c3 c4, cs = [c0, c1, c2, c3, c4]) (h : DataW.trod enc Try.prog w base spare held n 55 cs = some y) :
    ∃ v0 s b v1 v2 x0 x1 x2, cs = [v0, .int .i64 s, .bool b, v1, v2] ∧ (Lit.int .i64 s).wf = true ∧ ArgL w v0 x0 ∧ ArgL w v1 x1 ∧ ArgL w v2 x2 := by
  obtain ⟨c0, c1, c2, c3, c4, rfl⟩ := hl
  obtain ⟨y0, y1, y2, y3, m, _, _, h0, h1, h2, h3⟩ := trod_struct4 Try.underlying55 h
  simp only [cellsSlT, cellsTone] at h0 h1 h2 h3
  obtain ⟨z0, z1, k, _, _, g0, g1⟩ := trod_struct2 Try.underlying53 h1
  obtain ⟨s, e0, _, ws⟩ := DataW.trod_int Try.underlying3 g0
  obtain ⟨b, e1, _⟩ := DataW.trod_bool Try.underlying4 g1
  obtain ⟨x0, a0⟩ := tones_cell h0
  obtain ⟨x1, a1⟩ := tones_cell h2
  obtain ⟨x2, a2⟩ := tones_cell h3
  have ci : Try.prog.cellsOf 3 = 1 := by kernel_rfl
  have cb : Try.prog.cellsOf 4 = 1 := by kernel_rfl
  simp [ci] at e0
  simp [cb] at e1
  subst e0 e1
  exact ⟨_, s, b, _, _, x0, x1, x2, rfl, ws, a0, a1, a2⟩
set_option maxRecDepth 100000 in
theorem psalm_in {r : Reach} {b0 : Nat} {v : Value} {d : DataW H} {p : List MemPlace} (hv : Value.okWide Try.prog w r b0 55 v) (h : DataW.Trod enc Try.prog w base spare held 55 v d p) :
    ∃ v0 s b v1 v2 x0 x1 x2, v = .agg #[v0, .int .i64 s, .bool b, v1, v2] ∧ (Lit.int .i64 s).wf = true ∧ ArgL w v0 x0 ∧ ArgL w v1 x1 ∧ ArgL w v2 x2 := by
  obtain ⟨cs, rfl, hsz⟩ := okWide_struct Try.underlying55 hv
  obtain ⟨c0, c1, c2, c3, c4, rfl⟩ := array5 (hsz.trans cellsPsalm)
  obtain ⟨fuel, hf⟩ := h
  obtain ⟨v0, s, b, v1, v2, x0, x1, x2, e, ws, a0, a1, a2⟩ := psalm_cells (cs := [c0, c1, c2, c3, c4]) ⟨c0, c1, c2, c3, c4, rfl⟩ (by simpa [Value.cells] using hf)
  injection e with e0 e
  injection e with e1 e
  injection e with e2 e
  injection e with e3 e
  injection e with e4 _
  subst e0 e1 e2 e3 e4
  exact ⟨_, s, b, _, _, x0, x1, x2, rfl, ws, a0, a1, a2⟩
end
end Go.Proofs.Ytcmcdomfmmjogaa
