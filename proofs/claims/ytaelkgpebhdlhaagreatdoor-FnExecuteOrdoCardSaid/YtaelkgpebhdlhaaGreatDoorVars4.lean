/-
  Three or four listed variables.
-/
import Derived.Test.YtaelkgpebhdlhaaGreatDoorLaid1
namespace Go.Proofs.YtaelkgpebhdlhaaGreatDoor
open Go.RowKit Go.ChangeShapes Go.WideShapes Go.ChangeAt
set_option maxRecDepth 100000
set_option linter.unusedVariables false

theorem varsN {H : Type} {enc : TypeId × Value → H} {P : Program} {W : World} {sp : Nat → Bool} : ∀ {ns : List String} {gs : List (DataW H)} {ps : List MemPlace}, DataW.TrodVars enc P W sp ns gs ps → gs.length = ns.length
  | [], [], _, _ => rfl
  | [], _ :: _, _, h => h.elim
  | _ :: _, [], _, h => h.elim
  | _ :: ns, _ :: gs, _, h => by
    obtain ⟨_, _, _, _, _, _, _, _, _, _, hs, _⟩ := h
    have := varsN (ns := ns) hs
    simp [this]
theorem vars3 {H : Type} {enc : TypeId × Value → H} {P : Program} {W : World} {sp : Nat → Bool} {n m q : String} {gs : List (DataW H)} {ps : List MemPlace} (h : DataW.TrodVars enc P W sp [n, m, q] gs ps) : ∃ g k j, gs = [g, k, j] := by
  have := varsN h
  match gs, this with
  | [g, k, j], _ => exact ⟨g, k, j, rfl⟩
theorem vars4 {H : Type} {enc : TypeId × Value → H} {P : Program} {W : World} {sp : Nat → Bool} {n m q r : String} {gs : List (DataW H)} {ps : List MemPlace} (h : DataW.TrodVars enc P W sp [n, m, q, r] gs ps) : ∃ g k j i, gs = [g, k, j, i] := by
  have := varsN h
  match gs, this with
  | [g, k, j, i], _ => exact ⟨g, k, j, i, rfl⟩
end Go.Proofs.YtaelkgpebhdlhaaGreatDoor
