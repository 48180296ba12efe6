/-
  What the translation's head says: it may be entered; what it lifts; its make.
-/
import Derived.Test.YtaelkgpebhdlhaaGreatDoorSeatQ0
namespace Go.Proofs.YtaelkgpebhdlhaaGreatDoor
open Go.RowKit Go.ChangeShapes Go.WideShapes Go.ChangeAt
set_option maxRecDepth 100000
set_option linter.unusedVariables false

theorem seat_strip : stripLifts liftWords ("cut".toList :: headWords.tail.map (fun w => w.map Char.ofNat)) = ([], "cut".toList :: headWords.tail.map (fun w => w.map Char.ofNat)) := by kernel_rfl
theorem seat_lays : Tryz.pinned.checked.prog.laysLater = false := by kernel_rfl
theorem seat_reflect : Tryz.pinned.checked.prog.bearsReflect = false := by kernel_rfl
theorem seat_door : Tryz.pinned.checked.prog.doorFits [] = true := by kernel_rfl
theorem seat_enter : Tryz.pinned.checked.prog.mayEnter = true := enter_gen seat_words seat_lays seat_reflect seat_strip seat_door
theorem seat_lifts : Tryz.pinned.checked.prog.liftsFinal = Rows.fnExecuteNoneRow.lifted := (lifts_gen seat_words seat_strip).trans (by kernel_rfl)
theorem seat_make : Tryz.pinned.checked.prog.make = some Rows.fnExecuteNoneRow.make := (make_gen seat_words).trans (by kernel_rfl)
end Go.Proofs.YtaelkgpebhdlhaaGreatDoor
