/-
  What the translation's head says: it may be entered; what it lifts; its make.
-/
import Derived.Test.YtcmcdomfmmjogaaSeatQ0
namespace Go.Proofs.Ytcmcdomfmmjogaa
open Go.RowKit Go.ChangeShapes Go.WideShapes Go.ChangeAt
set_option maxRecDepth 100000
set_option linter.unusedVariables false

theorem seat_strip : stripLifts liftWords ("cut".toList :: headWords.tail.map (fun w => w.map Char.ofNat)) = ([], "cut".toList :: headWords.tail.map (fun w => w.map Char.ofNat)) := by kernel_rfl
theorem seat_lays : Try.pinned.checked.prog.laysLater = false := by kernel_rfl
theorem seat_reflect : Try.pinned.checked.prog.bearsReflect = false := by kernel_rfl
theorem seat_door : Try.pinned.checked.prog.doorFits [] = true := by kernel_rfl
theorem seat_enter : Try.pinned.checked.prog.mayEnter = true := enter_gen seat_words seat_lays seat_reflect seat_strip seat_door
theorem seat_lifts : Try.pinned.checked.prog.liftsFinal = Rows.fnPsalmRow.lifted := (lifts_gen seat_words seat_strip).trans (by kernel_rfl)
theorem seat_make : Try.pinned.checked.prog.make = some Rows.fnPsalmRow.make := (make_gen seat_words).trans (by kernel_rfl)
end Go.Proofs.Ytcmcdomfmmjogaa
