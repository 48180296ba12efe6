/-
  The translation's head, in one text: its main; it looks at no clock.
-/
import Derived.Test.YthnofdkkocpjhaaDoorSeatQ
import Derived.Test.YthnofdkkocpjhaaDoorCards
namespace Go.Proofs.YthnofdkkocpjhaaDoor
open Go.RowKit Go.ChangeShapes Go.WideShapes Go.ChangeAt
set_option maxRecDepth 100000
set_option linter.unusedVariables false

theorem main_gen {P : Program} {s : List Char} {rest : List (List Char)} (h : wordsSigns P.initOrder.toList = "harness".toList :: s :: rest) (hs : isSumSigns s = true) : P.mainIs = some (true, s) := by
  unfold Program.mainIs
  rw [h]
  simp [hs]
theorem head_main : wordsSigns (headCodes.map Char.ofNat) = "harness".toList :: headSum.map Char.ofNat :: "cut".toList :: headWords.tail.map (fun w => w.map Char.ofNat) := by kernel_rfl
theorem seat_main : Tryd.pinned.checked.prog.mainIs = some (Rows.fnMelodyJoinCard.stood.harness.1, Rows.fnMelodyJoinCard.stood.harness.2.toList) :=
  (main_gen (s := headSum.map Char.ofNat) (rest := "cut".toList :: headWords.tail.map (fun w => w.map Char.ofNat)) (by rw [head_chars, head_main]) (by kernel_rfl)).trans (by kernel_rfl)
theorem seat_looks : Tryd.pinned.checked.prog.looks [] = Rows.fnMelodyJoinCard.stood.looks := by kernel_rfl
end Go.Proofs.YthnofdkkocpjhaaDoor
