/-
  What the translation's head says, its signs written out once.
-/
import Derived.Test.YthnofdkkocpjhaaDoorBase
import Derived.Test.YthnofdkkocpjhaaDoorRows
namespace Go.Proofs.YthnofdkkocpjhaaDoor
open Go.RowKit Go.ChangeShapes Go.WideShapes Go.ChangeAt
set_option maxRecDepth 100000
set_option linter.unusedVariables false

def headCodes : List Nat := [104, 97, 114, 110, 101, 115, 115, 32, 55, 55, 53, 56, 98, 56, 48, 49, 48, 57, 57, 57, 54, 98, 97, 56, 57, 49, 49, 52, 49, 53, 101, 51, 52, 57, 50, 102, 98, 97, 98, 53, 56, 100, 50, 55, 100, 57, 57, 48, 57, 54, 48, 55, 102, 102, 56, 50, 54, 102, 48, 98, 101, 55, 101, 49, 100, 98, 98, 101, 48, 53, 100, 48, 32, 99, 117, 116, 32, 97, 116, 32, 108, 111, 111, 112, 46, 101, 120, 97, 109, 112, 108, 101, 47, 110, 101, 117, 109, 101, 115, 47, 108, 97, 119, 115, 46, 70, 110, 77, 101, 108, 111, 100, 121, 74, 111, 105, 110, 32, 108, 111, 111, 112, 46, 101, 120, 97, 109, 112, 108, 101, 47, 110, 101, 117, 109, 101, 115, 47, 108, 97, 119, 115, 46, 70, 110, 83, 105, 110, 103]
theorem head_lit : Tryd.pinned.checked.prog.initOrder = String.ofList (headCodes.map Char.ofNat) := by kernel_rfl
theorem head_chars : Tryd.pinned.checked.prog.initOrder.toList = headCodes.map Char.ofNat := by
  rw [head_lit]
  exact String.toList_ofList
theorem seat_heard : Tryd.pinned.checked.prog.stopsHeard = true := by kernel_rfl
def headSum : List Nat := [55, 55, 53, 56, 98, 56, 48, 49, 48, 57, 57, 57, 54, 98, 97, 56, 57, 49, 49, 52, 49, 53, 101, 51, 52, 57, 50, 102, 98, 97, 98, 53, 56, 100, 50, 55, 100, 57, 57, 48, 57, 54, 48, 55, 102, 102, 56, 50, 54, 102, 48, 98, 101, 55, 101, 49, 100, 98, 98, 101, 48, 53, 100, 48]
def headWords : List (List Nat) := [[99, 117, 116], [97, 116], [108, 111, 111, 112, 46, 101, 120, 97, 109, 112, 108, 101, 47, 110, 101, 117, 109, 101, 115, 47, 108, 97, 119, 115, 46, 70, 110, 77, 101, 108, 111, 100, 121, 74, 111, 105, 110], [108, 111, 111, 112, 46, 101, 120, 97, 109, 112, 108, 101, 47, 110, 101, 117, 109, 101, 115, 47, 108, 97, 119, 115, 46, 70, 110, 83, 105, 110, 103]]
theorem head_words : behindMainWord (wordsSigns (headCodes.map Char.ofNat)) = "cut".toList :: headWords.tail.map (fun w => w.map Char.ofNat) := by kernel_rfl
theorem seat_words : behindMainWord (wordsSigns Tryd.pinned.checked.prog.initOrder.toList) = "cut".toList :: headWords.tail.map (fun w => w.map Char.ofNat) := by rw [head_chars, head_words]
theorem make_gen {P : Program} {rest : List (List Char)} (h : behindMainWord (wordsSigns P.initOrder.toList) = "cut".toList :: rest) : P.make = some .cut := by
  unfold Program.make
  rw [h]
  simp
theorem enter_gen {P : Program} {rest : List (List Char)} (h : behindMainWord (wordsSigns P.initOrder.toList) = "cut".toList :: rest) (hl : P.laysLater = false) (hr : P.bearsReflect = false) (hs : stripLifts liftWords ("cut".toList :: rest) = ([], "cut".toList :: rest))
    (hd : P.doorFits [] = true) : P.mayEnter = true := by
  unfold Program.mayEnter
  rw [h]
  simp only [hs, hl, hr, hd]
  simp
theorem lifts_gen {P : Program} {rest : List (List Char)} (h : behindMainWord (wordsSigns P.initOrder.toList) = "cut".toList :: rest) (hs : stripLifts liftWords ("cut".toList :: rest) = ([], "cut".toList :: rest)) : P.liftsFinal = false := by
  unfold Program.liftsFinal Program.headLifts
  rw [h]
  simp only [hs]
  simp
end Go.Proofs.YthnofdkkocpjhaaDoor
