/-
  What the translation's head says, its signs written out once.
-/
import Derived.Test.YtcmcdomfmmjogabBase
import Derived.Test.YtcmcdomfmmjogabRows
namespace Go.Proofs.Ytcmcdomfmmjogab
open Go.RowKit Go.ChangeShapes Go.WideShapes Go.ChangeAt
set_option maxRecDepth 100000
set_option linter.unusedVariables false

def headCodes : List Nat := [104, 97, 114, 110, 101, 115, 115, 32, 102, 49, 57, 97, 101, 56, 51, 48, 48, 51, 54, 100, 98, 98, 55, 51, 100, 56, 99, 56, 48, 51, 48, 52, 102, 50, 100, 52, 52, 56, 98, 101, 54, 100, 55, 101, 51, 52, 102, 55, 56, 98, 56, 48, 101, 56, 49, 50, 52, 54, 101, 54, 52, 100, 57, 57, 50, 55, 49, 50, 100, 53, 50, 57, 32, 99, 117, 116, 32, 97, 116, 32, 108, 111, 111, 112, 46, 101, 120, 97, 109, 112, 108, 101, 47, 110, 101, 117, 109, 101, 115, 47, 108, 97, 119, 115, 46, 70, 110, 69, 120, 97, 99, 116, 80, 115, 97, 108, 109, 66, 101, 115, 116, 32, 108, 111, 111, 112, 46, 101, 120, 97, 109, 112, 108, 101, 47, 110, 101, 117, 109, 101, 115, 47, 108, 97, 119, 115, 46, 70, 110, 69, 120, 97, 99, 116, 80, 115, 97, 108, 109, 82, 101, 97, 100]
theorem head_lit : Try.pinned.checked.prog.initOrder = String.ofList (headCodes.map Char.ofNat) := by kernel_rfl
theorem head_chars : Try.pinned.checked.prog.initOrder.toList = headCodes.map Char.ofNat := by
  rw [head_lit]
  exact String.toList_ofList
theorem seat_heard : Try.pinned.checked.prog.stopsHeard = true := by kernel_rfl
def headSum : List Nat := [102, 49, 57, 97, 101, 56, 51, 48, 48, 51, 54, 100, 98, 98, 55, 51, 100, 56, 99, 56, 48, 51, 48, 52, 102, 50, 100, 52, 52, 56, 98, 101, 54, 100, 55, 101, 51, 52, 102, 55, 56, 98, 56, 48, 101, 56, 49, 50, 52, 54, 101, 54, 52, 100, 57, 57, 50, 55, 49, 50, 100, 53, 50, 57]
def headWords : List (List Nat) := [[99, 117, 116], [97, 116], [108, 111, 111, 112, 46, 101, 120, 97, 109, 112, 108, 101, 47, 110, 101, 117, 109, 101, 115, 47, 108, 97, 119, 115, 46, 70, 110, 69, 120, 97, 99, 116, 80, 115, 97, 108, 109, 66, 101, 115, 116], [108, 111, 111, 112, 46, 101, 120, 97, 109, 112, 108, 101, 47, 110, 101, 117, 109, 101, 115, 47, 108, 97, 119, 115, 46, 70, 110, 69, 120, 97, 99, 116, 80, 115, 97, 108, 109, 82, 101, 97, 100]]
theorem head_words : behindMainWord (wordsSigns (headCodes.map Char.ofNat)) = "cut".toList :: headWords.tail.map (fun w => w.map Char.ofNat) := by kernel_rfl
theorem seat_words : behindMainWord (wordsSigns Try.pinned.checked.prog.initOrder.toList) = "cut".toList :: headWords.tail.map (fun w => w.map Char.ofNat) := by rw [head_chars, head_words]
theorem make_gen {P : Program} {rest : List (List Char)} (h : behindMainWord (wordsSigns P.initOrder.toList) = "cut".toList :: rest) : P.make = some .cut := by
  unfold Program.make
  rw [h]
  simp
theorem enter_gen {P : Program} {rest : List (List Char)} (h : behindMainWord (wordsSigns P.initOrder.toList) = "cut".toList :: rest) (hl : P.laysLater = false) (hr : P.bearsReflect = false) (hs : stripLifts liftWords ("cut".toList :: rest) = ([], "cut".toList :: rest))
    (hd : P.doorFits [] = true) : P.mayEnter = true := by
  unfold Program.mayEnter
  rw [h]
  simp only [hs, hl, hr, hd]
  simp
theorem lifts_gen {P : Program} {rest : List (List Char)} (h : behindMainWord (wordsSigns P.initOrder.toList) = "cut".toList :: rest) (hs : stripLifts liftWords ("cut".toList :: rest) = ([], "cut".toList :: rest)) : P.liftsFinal = false := by
  unfold Program.liftsFinal Program.headLifts
  rw [h]
  simp only [hs]
  simp
end Go.Proofs.Ytcmcdomfmmjogab
