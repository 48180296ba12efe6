/-
  A tone among a law's arguments, opened and shut; what every law's last step shares.
-/
import Derived.Test.YtaelkgpebhdlhaaGreatDoorRows
import Derived.Test.YtaelkgpebhdlhaaGreatDoorBase
import Derived.Lib.SmallJoins
import Derived.OpenShut
import Derived.ShutString
namespace Go.Proofs.YtaelkgpebhdlhaaGreatDoor
open Go.RowKit Go.ChangeShapes Go.WideShapes Go.ChangeAt Go.Joins

theorem own : ownKnob Tryz.prog.godebug = none := by kernel_rfl

theorem laidOut : laidOutB Tryz.prog = true := by kernel_rfl
end Go.Proofs.YtaelkgpebhdlhaaGreatDoor
