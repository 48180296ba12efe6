/-
  A tone among a law's arguments, opened and shut; what every law's last step shares.
-/
import Derived.Test.YthnofdkkocpjhaaDoorRows
import Derived.Test.YthnofdkkocpjhaaDoorBase
import Derived.Lib.SmallJoins
import Derived.OpenShut
import Derived.ShutString
namespace Go.Proofs.YthnofdkkocpjhaaDoor
open Go.RowKit Go.ChangeShapes Go.WideShapes Go.ChangeAt Go.Joins

theorem own : ownKnob Tryd.prog.godebug = none := by kernel_rfl

theorem laidOut : laidOutB Tryd.prog = true := by kernel_rfl
end Go.Proofs.YthnofdkkocpjhaaDoor
