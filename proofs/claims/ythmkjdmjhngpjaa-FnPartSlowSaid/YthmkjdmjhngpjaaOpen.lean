/-
  A tone among a law's arguments, opened and shut; what every law's last step shares.
-/
import Derived.Test.YthmkjdmjhngpjaaRows
import Derived.Test.YthmkjdmjhngpjaaBase
import Derived.Lib.SmallJoins
import Derived.OpenShut
import Derived.ShutString
namespace Go.Proofs.Ythmkjdmjhngpjaa
open Go.RowKit Go.ChangeShapes Go.WideShapes Go.ChangeAt Go.Joins

theorem own : ownKnob Try.prog.godebug = none := by kernel_rfl

theorem laidOut : laidOutB Try.prog = true := by kernel_rfl
end Go.Proofs.Ythmkjdmjhngpjaa
