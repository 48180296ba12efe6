/-
  The semitones between a melody's neighbours, in the program.
-/
import Derived.Test.YticapinlnlpbpaaDoorMelS
import Derived.Test.YticapinlnlpbpaaDoorHeights
namespace Go.Proofs.YticapinlnlpbpaaDoor
open Go.RowKit
set_option maxRecDepth 100000
set_option linter.unusedVariables false

def semisOf (xs : List (Int × Bool)) : List Int := difs sem (mvl xs) ((mvl xs).length - 1)
end Go.Proofs.YticapinlnlpbpaaDoor
