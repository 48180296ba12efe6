/-
  What the draws of manuscripts return.
-/
import Derived.Test.YtbeiedaldinhaaaDoorDb
import Derived.Test.YtbeiedaldinhaaaDoorCode
namespace Go.Proofs.YtbeiedaldinhaaaDoor
open Go.RowKit
set_option maxRecDepth 100000
set_option linter.unusedVariables false

theorem BkI.view {B A q : Nat} {w wr : World} {v : Value} {ss : List ByteArray} (h : BkI B A q w wr v ss) : SV wr v ss :=
  SRow.view (lo := w.heap.size) (hi := wr.heap.size) ⟨h.own, fun g hg => (own_lts h.own hg).2⟩

theorem wf_small {i : Int} (h0 : -1 ≤ i) (h1 : i ≤ 1000) : (Lit.int .i64 i).wf = true := by
  simp [Lit.wf, IntKind.min, IntKind.max, IntKind.signed, IntKind.bits]
  omega

/-- what only turned a reader that is new is below -/
theorem gb_below {w w1 w' : World} (h1 : Below w.heap.size w w1) (hg : w1.grownBy w' (some w.heap.size)) : Below w.heap.size w w' :=
  ⟨hg.os.trans h1.os, hg.tape.trans h1.tape, hg.output.trans h1.output, Nat.le_trans h1.size hg.size, fun k hk => (hg.block k (Nat.lt_of_lt_of_le hk h1.size) (fun e => by have := Option.some.inj e; omega)).trans (h1.block k hk)⟩

def BksOnly (w : World) (e : Ending) (w' : World) : Prop :=
  ∃ v ss, e = .returned v ∧ SV w' v ss ∧ (∀ s ∈ ss, s.size ≤ 8) ∧ ss.length ≤ 5 ∧ Below w.heap.size w w'
def BksFarPicked (w : World) (e : Ending) (w' : World) : Prop :=
  ∃ v ss i k, e = .returned (.tuple #[v, .int .i64 i, .int .i64 k]) ∧ SV w' v ss ∧ (∀ s ∈ ss, s.size ≤ 8) ∧ ss.length ≤ 5 ∧ (Lit.int .i64 i).wf = true ∧ (Lit.int .i64 k).wf = true ∧ Below w.heap.size w w'
end Go.Proofs.YtbeiedaldinhaaaDoor
