/-
  A tone among a law's arguments, opened and shut; what every law's last step shares.
-/
import Derived.Test.YtcmcdomfmmjogaaRows
import Derived.Test.YtcmcdomfmmjogaaBase
import Derived.Lib.SmallJoins
import Derived.OpenShut
import Derived.ShutString
namespace Go.Proofs.Ytcmcdomfmmjogaa
open Go.RowKit Go.ChangeShapes Go.WideShapes Go.ChangeAt Go.Joins

theorem own : ownKnob Try.prog.godebug = none := by kernel_rfl

theorem laidOut : laidOutB Try.prog = true := by kernel_rfl

theorem cellsTone : Try.prog.cellsOf 53 = 2 := by kernel_rfl

section
variable {H : Type} {enc : TypeId × Value → H} {w : World} {base : Nat} {spare : Nat → Bool} {held : Bool}
set_option maxRecDepth 100000 in
theorem open_tone {r : Reach} {b0 : Nat} {v : Value} {d : DataW H} {p : List MemPlace} (hv : Value.okWide Try.prog w r b0 53 v) (h : DataW.Trod enc Try.prog w base spare held 53 v d p) :
    ∃ (s : Int) (b : Bool), (Lit.int .i64 s).wf = true ∧ v = .agg #[.int .i64 s, .bool b] ∧ d = .agg [.lit (.int .i64 s), .lit (.bool b)] ∧ p = [] := by
  obtain ⟨c0, c1, y0, y1, m, rfl, rfl, rfl, hy0, hy1⟩ := open_agg2 Try.underlying53 (by kernel_rfl) cellsTone hv h
  obtain ⟨a, e0, rfl, wa⟩ := DataW.trod_int Try.underlying3 hy0
  obtain ⟨b, e1, rfl⟩ := DataW.trod_bool Try.underlying4 hy1
  simp at e0 e1
  subst e0 e1
  exact ⟨a, b, wa, rfl, rfl, rfl⟩

set_option maxRecDepth 100000 in
theorem shut_tone {s : Int} (hs : (Lit.int .i64 s).wf = true) (b : Bool) :
    DataW.Trod enc Try.prog w base spare held 53 (.agg #[.int .i64 s, .bool b]) (.agg [.lit (.int .i64 s), .lit (.bool b)]) [] :=
  shut_agg2 (y0 := (.lit (.int .i64 s), [])) (y1 := (.lit (.bool b), [])) Try.underlying53 (by kernel_rfl) cellsTone ⟨1, by simp [DataW.trod, Try.underlying3, hs]⟩ ⟨1, by simp [DataW.trod, Try.underlying4]⟩
end
end Go.Proofs.Ytcmcdomfmmjogaa
