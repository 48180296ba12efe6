/-
  An answer to a line, in the program: the deferred closure, where the frame returns and where it panics.
-/
import Derived.Test.YtaelkgpebhdlhaaGreatDoorExd
import Derived.Tactics
import Derived.Tactics2
import Derived.Defers
import Derived.Recover
namespace Go.Proofs.YtaelkgpebhdlhaaGreatDoor
open Go.RowKit
set_option maxRecDepth 100000
set_option linter.unusedVariables false

theorem assert_nil (t : TypeId) (w : World) : (Instr.typeAssert .nilIface t 122 true).run Tryz.prog w = .ok (.tuple #[.agg #[], .bool false]) w := by kernel_rfl
set_option maxHeartbeats 2000000 in
theorem answerCatch_idle (p : Addr) (w : World) :
    CallsD Tryz.prog 84 #[.pointer (some p)] .returning w fun e u' w' => e = .returned (.tuple #[]) ∧ u' = .returning ∧ w' = w.alloc (.cells #[] 122) := by
  have hta := assert_nil
  refine callsD_of_wpS Tryz.func84 rfl fun c₀ cs hu => ?_
  apply wpS_seq
  apply wpS_region
  simp [wpOpsS, go_sem, recoverD, hu, Tryz.ntmps84, Exit.thenS, hta]
  apply wpS_seq
  apply wpS_region
  simp [wpOpsS, go_sem, Exit.thenS]
  refine wpS_cond (t := false) (by simp [Act.eval, Array.replicate]) ?_
  simp only [Bool.false_eq_true, if_false]
  refine wpS_of_wp (wp_skip ?_)
  cases c₀
  simp_all [bodyPostS, results, Tryz.results84]

/-- the panic of a line that is no command -/
def malP : Value := .iface 122 (.agg #[])
theorem assert_mal (t : TypeId) (w : World) : (Instr.typeAssert (.iface 122 (.agg #[])) t 122 true).run Tryz.prog w = .ok (.tuple #[.agg #[], .bool true]) w := by kernel_rfl
set_option maxHeartbeats 2000000 in
theorem answerCatch_panic (p : Addr) (x : Value) (older : List PanicEntry) (w : World) (hc : w.cell? p = some x) (hz : w.frozen? p = false) :
    CallsD Tryz.prog 84 #[.pointer (some p)] (.panicking ({ v := malP, recovered := false } :: older)) w fun e u' w' =>
      e = .returned (.tuple #[]) ∧ u' = .panicking ({ v := malP, recovered := true } :: older) ∧ w' = (w.alloc (.cells #[] 122)).setCell p (.string ⟨#[119, 104, 97, 116]⟩) := by
  have hta := assert_mal
  have hlt := World.block_lt_of_cell? w p hc
  unfold malP
  refine callsD_of_wpS Tryz.func84 rfl fun c₀ cs hu => ?_
  apply wpS_seq
  apply wpS_region
  simp [wpOpsS, go_sem, recoverD, hu, Tryz.ntmps84, Exit.thenS, hta]
  apply wpS_seq
  apply wpS_region
  simp [wpOpsS, go_sem, Exit.thenS]
  refine wpS_cond (t := true) (by simp [Act.eval, Array.replicate]) ?_
  simp only [if_true]
  apply wpS_region
  have hc2 : (w.alloc (.cells #[] 122)).cell? p = some x := (World.cell?_alloc_lt _ _ _ hlt).trans hc
  have hz2 : (w.alloc (.cells #[] 122)).frozen? p = false := (World.frozen?_alloc_old w _ p (by omega)).trans hz
  simp [wpOpsS, go_sem, hc2, hz2, bodyPostS, results, Tryz.results84]
end Go.Proofs.YtaelkgpebhdlhaaGreatDoor
