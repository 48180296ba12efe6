/-
  The card of the law FnMelodyJoin, from its walk.
-/
import Derived.Test.YthnofdkkocpjhaaDoorMFnMj
import Derived.Test.YthnofdkkocpjhaaDoorSeat
namespace Go.Proofs.YthnofdkkocpjhaaDoor
open Go.RowKit Go.ChangeShapes Go.WideShapes Go.ChangeAt
set_option maxRecDepth 100000
set_option linter.unusedVariables false

theorem fnMelodyJoin_closed : joinedFacts Tryd.pinned.checked.prog 3 Tryd.f3 Rows.fnMelodyJoinSpec Rows.fnMelodyJoinRow = true := by
  unfold joinedFacts
  rw [seat_heard, seat_enter, seat_lifts, seat_make]
  kernel_rfl
theorem fnMelodyJoin_holds : Rows.FnMelodyJoinSaid :=
  OpenClaim.holds_of_cond 3 Tryd.f3 rfl rfl rfl rfl rfl rfl rfl ⟨rfl, rfl, rfl, rfl, rfl⟩ rfl rfl rfl rfl rfl (by kernel_rfl) Tryd.func3 fnMelodyJoin_closed
    (of_decide_eq_true (by kernel_rfl)) (by unfold Func.isWrapper; first | (rw [if_pos (by decide +kernel)]; kernel_rfl) | (rw [if_neg (by decide +kernel)]; exact ⟨rfl, rfl⟩))
    (fun os started H enc _ F => by rw [OpenClaim.pre_eq_preRow]; exact fnMelodyJoin_lifted os started H enc F)


end Go.Proofs.YthnofdkkocpjhaaDoor

namespace Go.Proofs.YthnofdkkocpjhaaDoor
open Go.RowKit Go.ChangeShapes Go.WideShapes Go.ChangeAt
set_option maxRecDepth 100000
set_option linter.unusedVariables false

theorem fnMelodyJoin_plain (f : FuncId) (fn : Func) (hf : Tryd.pinned.checked.prog.funcNamed "loop.example/neumes/laws.FnMelodyJoin" = some f) (hfn : Tryd.pinned.checked.prog.funcs[f]? = some fn) :
    Rows.fnMelodyJoinCard.stood.looks = Tryd.pinned.checked.prog.looks [] ∧ ∀ (j : Nat) t, fn.params[j]? = some t → Tryd.pinned.checked.prog.wantsStandIn t = false := by
  obtain rfl : f = 3 := Option.some.inj ((show Tryd.prog.funcNamed "loop.example/neumes/laws.FnMelodyJoin" = some 3 by kernel_rfl).symm.trans hf) |>.symm
  obtain rfl : fn = Tryd.f3 := (Option.some.inj (Tryd.func3.symm.trans hfn)).symm
  refine ⟨seat_looks.symm, fun j t ht => ?_⟩
  rw [Tryd.params3] at ht
  have hm := Array.mem_of_getElem? ht
  simp only [List.mem_toArray, List.mem_cons, List.not_mem_nil, or_false] at hm
  subst hm
  exact (show Tryd.prog.wantsStandIn _ = false by kernel_rfl)
/-- the card -/
theorem fnMelodyJoin_card : Rows.FnMelodyJoinCardSaid :=
  Claim7.holds_tied_plain_at .later [] _ _ _ _ fnMelodyJoin_holds (fun _ h => by cases h) (by kernel_rfl) (fun _ h => by cases h) fnMelodyJoin_row_tie rfl ⟨rfl, rfl⟩ seat_main rfl fnMelodyJoin_plain (by kernel_rfl)


end Go.Proofs.YthnofdkkocpjhaaDoor
