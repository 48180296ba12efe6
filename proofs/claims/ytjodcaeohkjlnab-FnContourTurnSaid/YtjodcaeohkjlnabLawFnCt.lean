/-
  The law FnContourTurn: for every code, turning and going back have any order.
-/
import Derived.Test.YtjodcaeohkjlnabCnI
import Derived.Test.YtjodcaeohkjlnabCb
import Derived.Test.YtjodcaeohkjlnabCk
import Derived.Test.YtjodcaeohkjlnabDrawC
import Derived.Test.YtjodcaeohkjlnabCode
namespace Go.Proofs.Ytjodcaeohkjlnab
open Go.RowKit Go.ChangeShapes Go.WideShapes Go.ChangeAt
set_option maxRecDepth 100000
set_option linter.unusedVariables false

set_option maxHeartbeats 4000000 in
theorem fnContourTurn_walk (a : Option Addr) (n cap : Nat) (w : World) (h : CodeAt w a n) (hc : n ≤ cap) (hcap : cap ≤ maxLen) :
    Calls Try.prog 3 #[.slice a n cap] w fun e w' => e = .returned (.bool true) ∧ Below w.heap.size w w' := by
  by_cases hn : 1048576 < n
  · have g : (1048576 : Int) < (n : Int) := by omega
    go_enter Try.func3, Try.ntmps3
    go_wp2
    go_ret
    exact ⟨rfl, Below.refl _ _⟩
  have g : decide ((1048576 : Int) < (n : Int)) = false := by simp; omega
  go_enter Try.func3, Try.ntmps3
  go_wp2_with (fail)
  (go_at_call 18; refine (drawContourTurn_any a n cap _ h hc hcap).mono ?_; rintro e w1 ⟨s, rfl, hs9, hb1⟩)
  clear h hc hcap g hn
  have KI := Lib.hid (fun W => contourTurn_any s W)
  have KS := Lib.hid (fun W => sContourTurn_any s (by omega) W)
  by_cases hm : cv s = false
  · rw [hm] at KI KS
    have hz : ((ctT s).toList == (ctT s).toList) = true := by simp
    generalize ctT s = t at KI KS hz
    go_wp2_with (fail)
    (go_at_call 19; refine (KI.out _).mono ?_; rintro e w2 ⟨rfl, hb2⟩)
    go_wp2_with (fail)
    (go_at_call 20; refine (KS.out _).mono ?_; rintro e w3 ⟨rfl, hb3⟩)
    go_wp2
    go_ret
    exact ⟨rfl, bl_step (bl_step hb1 hb2) hb3⟩
  rw [Bool.not_eq_false] at hm
  obtain ⟨f1, f2, f3, f4, z1, z2⟩ := turn_facts hm
  have KT := Lib.hid (fun W => contourTurn_any (ctT s) W)
  have KB := Lib.hid (fun W => contourBack_any (ctT s) (by omega) W)
  have KZ := Lib.hid (fun W => contourBack_any s (by omega) W)
  have KW := Lib.hid (fun W => contourTurn_any (ctB s) W)
  have K1 := Lib.hid (fun W => contourMany_any (ctT s) 4 W)
  have K2 := Lib.hid (fun W => contourMany_any s 4 W)
  rw [hm] at KI KS KZ
  rw [f1] at KT KB
  rw [f2] at KW
  rw [f3] at KT
  rw [f4] at KB
  rw [cmv_turn hm] at K1
  have hz0 : (s.toList == s.toList) = true := by simp
  have hz1 : ((ctT s).toList == (ctT s).toList) = true := by simp
  have hz2 : ((ctT (ctB s)).toList == (ctT (ctB s)).toList) = true := by simp
  clear hm f1 f2 f3 f4 z1 z2
  generalize cmv s 4 = z at K1 K2
  generalize ctT (ctB s) = y at KB KW hz2
  generalize ctB s = b at KZ KW
  generalize ctT s = t at KI KS KT KB K1 hz1
  go_wp2_with (fail)
  (go_at_call 19; refine (KI.out _).mono ?_; rintro e w2 ⟨rfl, hb2⟩)
  go_wp2_with (fail)
  (go_at_call 20; refine (KS.out _).mono ?_; rintro e w3 ⟨rfl, hb3⟩)
  have bw3 := bl_step (bl_step hb1 hb2) hb3
  go_wp2_with (fail)
  (go_at_call 19; refine (KT.out _).mono ?_; rintro e w4 ⟨rfl, hb4⟩)
  go_wp2_with (fail)
  (go_at_call 21; refine (KB.out _).mono ?_; rintro e w5 ⟨rfl, hb5⟩)
  go_wp2_with (fail)
  (go_at_call 21; refine (KZ.out _).mono ?_; rintro e w6 ⟨rfl, hb6⟩)
  go_wp2_with (fail)
  (go_at_call 19; refine (KW.out _).mono ?_; rintro e w7 ⟨rfl, hb7⟩)
  have bw7 := bl_step (bl_step (bl_step (bl_step bw3 hb4) hb5) hb6) hb7
  go_wp2_with (fail)
  (go_at_call 22; refine (K1.out _).mono ?_; rintro e w8 ⟨rfl, hb8⟩)
  go_wp2_with (fail)
  (go_at_call 22; refine (K2.out _).mono ?_; rintro e w9 ⟨rfl, hb9⟩)
  go_wp2
  go_ret
  exact ⟨rfl, bl_step (bl_step bw7 hb8) hb9⟩

set_option maxRecDepth 100000 in
theorem fnContourTurn_lifted (os : Os) (started : os.Started) (H : Type) (enc : TypeId × Value → H) :
    ReturnsInHanded {} Try.checked os 3 .any (Rows.fnContourTurnSpec.pre6 enc Try.prog Try.f3 Rows.fnContourTurnRow.domain false) (Rows.fnContourTurnSpec.post enc Try.prog Try.f3 false true false false) := by
  refine returnsInHanded_of_change (C := Try.checked) own started (by kernel_rfl) Try.func3
    (ChangeSpec.witness6 (enc := enc) (C := Try.checked) false ⟨#[], #[.slice none 0 0], []⟩ 8 (by kernel_rfl) (by kernel_rfl) (by kernel_rfl) (by kernel_rfl)) ?_
  intro W base args ds gs before hval0 hW _ _
  have hval : ∀ (j : Nat) t v, Try.f3.params[j]? = some t → args[j]? = some v → Value.okWide Try.prog W .any base t v := hval0
  have hW' := hW
  obtain ⟨p, q, hA0, hV, rfl, _, _⟩ := hW
  have hA : DataW.TrodAll enc Try.prog W 0 (fun _ => true) true Try.f3.params.toList args.toList ds p := hA0
  rw [Try.params3] at hA hval
  obtain ⟨v0, vs0, d0, ds0, p0, q0, hargs, rfl, rfl, h0, r0⟩ := trodAll_cons hA
  obtain ⟨rfl, rfl, rfl⟩ := trodAll_nil r0
  obtain rfl : args = #[v0] := by cases args; simp_all
  obtain ⟨rfl, rfl⟩ := trodVars_none hV
  obtain ⟨a0, n0, c0, rfl⟩ := okWide_slice Try.underlying22 (hval 0 22 v0 rfl rfl)
  have k0 := h0
  have lt0 : ∀ x ∈ p0, x.block < W.heap.size := by obtain ⟨m, hm⟩ := k0; exact DataW.trod_lt m _ _ _ hm
  have y0 := code_in h0
  clear hA0 hval0
  refine (fnContourTurn_walk a0 n0 c0 W y0.1 y0.2.1 y0.2.2).mono fun e W' ⟨he, hb⟩ => ?_
  subst he
  exact ⟨_, rfl, _, _, _, [], _, [], hW', trodAll_cons_mk (shut_bool Try.underlying4 _) trodAll_mk0, trodAll_cons_mk (Below.trod laidOut (by kernel_rfl) (of_decide_eq_true (by kernel_rfl)) k0 hb lt0) (trodAll_mk0), rfl, hb.frame _, fun h => by cases h⟩

theorem fnContourTurn_holds : Rows.FnContourTurnSaid :=
  OpenClaim.holds_of_wide 3 Try.f3 rfl rfl rfl rfl rfl rfl rfl ⟨rfl, rfl, rfl, rfl, rfl⟩ rfl rfl rfl rfl rfl (by kernel_rfl) Try.func3 (by kernel_rfl)
    (of_decide_eq_true (by kernel_rfl)) (by unfold Func.isWrapper; first | (rw [if_pos (by decide +kernel)]; kernel_rfl) | (rw [if_neg (by decide +kernel)]; exact ⟨rfl, rfl⟩))
    (fun os started H enc _ => fnContourTurn_lifted os started H enc)

end Go.Proofs.Ytjodcaeohkjlnab
