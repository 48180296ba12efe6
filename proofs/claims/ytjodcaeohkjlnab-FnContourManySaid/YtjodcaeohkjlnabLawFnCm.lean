/-
  The law FnContourMany: for every code, ways are counted.
-/
import Derived.Test.YtjodcaeohkjlnabCnI
import Derived.Test.YtjodcaeohkjlnabCnS
import Derived.Test.YtjodcaeohkjlnabCb
import Derived.Test.YtjodcaeohkjlnabCk
import Derived.Test.YtjodcaeohkjlnabDrawCm
import Derived.Test.YtjodcaeohkjlnabCode
namespace Go.Proofs.Ytjodcaeohkjlnab
open Go.RowKit Go.ChangeShapes Go.WideShapes Go.ChangeAt
set_option maxRecDepth 100000
set_option linter.unusedVariables false

set_option maxHeartbeats 4000000 in
theorem fnContourMany_walk (a : Option Addr) (n cap : Nat) (w : World) (h : CodeAt w a n) (hc : n ≤ cap) (hcap : cap ≤ maxLen) :
    Calls Try.prog 4 #[.slice a n cap] w fun e w' => e = .returned (.bool true) ∧ Below w.heap.size w w' := by
  by_cases hn : 1048576 < n
  · have g : (1048576 : Int) < (n : Int) := by omega
    go_enter Try.func4, Try.ntmps4
    go_wp2
    go_ret
    exact ⟨rfl, Below.refl _ _⟩
  have g : decide ((1048576 : Int) < (n : Int)) = false := by simp; omega
  go_enter Try.func4, Try.ntmps4
  go_wp2_with (fail)
  (go_at_call 23; refine (drawContourMany_any a n cap _ h hc hcap).mono ?_; rintro e w1 ⟨s, k, rfl, hs6, hk0, hk9, hb1⟩)
  clear h hc hcap g hn
  have KI := Lib.hid (fun W => contourMany_any s k W)
  have KS := Lib.hid (fun W => sContourMany_any s (by omega) k W)
  by_cases ho : cmv s k < 0
  · generalize cmv s k = z at KI KS ho
    go_wp2_with (fail)
    (go_at_call 22; refine (KI.out _).mono ?_; rintro e w2 ⟨rfl, hb2⟩)
    go_wp2_with (fail)
    (go_at_call 24; refine (KS.out _).mono ?_; rintro e w3 ⟨rfl, hb3⟩)
    go_wp2
    go_ret
    exact ⟨rfl, bl_step (bl_step hb1 hb2) hb3⟩
  have ho' : 0 ≤ cmv s k := by omega
  obtain ⟨hm, h8, _, _⟩ := cmv_in ho'
  have e1 := cmv_more ho' (by omega)
  have e2 := cmv_back hm k
  have e3 := cmv_less ho'
  have b0 := (cmv_bd s k).2
  have b1 := cmv_bd (s ++ ⟨#[117]⟩) k
  have b2 := cmv_bd (s ++ ⟨#[100]⟩) k
  have b3 := cmv_bd (s ++ ⟨#[115]⟩) k
  have a1 : ∀ W : World, (Op.stringOp .add s ⟨#[117]⟩).run Try.prog W = .ok (.string (s ++ ⟨#[117]⟩)) W := fun W => run_string_add_sum W _ _ (by show s.size + 1 ≤ _; omega)
  have a2 : ∀ W : World, (Op.stringOp .add s ⟨#[100]⟩).run Try.prog W = .ok (.string (s ++ ⟨#[100]⟩)) W := fun W => run_string_add_sum W _ _ (by show s.size + 1 ≤ _; omega)
  have a3 : ∀ W : World, (Op.stringOp .add s ⟨#[115]⟩).run Try.prog W = .ok (.string (s ++ ⟨#[115]⟩)) W := fun W => run_string_add_sum W _ _ (by show s.size + 1 ≤ _; omega)
  have K1 := Lib.hid (fun W => contourMany_any (s ++ ⟨#[117]⟩) k W)
  have K2 := Lib.hid (fun W => contourMany_any (s ++ ⟨#[100]⟩) k W)
  have K3 := Lib.hid (fun W => contourMany_any (s ++ ⟨#[115]⟩) k W)
  have KB := Lib.hid (fun W => contourBack_any s (by omega) W)
  have K4 := Lib.hid (fun W => contourMany_any s (k - 1) W)
  have K5 := Lib.hid (fun W => contourMany_any (ctB s) k W)
  rw [hm] at KB
  rw [e2] at K5
  generalize s ++ (⟨#[117]⟩ : ByteArray) = su at a1 K1 e1 b1
  generalize s ++ (⟨#[100]⟩ : ByteArray) = sd at a2 K2 e1 b2
  generalize s ++ (⟨#[115]⟩ : ByteArray) = ss at a3 K3 e1 b3
  generalize ctB s = sb at KB K5
  generalize cmv s (k - 1) = y at K4 e3
  generalize cmv su k = z1 at K1 e1 b1
  generalize cmv sd k = z2 at K2 e1 b2
  generalize cmv ss k = z3 at K3 e1 b3
  generalize cmv s k = z at KI KS K5 e1 e3 b0 ho ho'
  have g0 : decide (z < 0) = false := by simp; omega
  have n8 : ((s.size : Int) == 8) = false := by simp; omega
  have m1 : IntKind.i64.wrap (z1 + z2) = z1 + z2 := IntWalk.i64_in _ (by omega)
  have m2 : IntKind.i64.wrap (z1 + z2 + z3) = z * (k + 1) := by rw [e1]; refine IntWalk.i64_in _ ?_; rw [← e1]; omega
  have m3 : IntKind.i64.wrap (k - 1) = k - 1 := IntWalk.i64_in _ (by omega)
  have m4 : IntKind.i64.wrap (k + 1) = k + 1 := IntWalk.i64_in _ (by omega)
  have m5 : IntKind.i64.wrap (z * (k + 1)) = z * (k + 1) := by refine IntWalk.i64_in _ ?_; rw [← e1]; omega
  clear e1 e2 b1 b2 b3 h8 hm ho ho'
  go_wp2_with (fail)
  (go_at_call 22; refine (KI.out _).mono ?_; rintro e w2 ⟨rfl, hb2⟩)
  go_wp2_with (fail)
  (go_at_call 24; refine (KS.out _).mono ?_; rintro e w3 ⟨rfl, hb3⟩)
  have bw3 := bl_step (bl_step hb1 hb2) hb3
  go_wp2_with (fail)
  (go_at_call 22; refine (K1.out _).mono ?_; rintro e w4 ⟨rfl, hb4⟩)
  go_wp2_with (fail)
  (go_at_call 22; refine (K2.out _).mono ?_; rintro e w5 ⟨rfl, hb5⟩)
  go_wp2_with (fail)
  (go_at_call 22; refine (K3.out _).mono ?_; rintro e w6 ⟨rfl, hb6⟩)
  have bw6 := bl_step (bl_step (bl_step bw3 hb4) hb5) hb6
  go_wp2_with (fail)
  (go_at_call 21; refine (KB.out _).mono ?_; rintro e w7 ⟨rfl, hb7⟩)
  go_wp2_with (fail)
  (go_at_call 22; refine (K4.out _).mono ?_; rintro e w8 ⟨rfl, hb8⟩)
  go_wp2_with (fail)
  (go_at_call 22; refine (K5.out _).mono ?_; rintro e w9 ⟨rfl, hb9⟩)
  go_wp2
  go_ret
  exact ⟨by first | rfl | simp [e3], bl_step (bl_step (bl_step bw6 hb7) hb8) hb9⟩

set_option maxRecDepth 100000 in
theorem fnContourMany_lifted (os : Os) (started : os.Started) (H : Type) (enc : TypeId × Value → H) :
    ReturnsInHanded {} Try.checked os 4 .any (Rows.fnContourManySpec.pre6 enc Try.prog Try.f4 Rows.fnContourManyRow.domain false) (Rows.fnContourManySpec.post enc Try.prog Try.f4 false true false false) := by
  refine returnsInHanded_of_change (C := Try.checked) own started (by kernel_rfl) Try.func4
    (ChangeSpec.witness6 (enc := enc) (C := Try.checked) false ⟨#[], #[.slice none 0 0], []⟩ 8 (by kernel_rfl) (by kernel_rfl) (by kernel_rfl) (by kernel_rfl)) ?_
  intro W base args ds gs before hval0 hW _ _
  have hval : ∀ (j : Nat) t v, Try.f4.params[j]? = some t → args[j]? = some v → Value.okWide Try.prog W .any base t v := hval0
  have hW' := hW
  obtain ⟨p, q, hA0, hV, rfl, _, _⟩ := hW
  have hA : DataW.TrodAll enc Try.prog W 0 (fun _ => true) true Try.f4.params.toList args.toList ds p := hA0
  rw [Try.params4] at hA hval
  obtain ⟨v0, vs0, d0, ds0, p0, q0, hargs, rfl, rfl, h0, r0⟩ := trodAll_cons hA
  obtain ⟨rfl, rfl, rfl⟩ := trodAll_nil r0
  obtain rfl : args = #[v0] := by cases args; simp_all
  obtain ⟨rfl, rfl⟩ := trodVars_none hV
  obtain ⟨a0, n0, c0, rfl⟩ := okWide_slice Try.underlying22 (hval 0 22 v0 rfl rfl)
  have k0 := h0
  have lt0 : ∀ x ∈ p0, x.block < W.heap.size := by obtain ⟨m, hm⟩ := k0; exact DataW.trod_lt m _ _ _ hm
  have y0 := code_in h0
  clear hA0 hval0
  refine (fnContourMany_walk a0 n0 c0 W y0.1 y0.2.1 y0.2.2).mono fun e W' ⟨he, hb⟩ => ?_
  subst he
  exact ⟨_, rfl, _, _, _, [], _, [], hW', trodAll_cons_mk (shut_bool Try.underlying4 _) trodAll_mk0, trodAll_cons_mk (Below.trod laidOut (by kernel_rfl) (of_decide_eq_true (by kernel_rfl)) k0 hb lt0) (trodAll_mk0), rfl, hb.frame _, fun h => by cases h⟩

theorem fnContourMany_holds : Rows.FnContourManySaid :=
  OpenClaim.holds_of_wide 4 Try.f4 rfl rfl rfl rfl rfl rfl rfl ⟨rfl, rfl, rfl, rfl, rfl⟩ rfl rfl rfl rfl rfl (by kernel_rfl) Try.func4 (by kernel_rfl)
    (of_decide_eq_true (by kernel_rfl)) (by unfold Func.isWrapper; first | (rw [if_pos (by decide +kernel)]; kernel_rfl) | (rw [if_neg (by decide +kernel)]; exact ⟨rfl, rfl⟩))
    (fun os started H enc _ => fnContourMany_lifted os started H enc)

end Go.Proofs.Ytjodcaeohkjlnab
