/-
  The exact law of SingMany: for every list the function answers as its model, and leaves its argument alone.
-/
import Derived.Test.YtgehfianpahgcabSing2
import Derived.Test.YtgehfianpahgcabOpenT
import Derived.Test.YtgehfianpahgcabTL3
namespace Go.Proofs.Ytgehfianpahgcab
open Go.RowKit Go.ChangeShapes Go.WideShapes Go.ChangeAt
set_option linter.unusedVariables false

set_option maxHeartbeats 4000000 in
theorem exSingMany_walk (a : Option Addr) (c : Nat) (xs : List (Int × Bool)) (w : World) (h : ArgT w a xs) (hc : xs.length ≤ c) (hcap : c ≤ maxLen) :
    Calls Try.prog 11 #[.slice a xs.length c] w fun e w' => e = .returned (.bool true) ∧ Below w.heap.size w w' := by
  unfold maxLen at hcap
  by_cases hn : xs.length ≤ 1048576
  · have HS := Lib.hid (szToneS_any a xs.length c (by omega))
    rw [if_pos hn] at HS
    have HA := Lib.hid h
    have hg : decide ((1048576 : Int) - (xs.length : Int) < 0) = false := by simp; omega
    clear h
    go_enter Try.func11, Try.ntmps11
    go_wp2_with (fail)
    (go_at_call 12; refine (HS.out _).mono ?_; rintro e wx ⟨rfl, rfl⟩)
    go_wp2_with (fail)
    (go_at_call 14; refine (toToneS_any a c xs _ HA.out hn).mono ?_; rintro e w1 ⟨v0, rfl, hr0, hb1⟩)
    go_wp2_with (fail)
    (go_at_call 28; refine (sSingMany_any _ _ _ xs _ hr0).mono ?_; rintro e w2 ⟨rfl, hb2⟩)
    have hbw2 := bl_step hb1 hb2
    go_wp2_with (fail)
    (go_at_call 14; refine (toToneS_any a c xs _ (HA.out.below hbw2) hn).mono ?_; rintro e w3 ⟨v1, rfl, hr1, hb3⟩)
    have hbw3 := bl_step hbw2 hb3
    go_wp2_with (fail)
    (go_at_call 27; refine (singMany_any _ _ _ xs _ hr1).mono ?_; rintro e w4 ⟨rfl, hb4⟩)
    have hbw4 := bl_step hbw3 hb4
    have hr1 := hr1.below hb4 (.inl (Nat.le_refl _))
    go_wp2_with (fail)
    (go_at_call 14; refine (toToneS_any a c xs _ (HA.out.below hbw4) hn).mono ?_; rintro e w5 ⟨v2, rfl, hr2, hb5⟩)
    have hbw5 := bl_step hbw4 hb5
    have hr1 := hr1.below hb5 (.inl hb4.size)
    go_wp2_with (fail)
    (go_at_call 16; refine (eqToneS_any _ _ _ _ _ _ xs _ hr1 hr2).mono ?_; rintro e w6 ⟨rfl, hb6⟩)
    go_wp2
    go_ret
    exact ⟨rfl, bl_step hbw5 hb6⟩
  · have HS := Lib.hid (szToneS_any a xs.length c (by omega))
    rw [if_neg hn] at HS
    clear h hn
    go_enter Try.func11, Try.ntmps11
    go_wp2_with (fail)
    (go_at_call 12; refine (HS.out _).mono ?_; rintro e wx ⟨rfl, rfl⟩)
    go_wp2
    go_ret
    exact ⟨rfl, Below.refl _ _⟩

set_option maxRecDepth 100000 in
theorem fnExactSingMany_lifted (os : Os) (started : os.Started) (H : Type) (enc : TypeId × Value → H) :
    ReturnsInHanded {} Try.checked os 11 .any (Rows.fnExactSingManySpec.pre6 enc Try.prog Try.f11 Rows.fnExactSingManyRow.domain false) (Rows.fnExactSingManySpec.post enc Try.prog Try.f11 false true false false) := by
  refine returnsInHanded_of_change (C := Try.checked) own started (by kernel_rfl) Try.func11
    (ChangeSpec.witness6 (enc := enc) (C := Try.checked) false ⟨#[], #[.slice none 0 0], []⟩ 8 (by kernel_rfl) (by kernel_rfl) (by kernel_rfl) (by kernel_rfl)) ?_
  intro W base args ds gs before hval0 hW _ _
  have hval : ∀ (j : Nat) t v, Try.f11.params[j]? = some t → args[j]? = some v → Value.okWide Try.prog W .any base t v := hval0
  have hW' := hW
  obtain ⟨p, q, hA0, hV, rfl, _, _⟩ := hW
  have hA : DataW.TrodAll enc Try.prog W 0 (fun _ => true) true Try.f11.params.toList args.toList ds p := hA0
  rw [Try.params11] at hA hval
  obtain ⟨v0, vs0, d0, ds0, p0, q0, hargs, rfl, rfl, h0, r0⟩ := trodAll_cons hA
  obtain ⟨rfl, rfl, rfl⟩ := trodAll_nil r0
  obtain rfl : args = #[v0] := by cases args; simp_all
  obtain ⟨rfl, rfl⟩ := trodVars_none hV
  obtain ⟨a0, n0, c0, rfl⟩ := okWide_slice Try.underlying22 (hval 0 22 v0 rfl rfl)
  have k0 := h0
  have lt0 : ∀ x ∈ p0, x.block < W.heap.size := by obtain ⟨m, hm⟩ := k0; exact DataW.trod_lt m _ _ _ hm
  obtain ⟨x0, rfl, y0, z0, u0⟩ := tones_in h0
  clear hA0 hval0
  refine (exSingMany_walk a0 c0 x0 W y0 z0 u0).mono fun e W' ⟨he, hb⟩ => ?_
  subst he
  exact ⟨_, rfl, _, _, _, [], _, [], hW', trodAll_cons_mk (shut_bool Try.underlying4 _) trodAll_mk0, trodAll_cons_mk (Below.trod laidOut (by kernel_rfl) (of_decide_eq_true (by kernel_rfl)) k0 hb lt0) (trodAll_mk0), rfl, hb.frame _, fun h => by cases h⟩

theorem fnExactSingMany_holds : Rows.FnExactSingManySaid :=
  OpenClaim.holds_of_wide 11 Try.f11 rfl rfl rfl rfl rfl rfl rfl ⟨rfl, rfl, rfl, rfl, rfl⟩ rfl rfl rfl rfl rfl (by kernel_rfl) Try.func11 (by kernel_rfl)
    (of_decide_eq_true (by kernel_rfl)) (by unfold Func.isWrapper; first | (rw [if_pos (by decide +kernel)]; kernel_rfl) | (rw [if_neg (by decide +kernel)]; exact ⟨rfl, rfl⟩))
    (fun os started H enc _ => fnExactSingMany_lifted os started H enc)

end Go.Proofs.Ytgehfianpahgcab
