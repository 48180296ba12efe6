/-
  The exact law of ContourOf: for every list of tones the function answers as its model, and leaves its argument alone.
-/
import Derived.Test.YtjodcaeohkjlnabCox
import Derived.Test.YtjodcaeohkjlnabOpenT
import Derived.Test.YtjodcaeohkjlnabTL3
namespace Go.Proofs.Ytjodcaeohkjlnab
open Go.RowKit Go.ChangeShapes Go.WideShapes Go.ChangeAt
set_option maxRecDepth 100000
set_option linter.unusedVariables false

set_option maxHeartbeats 4000000 in
theorem exContourOf_walk (a : Option Addr) (c : Nat) (xs : List (Int × Bool)) (w : World) (h : ArgT w a xs) (hc : xs.length ≤ c) (hcap : c ≤ maxLen) :
    Calls Try.prog 9 #[.slice a xs.length c] w fun e w' => e = .returned (.bool true) ∧ Below w.heap.size w w' := by
  unfold maxLen at hcap
  have hsq : ((ctO xs).toList != (ctO xs).toList) = false := by simp
  by_cases hn : xs.length ≤ 1048576
  · have HS := Lib.hid (szToneS_any a xs.length c (by omega))
    rw [if_pos hn] at HS
    have HA := Lib.hid h
    have hg : decide ((1048576 : Int) - (xs.length : Int) < 0) = false := by simp; omega
    clear h
    go_enter Try.func9, Try.ntmps9
    go_wp2_with (fail)
    (go_at_call 40; refine (HS.out _).mono ?_; rintro e wx ⟨rfl, rfl⟩)
    go_wp2_with (fail)
    (go_at_call 42; refine (toToneS_any a c xs _ HA.out hn).mono ?_; rintro e w1 ⟨v0, rfl, hr0, hb1⟩)
    go_wp2_with (fail)
    (go_at_call 41; refine (sContourOf_any _ _ _ xs _ hr0).mono ?_; rintro e w2 ⟨rfl, hb2⟩)
    have hbw2 := bl_step hb1 hb2
    clear hr0
    go_wp2_with (fail)
    (go_at_call 42; refine (toToneS_any a c xs _ (HA.out.below hbw2) hn).mono ?_; rintro e w3 ⟨v1, rfl, hr1, hb3⟩)
    have hbw3 := bl_step hbw2 hb3
    go_wp2_with (fail)
    (go_at_call 39; refine (contourOf_any _ _ _ xs _ hr1).mono ?_; rintro e w4 ⟨rfl, hb4⟩)
    have hbw4 := bl_step hbw3 hb4
    have z3 := hb3.size; have z4 := hb4.size
    have hr1 := hr1.below hb4 (.inl (by omega))
    go_wp2_with (fail)
    (go_at_call 42; refine (toToneS_any a c xs _ (HA.out.below hbw4) hn).mono ?_; rintro e w5 ⟨v2, rfl, hr2, hb5⟩)
    have hbw5 := bl_step hbw4 hb5
    have hr1 := hr1.below hb5 (.inl (by omega))
    go_wp2_with (fail)
    (go_at_call 43; refine (eqToneS_any _ _ _ _ _ _ xs _ hr1 hr2).mono ?_; rintro e w6 ⟨rfl, hb6⟩)
    go_wp2
    go_ret
    exact ⟨rfl, bl_step hbw5 hb6⟩
  · have HS := Lib.hid (szToneS_any a xs.length c (by omega))
    rw [if_neg hn] at HS
    clear h hn
    go_enter Try.func9, Try.ntmps9
    go_wp2_with (fail)
    (go_at_call 40; refine (HS.out _).mono ?_; rintro e wx ⟨rfl, rfl⟩)
    go_wp2
    go_ret
    exact ⟨rfl, Below.refl _ _⟩

set_option maxRecDepth 100000 in
theorem fnExactContourOf_lifted (os : Os) (started : os.Started) (H : Type) (enc : TypeId × Value → H) :
    ReturnsInHanded {} Try.checked os 9 .any (Rows.fnExactContourOfSpec.pre6 enc Try.prog Try.f9 Rows.fnExactContourOfRow.domain false) (Rows.fnExactContourOfSpec.post enc Try.prog Try.f9 false true false false) := by
  refine returnsInHanded_of_change (C := Try.checked) own started (by kernel_rfl) Try.func9
    (ChangeSpec.witness6 (enc := enc) (C := Try.checked) false ⟨#[], #[.slice none 0 0], []⟩ 8 (by kernel_rfl) (by kernel_rfl) (by kernel_rfl) (by kernel_rfl)) ?_
  intro W base args ds gs before hval0 hW _ _
  have hval : ∀ (j : Nat) t v, Try.f9.params[j]? = some t → args[j]? = some v → Value.okWide Try.prog W .any base t v := hval0
  have hW' := hW
  obtain ⟨p, q, hA0, hV, rfl, _, _⟩ := hW
  have hA : DataW.TrodAll enc Try.prog W 0 (fun _ => true) true Try.f9.params.toList args.toList ds p := hA0
  rw [Try.params9] at hA hval
  obtain ⟨v0, vs0, d0, ds0, p0, q0, hargs, rfl, rfl, h0, r0⟩ := trodAll_cons hA
  obtain ⟨rfl, rfl, rfl⟩ := trodAll_nil r0
  obtain rfl : args = #[v0] := by cases args; simp_all
  obtain ⟨rfl, rfl⟩ := trodVars_none hV
  obtain ⟨a0, n0, c0, rfl⟩ := okWide_slice Try.underlying52 (hval 0 52 v0 rfl rfl)
  have k0 := h0
  have lt0 : ∀ x ∈ p0, x.block < W.heap.size := by obtain ⟨m, hm⟩ := k0; exact DataW.trod_lt m _ _ _ hm
  obtain ⟨x0, rfl, y0, z0, u0⟩ := tones_in h0
  clear hA0 hval0
  refine (exContourOf_walk a0 c0 x0 W y0 z0 u0).mono fun e W' ⟨he, hb⟩ => ?_
  subst he
  exact ⟨_, rfl, _, _, _, [], _, [], hW', trodAll_cons_mk (shut_bool Try.underlying4 _) trodAll_mk0, trodAll_cons_mk (Below.trod laidOut (by kernel_rfl) (of_decide_eq_true (by kernel_rfl)) k0 hb lt0) (trodAll_mk0), rfl, hb.frame _, fun h => by cases h⟩

theorem fnExactContourOf_holds : Rows.FnExactContourOfSaid :=
  OpenClaim.holds_of_wide 9 Try.f9 rfl rfl rfl rfl rfl rfl rfl ⟨rfl, rfl, rfl, rfl, rfl⟩ rfl rfl rfl rfl rfl (by kernel_rfl) Try.func9 (by kernel_rfl)
    (of_decide_eq_true (by kernel_rfl)) (by unfold Func.isWrapper; first | (rw [if_pos (by decide +kernel)]; kernel_rfl) | (rw [if_neg (by decide +kernel)]; exact ⟨rfl, rfl⟩))
    (fun os started H enc _ => fnExactContourOf_lifted os started H enc)

end Go.Proofs.Ytjodcaeohkjlnab
