/-
  The exact law of SingBest: for every list the function answers as its model, in memory of its own, and leaves its argument alone.
-/
import Derived.Test.YtbmgejiinnnomabSg8
import Derived.Test.YtbmgejiinnnomabTurn
import Derived.Test.YtbmgejiinnnomabOpenT
namespace Go.Proofs.Ytbmgejiinnnomab
open Go.RowKit Go.ChangeShapes Go.WideShapes Go.ChangeAt
set_option maxRecDepth 100000
set_option linter.unusedVariables false

set_option maxHeartbeats 4000000 in
theorem exSingBest_walk (a : Option Addr) (c : Nat) (xs : List (Int × Bool)) (w : World) (h : ArgT w a xs) (hc : xs.length ≤ c) (hcap : c ≤ maxLen)  :
    Calls Try.prog 6 #[.slice a xs.length c] w fun e w' => e = .returned (.bool true) ∧ Below w.heap.size w w' := by
  unfold maxLen at hcap
  by_cases hn : xs.length ≤ 1048576
  · have HS := Lib.hid (szToneS_any a xs.length c (by omega))
    rw [if_pos hn] at HS
    have HA := Lib.hid h
    have hg : decide ((1048576 : Int) - (xs.length : Int) < 0) = false := by simp; omega
    have KS := Lib.hid (fun lo hi v w h => sSingBest_any lo hi v xs w h)
    have KI := Lib.hid (fun lo hi v w h => singBest_any lo hi v xs w h)
    have hl : (sbL xs).length ≤ 1000000 := by have := sbL_len xs; omega
    clear h
    generalize sbL xs = ys at KS KI hl
    generalize sbB xs = ok at KS KI
    have en : ((1 : Int) + 2 * (xs.length : Int) < 0) = False := by simp; omega
    have en2 : ((1 : Int) + (ys.length : Int) < 0) = False := by simp; omega
    go_enter Try.func6, Try.ntmps6
    go_wp2_with (fail)
    (go_at_call 17; refine (HS.out _).mono ?_; rintro e wx ⟨rfl, rfl⟩)
    go_wp2_with (fail)
    (go_at_call 18; refine (toToneS_any a c xs _ HA.out hn).mono ?_; rintro e w1 ⟨v0, rfl, hr0, hb1⟩)
    go_wp2_with (fail)
    (go_at_call 9; refine (KS.out _ _ _ _ hr0).mono ?_; rintro e w2 ⟨u0, rfl, hs0, hb2⟩)
    have hbw2 := bl_step hb1 hb2
    go_wp2_with (fail)
    (go_at_call 18; refine (toToneS_any a c xs _ (HA.out.below hbw2) hn).mono ?_; rintro e w3 ⟨v1, rfl, hr1, hb3⟩)
    have hbw3 := bl_step hbw2 hb3
    have hs0 := hs0.below hb3 (.inl (Nat.le_refl _))
    go_wp2_with (fail)
    (go_at_call 8; refine (KI.out _ _ _ _ hr1).mono ?_; rintro e w4 ⟨u1, rfl, hs1, hb4⟩)
    have hbw4 := bl_step hbw3 hb4
    have hs0 := hs0.below hb4 (.inl hb3.size)
    have hr1 := hr1.below hb4 (.inl (Nat.le_refl _))
    go_wp2_with (fail)
    (go_at_call 19; refine (eqInt_any _ _ _ _ _ _ ys _ hs1 hs0).mono ?_; rintro e w5 ⟨rfl, hb5⟩)
    have hbw5 := bl_step hbw4 hb5
    have hs0 := hs0.below hb5 (.inl (by have := hb3.size; have := hb4.size; omega))
    have hr1 := hr1.below hb5 (.inl hb4.size)
    have hs1 := hs1.below hb5 (.inl (Nat.le_refl _))
    go_wp2_with (fail)
    (go_at_call 18; refine (toToneS_any a c xs _ (HA.out.below hbw5) hn).mono ?_; rintro e w6 ⟨v2, rfl, hr2, hb6⟩)
    have hbw6 := bl_step hbw5 hb6
    have z3 := hb3.size; have z4 := hb4.size; have z5 := hb5.size; have z6 := hb6.size
    have hs0 := hs0.below hb6 (.inl (by omega))
    have hr1 := hr1.below hb6 (.inl (by omega))
    have hs1 := hs1.below hb6 (.inl (by omega))
    go_wp2_with (fail)
    (go_at_call 20; refine (eqToneS_any _ _ _ _ _ _ xs _ hr1 hr2).mono ?_; rintro e w7 ⟨rfl, hb7⟩)
    have hbw7 := bl_step hbw6 hb7
    have z7 := hb7.size
    have hs0 := hs0.below hb7 (.inl (by omega))
    have hr1 := hr1.below hb7 (.inl (by omega))
    have hs1 := hs1.below hb7 (.inl (by omega))
    clear hr2 hb1 hb2 hb3 hb4 hb5 hb6 hb7
    go_wp2_with (fail)
    (go_at_call 21; refine (markToneS_any _ _ _ _ 1 (by omega) (by omega) hn _ hr1).mono ?_; rintro e w8 ⟨rfl, hq1, ht8⟩)
    have z8 := ht8.size
    have hbw8 : Below w.heap.size w w8 := hbw7.trans (ht8.below hbw2.size (by omega))
    have hs0 := hs0.turned ht8 (.inl (Nat.le_refl _))
    have hs1 := hs1.turned ht8 (.inr (Nat.le_refl _))
    clear hq1 hr1 ht8
    go_wp2_with (fail)
    (go_at_call 19; refine (eqInt_any _ _ _ _ _ _ ys _ hs1 hs0).mono ?_; rintro e w9 ⟨rfl, hb9⟩)
    have z9 := hb9.size
    have hbw9 := bl_step hbw8 hb9
    have hs0 := hs0.below hb9 (.inl (by omega))
    have hs1 := hs1.below hb9 (.inl (by omega))
    clear hb9
    go_wp2_with (fail)
    (go_at_call 22; refine (markInt_any _ _ _ _ 1 (by omega) (by omega) hl _ hs1).mono ?_; rintro e w10 ⟨rfl, hq1, ht10⟩)
    have z10 := ht10.size
    have hbw10 : Below w.heap.size w w10 := hbw9.trans (ht10.mono (Nat.le_trans hbw2.size z3))
    have hs0 := hs0.below ht10 (.inl (by omega))
    clear hs1 ht10
    go_wp2_with (fail)
    (go_at_call 23; refine (heldInt_any _ _ _ 1 _ (by omega) (by omega) hl _ hq1).mono ?_; rintro e wx ⟨rfl, rfl⟩)
    go_wp2_with (fail)
    (go_at_call 18; refine (toToneS_any a c xs _ (HA.out.below hbw10) hn).mono ?_; rintro e w11 ⟨v3, rfl, hr3, hb11⟩)
    have hbw11 := bl_step hbw10 hb11
    have z11 := hb11.size
    have hs0 := hs0.below hb11 (.inl (by omega))
    have hq1 := hq1.below hb11 (.inl (by omega))
    go_wp2_with (fail)
    (go_at_call 8; refine (KI.out _ _ _ _ hr3).mono ?_; rintro e w12 ⟨u2, rfl, hs2, hb12⟩)
    have hbw12 := bl_step hbw11 hb12
    have z12 := hb12.size
    have hs0 := hs0.below hb12 (.inl (by omega))
    have hq1 := hq1.below hb12 (.inl (by omega))
    clear hr3 hb11 hb12
    go_wp2_with (fail)
    (go_at_call 19; refine (eqInt_any _ _ _ _ _ _ ys _ hs2 hs0).mono ?_; rintro e w13 ⟨rfl, hb13⟩)
    have hbw13 := bl_step hbw12 hb13
    have hq1 := hq1.below hb13 (.inl (by omega))
    clear hs0 hs2
    go_wp2_with (fail)
    (go_at_call 23; refine (heldInt_any _ _ _ 1 _ (by omega) (by omega) hl _ hq1).mono ?_; rintro e wx ⟨rfl, rfl⟩)
    go_wp2
    go_ret
    exact ⟨rfl, hbw13⟩
  · have HS := Lib.hid (szToneS_any a xs.length c (by omega))
    rw [if_neg hn] at HS
    clear h hn
    go_enter Try.func6, Try.ntmps6
    go_wp2_with (fail)
    (go_at_call 17; refine (HS.out _).mono ?_; rintro e wx ⟨rfl, rfl⟩)
    go_wp2
    go_ret
    exact ⟨rfl, Below.refl _ _⟩

set_option maxRecDepth 100000 in
theorem fnExactSingBest_lifted (os : Os) (started : os.Started) (H : Type) (enc : TypeId × Value → H) :
    ReturnsInHanded {} Try.checked os 6 .any (Rows.fnExactSingBestSpec.pre6 enc Try.prog Try.f6 Rows.fnExactSingBestRow.domain false) (Rows.fnExactSingBestSpec.post enc Try.prog Try.f6 false true false false) := by
  refine returnsInHanded_of_change (C := Try.checked) own started (by kernel_rfl) Try.func6
    (ChangeSpec.witness6 (enc := enc) (C := Try.checked) false ⟨#[], #[.slice none 0 0], []⟩ 8 (by kernel_rfl) (by kernel_rfl) (by kernel_rfl) (by kernel_rfl)) ?_
  intro W base args ds gs before hval0 hW _ _
  have hval : ∀ (j : Nat) t v, Try.f6.params[j]? = some t → args[j]? = some v → Value.okWide Try.prog W .any base t v := hval0
  have hW' := hW
  obtain ⟨p, q, hA0, hV, rfl, _, _⟩ := hW
  have hA : DataW.TrodAll enc Try.prog W 0 (fun _ => true) true Try.f6.params.toList args.toList ds p := hA0
  rw [Try.params6] at hA hval
  obtain ⟨v0, vs0, d0, ds0, p0, q0, hargs, rfl, rfl, h0, r0⟩ := trodAll_cons hA
  obtain ⟨rfl, rfl, rfl⟩ := trodAll_nil r0
  obtain rfl : args = #[v0] := by cases args; simp_all
  obtain ⟨rfl, rfl⟩ := trodVars_none hV
  obtain ⟨a0, n0, c0, rfl⟩ := okWide_slice Try.underlying36 (hval 0 36 v0 rfl rfl)
  have k0 := h0
  have lt0 : ∀ x ∈ p0, x.block < W.heap.size := by obtain ⟨m, hm⟩ := k0; exact DataW.trod_lt m _ _ _ hm
  obtain ⟨x0, rfl, y0, z0, u0⟩ := tones_in h0
  clear hA0 hval0
  refine (exSingBest_walk a0 c0 x0 W y0 z0 u0).mono fun e W' ⟨he, hb⟩ => ?_
  subst he
  exact ⟨_, rfl, _, _, _, [], _, [], hW', trodAll_cons_mk (shut_bool Try.underlying4 _) trodAll_mk0, trodAll_cons_mk (Below.trod laidOut (by kernel_rfl) (of_decide_eq_true (by kernel_rfl)) k0 hb lt0) (trodAll_mk0), rfl, hb.frame _, fun h => by cases h⟩

theorem fnExactSingBest_holds : Rows.FnExactSingBestSaid :=
  OpenClaim.holds_of_wide 6 Try.f6 rfl rfl rfl rfl rfl rfl rfl ⟨rfl, rfl, rfl, rfl, rfl⟩ rfl rfl rfl rfl rfl (by kernel_rfl) Try.func6 (by kernel_rfl)
    (of_decide_eq_true (by kernel_rfl)) (by unfold Func.isWrapper; first | (rw [if_pos (by decide +kernel)]; kernel_rfl) | (rw [if_neg (by decide +kernel)]; exact ⟨rfl, rfl⟩))
    (fun os started H enc _ => fnExactSingBest_lifted os started H enc)

end Go.Proofs.Ytbmgejiinnnomab
