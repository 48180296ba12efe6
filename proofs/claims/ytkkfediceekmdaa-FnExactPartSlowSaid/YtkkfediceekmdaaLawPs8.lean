/-
  The exact law of PartSlow: for every list the function answers as its model, in memory of its own, and leaves its argument alone.
-/
import Derived.Test.YtkkfediceekmdaaPs
import Derived.Test.YtkkfediceekmdaaVk
import Derived.Test.YtkkfediceekmdaaOpen
namespace Go.Proofs.Ytkkfediceekmdaa
open Go.RowKit Go.ChangeShapes Go.WideShapes Go.ChangeAt
set_option maxRecDepth 100000
set_option linter.unusedVariables false

set_option maxHeartbeats 4000000 in
theorem Ps8_walk (a0 : Option Addr) (c0 : Nat) (xs : List Vc) (w : World) (h0 : ArgV w a0 xs) (hc0 : xs.length ≤ c0) (hcap0 : c0 ≤ maxLen) :
    Calls Try.prog 11 #[.slice a0 xs.length c0] w fun e w' => e = .returned (.bool true) ∧ Below w.heap.size w w' := by
  unfold maxLen at hcap0
  by_cases hn0 : xs.length ≤ 1048576
  case neg =>
    have hbw0 : Below w.heap.size w w := Below.refl _ _
    have HS0 := Lib.hid (fun w => szVoice1_any a0 xs.length c0 (by omega) w)
    rw [if_neg hn0] at HS0
    clear h0
    go_enter Try.func11, Try.ntmps11
    go_wp2_with (fail)
    (go_at_call 27; refine (HS0.out _).mono ?_; rintro e wx ⟨rfl, rfl⟩)
    go_wp2
    go_ret
    exact ⟨rfl, hbw0⟩
  have HS0 := Lib.hid (fun w => szVoice1_any a0 xs.length c0 (by omega) w)
  rw [if_pos hn0] at HS0
  have tz0 : decide ((1048576 : Int) - (xs.length : Int) < 0) = false := decide_eq_false (by omega)
  have HT0 := Lib.hid (fun w h => toVoiceS_any a0 c0 xs w h (by omega))
  have HA0 := Lib.hid h0
  have KS := Lib.hid (fun v w h => sPartSlow_any v xs w h)
  have KI := Lib.hid (fun v w h => partSlow_any v xs w h)
  unfold VBuilt2 at KS KI
  have hl : (psL xs).length ≤ 1048576 := by have := psL_len xs; omega
  generalize pval xs = ok at KS KI
  obtain ⟨K0, hK0⟩ : ∃ K : Int, K = 1 + 3 * (xs.length : Int) := ⟨_, rfl⟩
  have lK0 : 1 ≤ K0 ∧ K0 ≤ 5000000 := by omega
  have nK0 : decide (K0 < 0) = false := decide_eq_false (by omega)
  have HM0 := Lib.hid (fun lo hi v w h => markVoiceS_any lo hi v xs 1 (by omega) (by omega) (by omega) w h)
  unfold VMarked at HM0
  rw [← hK0] at HM0
  generalize psL xs = ys at KS KI hl
  obtain ⟨KG, hKG⟩ : ∃ K : Int, K = 1 + 3 * (ys.length : Int) := ⟨_, rfl⟩
  have lKG : 0 ≤ KG ∧ KG ≤ 50000000 := by omega
  have nKG : decide (KG < 0) = false := decide_eq_false (by omega)
  have HMG := Lib.hid (fun lo hi v w h => markVoiceS_any lo hi v ys 1 (by omega) (by omega) hl w h)
  unfold VMarked at HMG
  rw [← hKG] at HMG
  have HHG := Lib.hid (fun lo hi v w h => heldVoiceS_any lo hi v 1 ys.length (by omega) (by omega) hl w h)
  rw [← hKG] at HHG
  clear h0
  clear hK0
  clear hKG
  have hbw0 : Below w.heap.size w w := Below.refl _ _
  go_enter Try.func11, Try.ntmps11
  go_wp2_with (fail)
  (go_at_call 27; refine (HS0.out _).mono ?_; rintro e wx ⟨rfl, rfl⟩)
  go_wp2_with (fail)
  (go_at_call 29; refine (HT0.out _ (HA0.out.below hbw0)).mono ?_; rintro e w1 ⟨vp0, rfl, rp0, hb1⟩)
  have z1 := hb1.size
  have hbw1 := bl_step hbw0 hb1
  clear hb1
  go_wp2_with (fail)
  (go_at_call 45; refine (KS.out _ _ rp0.view).mono ?_; rintro e w2 ⟨us, rfl, gs, hb2⟩)
  have z2 := hb2.size
  have hbw2 := bl_step hbw1 hb2
  have rp0 := rp0.below hb2 (.inl (by omega))
  clear hb2
  clear rp0
  go_wp2_with (fail)
  (go_at_call 29; refine (HT0.out _ (HA0.out.below hbw2)).mono ?_; rintro e w3 ⟨vx0, rfl, rx0, hb3⟩)
  have z3 := hb3.size
  have hbw3 := bl_step hbw2 hb3
  have gs := gs.below hb3 (.inl (by omega))
  clear hb3
  go_wp2_with (fail)
  (go_at_call 46; refine (KI.out _ _ rx0.view).mono ?_; rintro e w4 ⟨ui, rfl, gi, hb4⟩)
  have z4 := hb4.size
  have hbw4 := bl_step hbw3 hb4
  have gs := gs.below hb4 (.inl (by omega))
  have rx0 := rx0.below hb4 (.inl (by omega))
  clear hb4
  go_wp2_with (fail)
  (go_at_call 31; refine (eqVoiceV_any _ _ ys _ gi.view gs.view).mono ?_; rintro e w5 ⟨rfl, hb5⟩)
  have z5 := hb5.size
  have hbw5 := bl_step hbw4 hb5
  have gs := gs.below hb5 (.inl (by omega))
  have rx0 := rx0.below hb5 (.inl (by omega))
  have gi := gi.below hb5 (.inl (by omega))
  clear hb5
  go_wp2_with (fail)
  (go_at_call 29; refine (HT0.out _ (HA0.out.below hbw5)).mono ?_; rintro e w6 ⟨vq0, rfl, rq0, hb6⟩)
  have z6 := hb6.size
  have hbw6 := bl_step hbw5 hb6
  have gs := gs.below hb6 (.inl (by omega))
  have rx0 := rx0.below hb6 (.inl (by omega))
  have gi := gi.below hb6 (.inl (by omega))
  clear hb6
  go_wp2_with (fail)
  (go_at_call 31; refine (eqVoiceV_any _ _ xs _ rx0.view rq0.view).mono ?_; rintro e w7 ⟨rfl, hb7⟩)
  have z7 := hb7.size
  have hbw7 := bl_step hbw6 hb7
  have gs := gs.below hb7 (.inl (by omega))
  have rx0 := rx0.below hb7 (.inl (by omega))
  have gi := gi.below hb7 (.inl (by omega))
  have rq0 := rq0.below hb7 (.inl (by omega))
  clear hb7
  clear rq0
  go_wp2_with (fail)
  (go_at_call 38; refine (HM0.out _ _ _ _ rx0).mono ?_; rintro e w8 ⟨rfl, hq8, ht8⟩)
  have z8 := ht8.size
  have hbw8 : Below w.heap.size w w8 := hbw7.trans (ht8.below (by omega) (by omega))
  have gs := gs.turned ht8 (.inl (by omega))
  have gi := gi.turned ht8 (.inr (by omega))
  clear ht8
  clear hq8
  clear rx0
  go_wp2_with (fail)
  (go_at_call 31; refine (eqVoiceV_any _ _ ys _ gi.view gs.view).mono ?_; rintro e w9 ⟨rfl, hb9⟩)
  have z9 := hb9.size
  have hbw9 := bl_step hbw8 hb9
  have gs := gs.below hb9 (.inl (by omega))
  have gi := gi.below hb9 (.inl (by omega))
  clear hb9
  go_wp2_with (fail)
  (go_at_call 38; refine (HMG.out _ _ _ _ gi).mono ?_; rintro e w10 ⟨rfl, gq, ht10⟩)
  have z10 := ht10.size
  have hbw10 : Below w.heap.size w w10 := hbw9.trans (ht10.below (by omega) (by omega))
  have gs := gs.turned ht10 (.inl (by omega))
  clear ht10
  go_wp2_with (fail)
  (go_at_call 39; refine (HHG.out _ _ _ _ gq).mono ?_; rintro e wx ⟨rfl, rfl⟩)
  clear gi
  go_wp2_with (fail)
  (go_at_call 29; refine (HT0.out _ (HA0.out.below hbw10)).mono ?_; rintro e w11 ⟨vh0, rfl, rh0, hb11⟩)
  have z11 := hb11.size
  have hbw11 := bl_step hbw10 hb11
  have gs := gs.below hb11 (.inl (by omega))
  have gq := gq.below hb11 (.inl (by omega))
  clear hb11
  go_wp2_with (fail)
  (go_at_call 46; refine (KI.out _ _ rh0.view).mono ?_; rintro e w12 ⟨uh, rfl, gh, hb12⟩)
  have z12 := hb12.size
  have hbw12 := bl_step hbw11 hb12
  have gs := gs.below hb12 (.inl (by omega))
  have gq := gq.below hb12 (.inl (by omega))
  have rh0 := rh0.below hb12 (.inl (by omega))
  clear hb12
  clear rh0
  go_wp2_with (fail)
  (go_at_call 31; refine (eqVoiceV_any _ _ ys _ gh.view gs.view).mono ?_; rintro e w13 ⟨rfl, hb13⟩)
  have z13 := hb13.size
  have hbw13 := bl_step hbw12 hb13
  have gs := gs.below hb13 (.inl (by omega))
  have gq := gq.below hb13 (.inl (by omega))
  have gh := gh.below hb13 (.inl (by omega))
  clear hb13
  clear gs gh
  go_wp2_with (fail)
  (go_at_call 39; refine (HHG.out _ _ _ _ gq).mono ?_; rintro e wx ⟨rfl, rfl⟩)
  go_wp2
  go_ret
  exact ⟨rfl, hbw13⟩

set_option maxRecDepth 100000 in
theorem fnExactPartSlow_lifted (os : Os) (started : os.Started) (H : Type) (enc : TypeId × Value → H) :
    ReturnsInHanded {} Try.checked os 11 .any (Rows.fnExactPartSlowSpec.pre6 enc Try.prog Try.f11 Rows.fnExactPartSlowRow.domain false) (Rows.fnExactPartSlowSpec.post enc Try.prog Try.f11 false true false false) := by
  refine returnsInHanded_of_change (C := Try.checked) own started (by kernel_rfl) Try.func11
    (ChangeSpec.witness6 (enc := enc) (C := Try.checked) false ⟨#[], #[.slice none 0 0], []⟩ 8 (by kernel_rfl) (by kernel_rfl) (by kernel_rfl) (by kernel_rfl)) ?_
  intro W base args ds gs before hval0 hW _ _
  have hval : ∀ (j : Nat) t v, Try.f11.params[j]? = some t → args[j]? = some v → Value.okWide Try.prog W .any base t v := hval0
  have hW' := hW
  obtain ⟨p, q, hA0, hV, rfl, _, _⟩ := hW
  have hA : DataW.TrodAll enc Try.prog W 0 (fun _ => true) true Try.f11.params.toList args.toList ds p := hA0
  rw [Try.params11] at hA hval
  obtain ⟨v0, vs0, d0, ds0, p0, q0, hargs, rfl, rfl, h0, r0⟩ := trodAll_cons hA
  obtain ⟨rfl, rfl, rfl⟩ := trodAll_nil r0
  obtain rfl : args = #[v0] := by cases args; simp_all
  obtain ⟨rfl, rfl⟩ := trodVars_none hV
  obtain ⟨a0, n0, c0, rfl⟩ := okWide_slice Try.underlying33 (hval 0 33 v0 rfl rfl)
  have k0 := h0
  have lt0 : ∀ x ∈ p0, x.block < W.heap.size := by obtain ⟨m, hm⟩ := k0; exact DataW.trod_lt m _ _ _ hm
  obtain ⟨x0, rfl, y0, z0, u0⟩ := voices_in h0
  clear hA0 hval0
  refine (Ps8_walk a0 c0 x0 W y0 z0 u0).mono fun e W' ⟨he, hb⟩ => ?_
  subst he
  exact ⟨_, rfl, _, _, _, [], _, [], hW', trodAll_cons_mk (shut_bool Try.underlying4 _) trodAll_mk0, trodAll_cons_mk (Below.trod laidOut (by kernel_rfl) (of_decide_eq_true (by kernel_rfl)) k0 hb lt0) (trodAll_mk0), rfl, hb.frame _, fun h => by cases h⟩

theorem fnExactPartSlow_holds : Rows.FnExactPartSlowSaid :=
  OpenClaim.holds_of_wide 11 Try.f11 rfl rfl rfl rfl rfl rfl rfl ⟨rfl, rfl, rfl, rfl, rfl⟩ rfl rfl rfl rfl rfl (by kernel_rfl) Try.func11 (by kernel_rfl)
    (of_decide_eq_true (by kernel_rfl)) (by unfold Func.isWrapper; first | (rw [if_pos (by decide +kernel)]; kernel_rfl) | (rw [if_neg (by decide +kernel)]; exact ⟨rfl, rfl⟩))
    (fun os started H enc _ => fnExactPartSlow_lifted os started H enc)

end Go.Proofs.Ytkkfediceekmdaa
