/-
  The exact law of PartValid: for every list the function answers as its model, and leaves its argument alone.
-/
import Derived.Test.YtkkfediceekmdaaSp8
import Derived.Test.YtkkfediceekmdaaVk
import Derived.Test.YtkkfediceekmdaaOpen
namespace Go.Proofs.Ytkkfediceekmdaa
open Go.RowKit Go.ChangeShapes Go.WideShapes Go.ChangeAt
set_option maxRecDepth 100000
set_option linter.unusedVariables false

set_option maxHeartbeats 4000000 in
theorem Pv8_walk (a0 : Option Addr) (c0 : Nat) (xs : List Vc) (w : World) (h0 : ArgV w a0 xs) (hc0 : xs.length ≤ c0) (hcap0 : c0 ≤ maxLen) :
    Calls Try.prog 7 #[.slice a0 xs.length c0] w fun e w' => e = .returned (.bool true) ∧ Below w.heap.size w w' := by
  unfold maxLen at hcap0
  by_cases hn0 : xs.length ≤ 1048576
  case neg =>
    have hbw0 : Below w.heap.size w w := Below.refl _ _
    have HS0 := Lib.hid (fun w => szVoice1_any a0 xs.length c0 (by omega) w)
    rw [if_neg hn0] at HS0
    clear h0
    go_enter Try.func7, Try.ntmps7
    go_wp2_with (fail)
    (go_at_call 27; refine (HS0.out _).mono ?_; rintro e wx ⟨rfl, rfl⟩)
    go_wp2
    go_ret
    exact ⟨rfl, hbw0⟩
  have HS0 := Lib.hid (fun w => szVoice1_any a0 xs.length c0 (by omega) w)
  rw [if_pos hn0] at HS0
  have tz0 : decide ((1048576 : Int) - (xs.length : Int) < 0) = false := decide_eq_false (by omega)
  have HT0 := Lib.hid (fun w h => toVoiceS_any a0 c0 xs w h (by omega))
  have HA0 := Lib.hid h0
  have KS := Lib.hid (fun v w h => sPartValid8_any v xs w h)
  have KI := Lib.hid (fun v w h => partValid8_any v xs w h)
  generalize pval xs = b at KS KI
  clear h0
  have hbw0 : Below w.heap.size w w := Below.refl _ _
  go_enter Try.func7, Try.ntmps7
  go_wp2_with (fail)
  (go_at_call 27; refine (HS0.out _).mono ?_; rintro e wx ⟨rfl, rfl⟩)
  go_wp2_with (fail)
  (go_at_call 29; refine (HT0.out _ (HA0.out.below hbw0)).mono ?_; rintro e w1 ⟨vp0, rfl, rp0, hb1⟩)
  have z1 := hb1.size
  have hbw1 := bl_step hbw0 hb1
  clear hb1
  go_wp2_with (fail)
  (go_at_call 28; refine (KS.out _ _ rp0.view).mono ?_; rintro e w2 ⟨rfl, hb2⟩)
  have z2 := hb2.size
  have hbw2 := bl_step hbw1 hb2
  have rp0 := rp0.below hb2 (.inl (by omega))
  clear hb2
  clear rp0
  go_wp2_with (fail)
  (go_at_call 29; refine (HT0.out _ (HA0.out.below hbw2)).mono ?_; rintro e w3 ⟨vx0, rfl, rx0, hb3⟩)
  have z3 := hb3.size
  have hbw3 := bl_step hbw2 hb3
  clear hb3
  go_wp2_with (fail)
  (go_at_call 30; refine (KI.out _ _ rx0.view).mono ?_; rintro e w4 ⟨rfl, hb4⟩)
  have z4 := hb4.size
  have hbw4 := bl_step hbw3 hb4
  have rx0 := rx0.below hb4 (.inl (by omega))
  clear hb4
  go_wp2_with (fail)
  (go_at_call 29; refine (HT0.out _ (HA0.out.below hbw4)).mono ?_; rintro e w5 ⟨vq0, rfl, rq0, hb5⟩)
  have z5 := hb5.size
  have hbw5 := bl_step hbw4 hb5
  have rx0 := rx0.below hb5 (.inl (by omega))
  clear hb5
  go_wp2_with (fail)
  (go_at_call 31; refine (eqVoiceV_any _ _ xs _ rx0.view rq0.view).mono ?_; rintro e w6 ⟨rfl, hb6⟩)
  have z6 := hb6.size
  have hbw6 := bl_step hbw5 hb6
  have rx0 := rx0.below hb6 (.inl (by omega))
  have rq0 := rq0.below hb6 (.inl (by omega))
  clear hb6
  clear rq0
  go_wp2
  go_ret
  exact ⟨rfl, hbw6⟩

set_option maxRecDepth 100000 in
theorem fnExactPartValid_lifted (os : Os) (started : os.Started) (H : Type) (enc : TypeId × Value → H) :
    ReturnsInHanded {} Try.checked os 7 .any (Rows.fnExactPartValidSpec.pre6 enc Try.prog Try.f7 Rows.fnExactPartValidRow.domain false) (Rows.fnExactPartValidSpec.post enc Try.prog Try.f7 false true false false) := by
  refine returnsInHanded_of_change (C := Try.checked) own started (by kernel_rfl) Try.func7
    (ChangeSpec.witness6 (enc := enc) (C := Try.checked) false ⟨#[], #[.slice none 0 0], []⟩ 8 (by kernel_rfl) (by kernel_rfl) (by kernel_rfl) (by kernel_rfl)) ?_
  intro W base args ds gs before hval0 hW _ _
  have hval : ∀ (j : Nat) t v, Try.f7.params[j]? = some t → args[j]? = some v → Value.okWide Try.prog W .any base t v := hval0
  have hW' := hW
  obtain ⟨p, q, hA0, hV, rfl, _, _⟩ := hW
  have hA : DataW.TrodAll enc Try.prog W 0 (fun _ => true) true Try.f7.params.toList args.toList ds p := hA0
  rw [Try.params7] at hA hval
  obtain ⟨v0, vs0, d0, ds0, p0, q0, hargs, rfl, rfl, h0, r0⟩ := trodAll_cons hA
  obtain ⟨rfl, rfl, rfl⟩ := trodAll_nil r0
  obtain rfl : args = #[v0] := by cases args; simp_all
  obtain ⟨rfl, rfl⟩ := trodVars_none hV
  obtain ⟨a0, n0, c0, rfl⟩ := okWide_slice Try.underlying33 (hval 0 33 v0 rfl rfl)
  have k0 := h0
  have lt0 : ∀ x ∈ p0, x.block < W.heap.size := by obtain ⟨m, hm⟩ := k0; exact DataW.trod_lt m _ _ _ hm
  obtain ⟨x0, rfl, y0, z0, u0⟩ := voices_in h0
  clear hA0 hval0
  refine (Pv8_walk a0 c0 x0 W y0 z0 u0).mono fun e W' ⟨he, hb⟩ => ?_
  subst he
  exact ⟨_, rfl, _, _, _, [], _, [], hW', trodAll_cons_mk (shut_bool Try.underlying4 _) trodAll_mk0, trodAll_cons_mk (Below.trod laidOut (by kernel_rfl) (of_decide_eq_true (by kernel_rfl)) k0 hb lt0) (trodAll_mk0), rfl, hb.frame _, fun h => by cases h⟩

theorem fnExactPartValid_holds : Rows.FnExactPartValidSaid :=
  OpenClaim.holds_of_wide 7 Try.f7 rfl rfl rfl rfl rfl rfl rfl ⟨rfl, rfl, rfl, rfl, rfl⟩ rfl rfl rfl rfl rfl (by kernel_rfl) Try.func7 (by kernel_rfl)
    (of_decide_eq_true (by kernel_rfl)) (by unfold Func.isWrapper; first | (rw [if_pos (by decide +kernel)]; kernel_rfl) | (rw [if_neg (by decide +kernel)]; exact ⟨rfl, rfl⟩))
    (fun os started H enc _ => fnExactPartValid_lifted os started H enc)

end Go.Proofs.Ytkkfediceekmdaa
