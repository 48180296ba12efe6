/-
  The exact law of DiscantTogether: for any two lists the function answers as its model, and leaves its arguments alone.
-/
import Derived.Test.YtkkfediceekmdaaDj
import Derived.Test.YtkkfediceekmdaaDs
import Derived.Test.YtkkfediceekmdaaVk
import Derived.Test.YtkkfediceekmdaaOpen
namespace Go.Proofs.Ytkkfediceekmdaa
open Go.RowKit Go.ChangeShapes Go.WideShapes Go.ChangeAt
set_option maxRecDepth 100000
set_option linter.unusedVariables false

set_option maxHeartbeats 4000000 in
theorem Dt8_walk (a0 : Option Addr) (c0 : Nat) (xs : List Vc) (a1 : Option Addr) (c1 : Nat) (ys : List Vc) (w : World) (h0 : ArgV w a0 xs) (hc0 : xs.length ≤ c0) (hcap0 : c0 ≤ maxLen) (h1 : ArgV w a1 ys) (hc1 : ys.length ≤ c1) (hcap1 : c1 ≤ maxLen) :
    Calls Try.prog 12 #[.slice a0 xs.length c0, .slice a1 ys.length c1] w fun e w' => e = .returned (.bool true) ∧ Below w.heap.size w w' := by
  unfold maxLen at hcap0
  unfold maxLen at hcap1
  by_cases hn0 : xs.length ≤ 1048576
  case neg =>
    have hbw0 : Below w.heap.size w w := Below.refl _ _
    have HS0 := Lib.hid (fun w => szVoice1_any a0 xs.length c0 (by omega) w)
    rw [if_neg hn0] at HS0
    clear h0
    clear h1
    go_enter Try.func12, Try.ntmps12
    go_wp2_with (fail)
    (go_at_call 27; refine (HS0.out _).mono ?_; rintro e wx ⟨rfl, rfl⟩)
    go_wp2
    go_ret
    exact ⟨rfl, hbw0⟩
  obtain ⟨L1, hL1⟩ : ∃ L : Nat, (1048576 : Int) - (xs.length : Int) = (L : Int) := ⟨1048576 - xs.length, by omega⟩
  have hLL1 : L1 ≤ 1048576 := by omega
  by_cases hn1 : ys.length ≤ L1
  case neg =>
    have hbw0 : Below w.heap.size w w := Below.refl _ _
    have HS0 := Lib.hid (fun w => szVoice1_any a0 xs.length c0 (by omega) w)
    rw [if_pos hn0] at HS0
    rw [hL1] at HS0
    have tz0 : decide ((L1 : Int) < 0) = false := decide_eq_false (by omega)
    have HS1 := Lib.hid (fun w => szVoice_any a1 ys.length c1 (by omega) L1 hLL1 w)
    rw [if_neg hn1] at HS1
    clear h0
    clear h1
    clear hL1
    go_enter Try.func12, Try.ntmps12
    go_wp2_with (fail)
    (go_at_call 27; refine (HS0.out _).mono ?_; rintro e wx ⟨rfl, rfl⟩)
    go_wp2_with (fail)
    (go_at_call 27; refine (HS1.out _).mono ?_; rintro e wx ⟨rfl, rfl⟩)
    go_wp2
    go_ret
    exact ⟨rfl, hbw0⟩
  have HS0 := Lib.hid (fun w => szVoice1_any a0 xs.length c0 (by omega) w)
  rw [if_pos hn0] at HS0
  rw [hL1] at HS0
  have tz0 : decide ((L1 : Int) < 0) = false := decide_eq_false (by omega)
  have HT0 := Lib.hid (fun w h => toVoiceS_any a0 c0 xs w h (by omega))
  have HA0 := Lib.hid h0
  have HS1 := Lib.hid (fun w => szVoice_any a1 ys.length c1 (by omega) L1 hLL1 w)
  rw [if_pos hn1] at HS1
  have tz1 : decide ((L1 : Int) - (ys.length : Int) < 0) = false := decide_eq_false (by omega)
  have HT1 := Lib.hid (fun w h => toVoiceS_any a1 c1 ys w h (by omega))
  have HA1 := Lib.hid h1
  have KS := Lib.hid (fun v u w h k => sDiscantTogether_any v u xs ys w h k)
  have KI := Lib.hid (fun v u w h k => discantTogether_any v u xs ys w h k)
  generalize tog xs ys = b at KS KI
  clear h0
  clear h1
  have hbw0 : Below w.heap.size w w := Below.refl _ _
  go_enter Try.func12, Try.ntmps12
  go_wp2_with (fail)
  (go_at_call 27; refine (HS0.out _).mono ?_; rintro e wx ⟨rfl, rfl⟩)
  go_wp2_with (fail)
  (go_at_call 27; refine (HS1.out _).mono ?_; rintro e wx ⟨rfl, rfl⟩)
  clear hL1
  go_wp2_with (fail)
  (go_at_call 29; refine (HT0.out _ (HA0.out.below hbw0)).mono ?_; rintro e w1 ⟨vp0, rfl, rp0, hb1⟩)
  have z1 := hb1.size
  have hbw1 := bl_step hbw0 hb1
  clear hb1
  go_wp2_with (fail)
  (go_at_call 29; refine (HT1.out _ (HA1.out.below hbw1)).mono ?_; rintro e w2 ⟨vp1, rfl, rp1, hb2⟩)
  have z2 := hb2.size
  have hbw2 := bl_step hbw1 hb2
  have rp0 := rp0.below hb2 (.inl (by omega))
  clear hb2
  go_wp2_with (fail)
  (go_at_call 47; refine (KS.out _ _ _ rp0.view rp1.view).mono ?_; rintro e w3 ⟨rfl, hb3⟩)
  have z3 := hb3.size
  have hbw3 := bl_step hbw2 hb3
  have rp0 := rp0.below hb3 (.inl (by omega))
  have rp1 := rp1.below hb3 (.inl (by omega))
  clear hb3
  clear rp0
  clear rp1
  go_wp2_with (fail)
  (go_at_call 29; refine (HT0.out _ (HA0.out.below hbw3)).mono ?_; rintro e w4 ⟨vx0, rfl, rx0, hb4⟩)
  have z4 := hb4.size
  have hbw4 := bl_step hbw3 hb4
  clear hb4
  go_wp2_with (fail)
  (go_at_call 29; refine (HT1.out _ (HA1.out.below hbw4)).mono ?_; rintro e w5 ⟨vx1, rfl, rx1, hb5⟩)
  have z5 := hb5.size
  have hbw5 := bl_step hbw4 hb5
  have rx0 := rx0.below hb5 (.inl (by omega))
  clear hb5
  go_wp2_with (fail)
  (go_at_call 48; refine (KI.out _ _ _ rx0.view rx1.view).mono ?_; rintro e w6 ⟨rfl, hb6⟩)
  have z6 := hb6.size
  have hbw6 := bl_step hbw5 hb6
  have rx0 := rx0.below hb6 (.inl (by omega))
  have rx1 := rx1.below hb6 (.inl (by omega))
  clear hb6
  go_wp2_with (fail)
  (go_at_call 29; refine (HT0.out _ (HA0.out.below hbw6)).mono ?_; rintro e w7 ⟨vq0, rfl, rq0, hb7⟩)
  have z7 := hb7.size
  have hbw7 := bl_step hbw6 hb7
  have rx0 := rx0.below hb7 (.inl (by omega))
  have rx1 := rx1.below hb7 (.inl (by omega))
  clear hb7
  go_wp2_with (fail)
  (go_at_call 31; refine (eqVoiceV_any _ _ xs _ rx0.view rq0.view).mono ?_; rintro e w8 ⟨rfl, hb8⟩)
  have z8 := hb8.size
  have hbw8 := bl_step hbw7 hb8
  have rx0 := rx0.below hb8 (.inl (by omega))
  have rx1 := rx1.below hb8 (.inl (by omega))
  have rq0 := rq0.below hb8 (.inl (by omega))
  clear hb8
  clear rq0
  go_wp2_with (fail)
  (go_at_call 29; refine (HT1.out _ (HA1.out.below hbw8)).mono ?_; rintro e w9 ⟨vq1, rfl, rq1, hb9⟩)
  have z9 := hb9.size
  have hbw9 := bl_step hbw8 hb9
  have rx0 := rx0.below hb9 (.inl (by omega))
  have rx1 := rx1.below hb9 (.inl (by omega))
  clear hb9
  go_wp2_with (fail)
  (go_at_call 31; refine (eqVoiceV_any _ _ ys _ rx1.view rq1.view).mono ?_; rintro e w10 ⟨rfl, hb10⟩)
  have z10 := hb10.size
  have hbw10 := bl_step hbw9 hb10
  have rx0 := rx0.below hb10 (.inl (by omega))
  have rx1 := rx1.below hb10 (.inl (by omega))
  have rq1 := rq1.below hb10 (.inl (by omega))
  clear hb10
  clear rq1
  go_wp2
  go_ret
  exact ⟨rfl, hbw10⟩

set_option maxRecDepth 100000 in
theorem fnExactDiscantTogether_lifted (os : Os) (started : os.Started) (H : Type) (enc : TypeId × Value → H) :
    ReturnsInHanded {} Try.checked os 12 .any (Rows.fnExactDiscantTogetherSpec.pre6 enc Try.prog Try.f12 Rows.fnExactDiscantTogetherRow.domain false) (Rows.fnExactDiscantTogetherSpec.post enc Try.prog Try.f12 false true false false) := by
  refine returnsInHanded_of_change (C := Try.checked) own started (by kernel_rfl) Try.func12
    (ChangeSpec.witness6 (enc := enc) (C := Try.checked) false ⟨#[], #[.slice none 0 0, .slice none 0 0], []⟩ 8 (by kernel_rfl) (by kernel_rfl) (by kernel_rfl) (by kernel_rfl)) ?_
  intro W base args ds gs before hval0 hW _ _
  have hval : ∀ (j : Nat) t v, Try.f12.params[j]? = some t → args[j]? = some v → Value.okWide Try.prog W .any base t v := hval0
  have hW' := hW
  obtain ⟨p, q, hA0, hV, rfl, _, _⟩ := hW
  have hA : DataW.TrodAll enc Try.prog W 0 (fun _ => true) true Try.f12.params.toList args.toList ds p := hA0
  rw [Try.params12] at hA hval
  obtain ⟨v0, vs0, d0, ds0, p0, q0, hargs, rfl, rfl, h0, r0⟩ := trodAll_cons hA
  obtain ⟨v1, vs1, d1, ds1, p1, q1, rfl, rfl, rfl, h1, r1⟩ := trodAll_cons r0
  obtain ⟨rfl, rfl, rfl⟩ := trodAll_nil r1
  obtain rfl : args = #[v0, v1] := by cases args; simp_all
  obtain ⟨rfl, rfl⟩ := trodVars_none hV
  obtain ⟨a0, n0, c0, rfl⟩ := okWide_slice Try.underlying33 (hval 0 33 v0 rfl rfl)
  have k0 := h0
  have lt0 : ∀ x ∈ p0, x.block < W.heap.size := by obtain ⟨m, hm⟩ := k0; exact DataW.trod_lt m _ _ _ hm
  obtain ⟨x0, rfl, y0, z0, u0⟩ := voices_in h0
  obtain ⟨a1, n1, c1, rfl⟩ := okWide_slice Try.underlying33 (hval 1 33 v1 rfl rfl)
  have k1 := h1
  have lt1 : ∀ x ∈ p1, x.block < W.heap.size := by obtain ⟨m, hm⟩ := k1; exact DataW.trod_lt m _ _ _ hm
  obtain ⟨x1, rfl, y1, z1, u1⟩ := voices_in h1
  clear hA0 hval0
  refine (Dt8_walk a0 c0 x0 a1 c1 x1 W y0 z0 u0 y1 z1 u1).mono fun e W' ⟨he, hb⟩ => ?_
  subst he
  exact ⟨_, rfl, _, _, _, [], _, [], hW', trodAll_cons_mk (shut_bool Try.underlying4 _) trodAll_mk0, trodAll_cons_mk (Below.trod laidOut (by kernel_rfl) (of_decide_eq_true (by kernel_rfl)) k0 hb lt0) (trodAll_cons_mk (Below.trod laidOut (by kernel_rfl) (of_decide_eq_true (by kernel_rfl)) k1 hb lt1) (trodAll_mk0)), rfl, hb.frame _, fun h => by cases h⟩

theorem fnExactDiscantTogether_holds : Rows.FnExactDiscantTogetherSaid :=
  OpenClaim.holds_of_wide 12 Try.f12 rfl rfl rfl rfl rfl rfl rfl ⟨rfl, rfl, rfl, rfl, rfl⟩ rfl rfl rfl rfl rfl (by kernel_rfl) Try.func12 (by kernel_rfl)
    (of_decide_eq_true (by kernel_rfl)) (by unfold Func.isWrapper; first | (rw [if_pos (by decide +kernel)]; kernel_rfl) | (rw [if_neg (by decide +kernel)]; exact ⟨rfl, rfl⟩))
    (fun os started H enc _ => fnExactDiscantTogether_lifted os started H enc)

end Go.Proofs.Ytkkfediceekmdaa
