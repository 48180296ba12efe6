/-
  The law FnContrary: for every code, contrary motion has both parts.
-/
import Derived.Test.YthmkjdmjhngpjaaDj
import Derived.Test.YthmkjdmjhngpjaaDs
import Derived.Test.YthmkjdmjhngpjaaPs
import Derived.Test.YthmkjdmjhngpjaaSlm
import Derived.Test.YthmkjdmjhngpjaaDdi
import Derived.Test.YthmkjdmjhngpjaaOpen
namespace Go.Proofs.Ythmkjdmjhngpjaa
open Go.RowKit Go.ChangeShapes Go.WideShapes Go.ChangeAt
set_option maxRecDepth 100000
set_option linter.unusedVariables false

/-- two lists of voices of a draw -/
def DrewTwo (w : World) (e : Ending) (w' : World) : Prop :=
  ∃ (v u : Value) (xs ys : List Vc), e = .returned (.tuple #[v, u]) ∧ VV w' v xs ∧ VV w' u ys ∧ Below w.heap.size w w'
set_option maxHeartbeats 2000000 in
theorem drawDiscantContrary_any (a : Option Addr) (n cap : Nat) (w : World) (h : CodeAt w a n) (hc : n ≤ cap) (hcap : cap ≤ maxLen) :
    Calls Try.prog 33 #[.slice a n cap] w (DrewTwo w) := by
  go_enter Try.func33, Try.ntmps33
  go_wp2_with (fail)
  (go_at_call 36; refine (open_any a n cap _ h hc hcap).mono ?_; rintro e w1 ⟨A, rfl, hr1, hb1, hs1⟩)
  go_wp2_with (fail)
  (go_at_call 53; refine (l92Discant_any w.heap.size A 0 (by omega) _ hr1).mono ?_; rintro e w2 ⟨v, u, xs, ys, rfl, hv, hu, _, _, hg⟩)
  have HE := Lib.hid (below_gb hb1 hg (Nat.le_refl _))
  have HV := Lib.hid hv
  have HU := Lib.hid hu
  clear hr1 hb1 hg hv hu
  go_wp2
  go_ret2
  exact ⟨v, u, xs, ys, rfl, HV.out, HU.out, HE.out⟩

set_option maxHeartbeats 8000000 in
theorem fnContrary_walk (a : Option Addr) (n cap : Nat) (w : World) (h : CodeAt w a n) (hc : n ≤ cap) (hcap : cap ≤ maxLen) :
    Calls Try.prog 9 #[.slice a n cap] w fun e w' => e = .returned (.bool true) ∧ Below w.heap.size w w' := by
  by_cases hn : 1048576 < n
  · have g : (1048576 : Int) < (n : Int) := by omega
    go_enter Try.func9, Try.ntmps9
    go_wp2
    go_ret
    exact ⟨rfl, Below.refl _ _⟩
  have g : decide ((1048576 : Int) < (n : Int)) = false := by simp; omega
  have gn : decide (1048576 < n) = false := decide_eq_false hn
  go_enter Try.func9, Try.ntmps9
  go_wp2_with (fail)
  (go_at_call 33; refine (drawDiscantContrary_any a n cap _ h hc hcap).mono ?_; rintro e w1 ⟨v, u, xs, ys, rfl, hv, hu, hb1⟩)
  clear h hc hcap g hn gn
  have HV1 := Lib.hid hv
  have HU1 := Lib.hid hu
  have HW1 := Lib.hid hb1
  have HI := Lib.hid (fun w h k => discantContrary_any v u xs ys w h k)
  have HS := Lib.hid (fun w h k => sDiscantContrary_any v u xs ys w h k)
  have HI2 := Lib.hid (fun w h k => discantContrary_any u v ys xs w k h)
  have HI3 := Lib.hid (fun w h => discantContrary_any v v xs xs w h h)
  have HP1 := Lib.hid (fun w h => partSlow_any v xs w h)
  have HP2 := Lib.hid (fun w h => partSlow_any u ys w h)
  have HI4 := Lib.hid (fun p q w h k => discantContrary_any p q (psL xs) (psL ys) w h k)
  unfold VBuilt2 at HP1 HP2
  clear hv hu hb1
  obtain ⟨z, hz⟩ : ∃ z, dct xs ys = z := ⟨_, rfl⟩
  have hzb := dct_in (xs := xs) (ys := ys)
  rw [hz] at HI HS hzb
  cases ht : tog xs ys with
  | false =>
    have hz1 : z = -1 := by rw [← hz, dct_no ht]
    subst hz1
    clear ht hz HI2 HI3 HP1 HP2 HI4
    go_wp2_with (fail)
    (go_at_call 34; refine (HI.out _ HV1.out HU1.out).mono ?_; rintro e w2 ⟨rfl, hb2⟩)
    have HV2 := Lib.hid (HV1.out.below hb2)
    have HU2 := Lib.hid (HU1.out.below hb2)
    have HW2 := Lib.hid (bl_step HW1.out hb2)
    clear hb2
    go_wp2_with (fail)
    (go_at_call 35; refine (HS.out _ HV2.out HU2.out).mono ?_; rintro e w3 ⟨rfl, hb3⟩)
    have HW3 := Lib.hid (bl_step HW2.out hb3)
    clear hb3
    go_wp2
    go_ret
    exact ⟨rfl, HW3.out⟩
  | true =>
    obtain ⟨p1, p2, _⟩ := tog_in ht
    have hz0 : 0 ≤ z := by rw [← hz, dct_yes ht]; exact (cnt_in _ _).1
    rw [dct_sym ht, hz] at HI2
    rw [dct_self ht] at HI3
    rw [dct_slow ht, hz] at HI4
    rw [p1] at HP1
    rw [p2] at HP2
    have gz : decide (z < 0) = false := decide_eq_false (by omega)
    clear ht hz p1 p2
    generalize psL xs = px at HP1 HI4
    generalize psL ys = py at HP2 HI4
    go_wp2_with (fail)
    (go_at_call 34; refine (HI.out _ HV1.out HU1.out).mono ?_; rintro e w2 ⟨rfl, hb2⟩)
    have HV2 := Lib.hid (HV1.out.below hb2)
    have HU2 := Lib.hid (HU1.out.below hb2)
    have HW2 := Lib.hid (bl_step HW1.out hb2)
    clear hb2
    go_wp2_with (fail)
    (go_at_call 35; refine (HS.out _ HV2.out HU2.out).mono ?_; rintro e w3 ⟨rfl, hb3⟩)
    have HV3 := Lib.hid (HV2.out.below hb3)
    have HU3 := Lib.hid (HU2.out.below hb3)
    have HW3 := Lib.hid (bl_step HW2.out hb3)
    clear hb3
    go_wp2_with (fail)
    (go_at_call 29; refine (HP1.out _ HV3.out).mono ?_; rintro e w4 ⟨vx, rfl, rx, hb4⟩)
    have HV4 := Lib.hid (HV3.out.below hb4)
    have HU4 := Lib.hid (HU3.out.below hb4)
    have HX4 := Lib.hid rx.view
    have HW4 := Lib.hid (bl_step HW3.out hb4)
    clear hb4 rx
    go_wp2_with (fail)
    (go_at_call 29; refine (HP2.out _ HU4.out).mono ?_; rintro e w5 ⟨vy, rfl, ry, hb5⟩)
    have HV5 := Lib.hid (HV4.out.below hb5)
    have HU5 := Lib.hid (HU4.out.below hb5)
    have HX5 := Lib.hid (HX4.out.below hb5)
    have HY5 := Lib.hid ry.view
    have HW5 := Lib.hid (bl_step HW4.out hb5)
    clear hb5 ry
    go_wp2_with (fail)
    (go_at_call 34; refine (HI2.out _ HV5.out HU5.out).mono ?_; rintro e w6 ⟨rfl, hb6⟩)
    have HV6 := Lib.hid (HV5.out.below hb6)
    have HX6 := Lib.hid (HX5.out.below hb6)
    have HY6 := Lib.hid (HY5.out.below hb6)
    have HW6 := Lib.hid (bl_step HW5.out hb6)
    clear hb6
    go_wp2_with (fail)
    (go_at_call 34; refine (HI3.out _ HV6.out).mono ?_; rintro e w7 ⟨rfl, hb7⟩)
    have HX7 := Lib.hid (HX6.out.below hb7)
    have HY7 := Lib.hid (HY6.out.below hb7)
    have HW7 := Lib.hid (bl_step HW6.out hb7)
    clear hb7
    go_wp2_with (fail)
    (go_at_call 34; refine (HI4.out _ _ _ HX7.out HY7.out).mono ?_; rintro e w8 ⟨rfl, hb8⟩)
    have HW8 := Lib.hid (bl_step HW7.out hb8)
    clear hb8
    go_wp2
    go_ret
    exact ⟨rfl, HW8.out⟩
set_option maxRecDepth 100000 in
theorem fnContrary_lifted (os : Os) (started : os.Started) (H : Type) (enc : TypeId × Value → H) :
    ReturnsInHanded {} Try.checked os 9 .any (Rows.fnContrarySpec.pre6 enc Try.prog Try.f9 Rows.fnContraryRow.domain false) (Rows.fnContrarySpec.post enc Try.prog Try.f9 false true false false) := by
  refine returnsInHanded_of_change (C := Try.checked) own started (by kernel_rfl) Try.func9
    (ChangeSpec.witness6 (enc := enc) (C := Try.checked) false ⟨#[], #[.slice none 0 0], []⟩ 8 (by kernel_rfl) (by kernel_rfl) (by kernel_rfl) (by kernel_rfl)) ?_
  intro W base args ds gs before hval0 hW _ _
  have hval : ∀ (j : Nat) t v, Try.f9.params[j]? = some t → args[j]? = some v → Value.okWide Try.prog W .any base t v := hval0
  have hW' := hW
  obtain ⟨p, q, hA0, hV, rfl, _, _⟩ := hW
  have hA : DataW.TrodAll enc Try.prog W 0 (fun _ => true) true Try.f9.params.toList args.toList ds p := hA0
  rw [Try.params9] at hA hval
  obtain ⟨v0, vs0, d0, ds0, p0, q0, hargs, rfl, rfl, h0, r0⟩ := trodAll_cons hA
  obtain ⟨rfl, rfl, rfl⟩ := trodAll_nil r0
  obtain rfl : args = #[v0] := by cases args; simp_all
  obtain ⟨rfl, rfl⟩ := trodVars_none hV
  obtain ⟨a0, n0, c0, rfl⟩ := okWide_slice Try.underlying22 (hval 0 22 v0 rfl rfl)
  have k0 := h0
  have lt0 : ∀ x ∈ p0, x.block < W.heap.size := by obtain ⟨m, hm⟩ := k0; exact DataW.trod_lt m _ _ _ hm
  have y0 := code_in h0
  clear hA0 hval0
  refine (fnContrary_walk a0 n0 c0 W y0.1 y0.2.1 y0.2.2).mono fun e W' ⟨he, hb⟩ => ?_
  subst he
  exact ⟨_, rfl, _, _, _, [], _, [], hW', trodAll_cons_mk (shut_bool Try.underlying4 _) trodAll_mk0, trodAll_cons_mk (Below.trod laidOut (by kernel_rfl) (of_decide_eq_true (by kernel_rfl)) k0 hb lt0) (trodAll_mk0), rfl, hb.frame _, fun h => by cases h⟩

theorem fnContrary_holds : Rows.FnContrarySaid :=
  OpenClaim.holds_of_wide 9 Try.f9 rfl rfl rfl rfl rfl rfl rfl ⟨rfl, rfl, rfl, rfl, rfl⟩ rfl rfl rfl rfl rfl (by kernel_rfl) Try.func9 (by kernel_rfl)
    (of_decide_eq_true (by kernel_rfl)) (by unfold Func.isWrapper; first | (rw [if_pos (by decide +kernel)]; kernel_rfl) | (rw [if_neg (by decide +kernel)]; exact ⟨rfl, rfl⟩))
    (fun os started H enc _ => fnContrary_lifted os started H enc)

end Go.Proofs.Ythmkjdmjhngpjaa
