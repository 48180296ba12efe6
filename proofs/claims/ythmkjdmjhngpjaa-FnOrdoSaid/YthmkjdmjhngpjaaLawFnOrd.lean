/-
  The law FnOrdo: for every code, an ordo fills whole feet.
-/
import Derived.Test.YthmkjdmjhngpjaaRq
import Derived.Test.YthmkjdmjhngpjaaOrm
import Derived.Test.YthmkjdmjhngpjaaSm8
import Derived.Test.YthmkjdmjhngpjaaDrh
import Derived.Test.YthmkjdmjhngpjaaOpen
namespace Go.Proofs.Ythmkjdmjhngpjaa
open Go.RowKit Go.ChangeShapes Go.WideShapes Go.ChangeAt
set_option maxRecDepth 100000
set_option linter.unusedVariables false

theorem IRow.iv {w w1 : World} {lo hi : Nat} {v : Value} {xs : List Int} (h : IRow w lo hi v xs) (hb : Below w.heap.size w w1) : IV w1 v xs := h.view.below hb

set_option maxHeartbeats 8000000 in
theorem fnOrdo_walk (a : Option Addr) (n cap : Nat) (w : World) (h : CodeAt w a n) (hc : n ≤ cap) (hcap : cap ≤ maxLen) :
    Calls Try.prog 3 #[.slice a n cap] w fun e w' => e = .returned (.bool true) ∧ Below w.heap.size w w' := by
  by_cases hn : 1048576 < n
  · have g : (1048576 : Int) < (n : Int) := by omega
    go_enter Try.func3, Try.ntmps3
    go_wp2
    go_ret
    exact ⟨rfl, Below.refl _ _⟩
  have g : decide ((1048576 : Int) < (n : Int)) = false := by simp; omega
  go_enter Try.func3, Try.ntmps3
  go_wp2_with (fail)
  (go_at_call 10; refine (drawRhythmOrdo_any a n cap _ h hc hcap).mono ?_; rintro e w1 ⟨m, k, rfl, m0, m7, k13, hb1⟩)
  clear h hc hcap g hn
  have HI := Lib.hid (fun w => rhythmOrdo_any m (k : Int) w)
  have HS := Lib.hid (fun w => sRhythmOrdo_any m (k : Int) w)
  have HI2 : Hid (∀ w, Calls Try.prog 11 #[.int .i64 m, .int .i64 ((k : Int) + 1)] w (Ordo2 w m ((k : Int) + 1))) := fun w => rhythmOrdo_any m ((k : Int) + 1) w
  have HM := Lib.hid (fun v w h => rhythmModes_any v (oLst m k) w h)
  have HB := Lib.hid (fun w => rhythmBeats_any m (k : Int) w)
  have HF := Lib.hid (fun w => rhythmFoot_any m w)
  have HY := Lib.hid (fun v u w h k8 => sameIntsV_yes v u (oLst m k) w h k8)
  unfold Ordo2 at HI HS HI2
  have HW1 := Lib.hid hb1
  clear hb1
  cases hok : oOk m k with
  | false =>
    rw [hok] at HI HS
    clear hok HI2 HM HB HF
    generalize oRst m k = R at HI HS
    generalize oLst m k = xs at HI HS HY
    go_wp2_with (fail)
    (go_at_call 11; refine (HI.out _).mono ?_; rintro e w2 ⟨vi, rfl, ri, hb2⟩)
    have HV2 := Lib.hid ri
    have HW2 := Lib.hid (bl_step HW1.out hb2)
    clear ri hb2
    go_wp2_with (fail)
    (go_at_call 12; refine (HS.out _).mono ?_; rintro e w3 ⟨vs, rfl, rs, hb3⟩)
    have HVI := Lib.hid (HV2.out.view.below hb3)
    have HVS := Lib.hid rs.view
    have HW3 := Lib.hid (bl_step HW2.out hb3)
    clear rs hb3 HV2
    go_wp2_with (fail)
    (go_at_call 13; refine (HY.out _ _ _ HVI.out HVS.out).mono ?_; rintro e w4 ⟨rfl, hb4⟩)
    have HVI4 := Lib.hid (HVI.out.below hb4)
    have HVS4 := Lib.hid (HVS.out.below hb4)
    have HW4 := Lib.hid (bl_step HW3.out hb4)
    clear hb4
    go_wp2_with (fail)
    (go_at_call 13; refine (HY.out _ _ _ HVI4.out HVS4.out).mono ?_; rintro e w5 ⟨rfl, hb5⟩)
    have HW5 := Lib.hid (bl_step HW4.out hb5)
    clear hb5
    go_wp2
    go_ret
    exact ⟨rfl, HW5.out⟩
  | true =>
    have hio := oOk_in hok
    have hchk := ord_facts hok
    have HFZ := Lib.hid (foot_get hio.1)
    have hfl : (foot m).length ≤ 100 := by have := (foot_yes hio.1).1; omega
    have HLI : Hid (∀ z ∈ oLst m k, 0 ≤ z ∧ z ≤ 3) := fun z hz => by have := oLst_in hz; omega
    have hll := oLst_len (m := m) (n := (k : Int))
    have hT := smL_in (a := 3) HLI.out
    have hR := oRst_in (m := m) (n := (k : Int))
    have HSF := Lib.hid (fun v w h => sumOfV_any v (foot m) w h HFZ.out hfl)
    have HST := Lib.hid (fun v w h => sumOfV_any v (oLst m k) w h HLI.out (by omega))
    have hml := rmds_len (oLst m k) 6
    have hlk : (oLst m k).length = k := by rw [(oYes hok).1, cyc_len]; omega
    have hl2 : oOk m ((k : Int) + 1) = true → (oLst m ((k : Int) + 1)).length = k + 1 := fun e => by rw [(oYes e).1, cyc_len]; omega
    unfold ordChk at hchk
    simp only [Bool.and_eq_true, Bool.or_eq_true, beq_iff_eq, decide_eq_true_eq] at hchk
    obtain ⟨hF, hmod, hlt, hbt, hok2, htk, hhit⟩ := hchk
    rw [hbt] at HB
    rw [hok] at HI HS
    have hk12 : 1 ≤ k ∧ k ≤ 12 := by omega
    have wk : IntKind.i64.wrap ((k : Int) + 1) = (k : Int) + 1 := IntWalk.i64_in _ (by omega)
    have HFIN := Lib.hid (fun j (hj : j < (rmds (oLst m k) 6).length) => any_take (m := m) hj)
    have HHIT : Hid (((rmds (oLst m k) 6).take (rmds (oLst m k) 6).length).contains m = true) := by show _ = _; rw [List.take_length]; exact hhit
    clear hio HFZ HLI hfl hhit m0 m7 hll
    generalize foot m = fm at HF HSF hF hmod hlt
    generalize smL fm = F at HSF hF hmod hlt
    generalize oRst m (k : Int) = R at HI HS HB hR hlt hmod
    have hxk := hlk
    generalize hys : rmds (oLst m (k : Int)) 6 = ys at HM HFIN HHIT hml
    clear hys
    generalize smL (oLst m (k : Int)) = T at HST hT HB hmod
    obtain ⟨S, hS⟩ : ∃ S, T + R = S := ⟨_, rfl⟩
    have wS : IntKind.i64.wrap (T + R) = S := by rw [IntWalk.i64_in _ (by omega)]; exact hS
    rw [hS] at HB hmod
    have hS0 : 0 ≤ S := by omega
    have HLK := Lib.hid hlk
    generalize oOk m ((k : Int) + 1) = ok2 at HI2 hok2 hl2
    have HOK2 := Lib.hid hok2
    have HL2 := Lib.hid hl2
    clear hT hlk hxk hS hok2 hl2
    go_wp2_with (fail)
    (go_at_call 11; refine (HI.out _).mono ?_; rintro e w2 ⟨vi, rfl, ri, hb2⟩)
    have HV2 := Lib.hid ri
    have HW2 := Lib.hid (bl_step HW1.out hb2)
    clear ri hb2
    go_wp2_with (fail)
    (go_at_call 12; refine (HS.out _).mono ?_; rintro e w3 ⟨vs, rfl, rs, hb3⟩)
    have HVI := Lib.hid (HV2.out.view.below hb3)
    have HVS := Lib.hid rs.view
    have HW3 := Lib.hid (bl_step HW2.out hb3)
    clear rs hb3 HV2
    go_wp2_with (fail)
    (go_at_call 13; refine (HY.out _ _ _ HVI.out HVS.out).mono ?_; rintro e w4 ⟨rfl, hb4⟩)
    have HVI4 := Lib.hid (HVI.out.below hb4)
    have HW4 := Lib.hid (bl_step HW3.out hb4)
    clear hb4 HVS HVI
    go_wp2_with (fail)
    (go_at_call 15; refine (HF.out _).mono ?_; rintro e w5 ⟨vf, rfl, rf, hb5⟩)
    have HVF := Lib.hid rf.view
    have HVI5 := Lib.hid (HVI4.out.below hb5)
    have HW5 := Lib.hid (bl_step HW4.out hb5)
    clear hb5 rf HVI4
    go_wp2_with (fail)
    (go_at_call 14; refine (HSF.out _ _ HVF.out).mono ?_; rintro e wx ⟨rfl, rfl⟩)
    go_wp2_with (fail)
    (go_at_call 11; refine (HI2.out _).mono ?_; rintro e w6 ⟨vl, rfl, rl, hb6⟩)
    have HVL := Lib.hid rl.view
    have HVI6 := Lib.hid (HVI5.out.below hb6)
    have HW6 := Lib.hid (bl_step HW5.out hb6)
    clear hb6 rl HVI5
    go_wp2_with (fail)
    (go_at_call 16; refine (HM.out _ _ HVI6.out).mono ?_; rintro e w7 ⟨vm, rfl, rm, hb7⟩)
    obtain ⟨am, cm, rfl, hm, hcm1, hcm2⟩ := rm.view
    have HVM := Lib.hid hm
    have HVL7 := Lib.hid (HVL.out.below hb7)
    have HVI7 := Lib.hid (HVI6.out.below hb7)
    have HW7 := Lib.hid (bl_step HW6.out hb7)
    unfold maxLen at hcm2
    clear hb7 rm HVI6 HVL hm
    go_wp2
    go_loop [16, 17] (fun q i => ∃ j : Nat, j ≤ ys.length ∧ i = .int .i64 (j : Int) ∧ q = .bool ((ys.take j).contains m)) (fun _ i => ys.length - (intOf i).toNat)
    case atStart => exact ⟨0, by omega, rfl, rfl⟩
    case round =>
      obtain ⟨j, hj, rfl, rfl⟩ := hrel
      by_cases hlj : j < ys.length
      · have HX := Lib.hid (HFIN.out j hlj)
        rcases HVM.out with h0 | ⟨A, off, rfl, hA, hc⟩
        · subst h0; simp at hlj
        have e1 := hc j hlj
        generalize ys.getD j 0 = z at HX e1
        clear hc
        cases hh : (ys.take j).contains m with
        | true =>
          rw [hh] at HX
          clear hh
          go_wp2
          go_round
          case rel => exact ⟨j + 1, by omega, by go_num, by rw [HX.out]; rfl⟩
          case measure => simp [intOf]; omega
        | false =>
          rw [hh] at HX
          clear hh
          by_cases hz : z = m
          · have g1 : (z == m) = true := beq_iff_eq.2 hz
            rw [g1] at HX
            subst hz
            go_wp2
            go_round
            case rel => exact ⟨j + 1, by omega, by go_num, by rw [HX.out]; rfl⟩
            case measure => simp [intOf]; omega
          · have g1 : (z == m) = false := beq_eq_false_iff_ne.2 hz
            have g2 : decide (z = m) = false := decide_eq_false hz
            rw [g1] at HX
            clear hz
            go_wp2
            go_round
            case rel => exact ⟨j + 1, by omega, by go_num, by rw [HX.out]; rfl⟩
            case measure => simp [intOf]; omega
      · have hjn : j = ys.length := by omega
        subst hjn
        rw [HHIT.out]
        clear HVM HFIN
        go_wp2_with (fail)
        (go_at_call 14; refine (HST.out _ _ HVI7.out).mono ?_; rintro e wx ⟨rfl, rfl⟩)
        rcases hF with rfl | rfl
        · skip
          have q1 : S.tmod 3 = 0 := by rw [Int.tmod_eq_emod_of_nonneg hS0]; exact hmod
          have q2 : (S % 3 == 0) = true := beq_iff_eq.2 hmod
          have q3 : decide (R < 3) = true := decide_eq_true hlt
          have q4 : IntKind.i64.wrap (0 : Int) = 0 := rfl
          by_cases h12 : k = 12
          · have e2 : ok2 = false := by rw [HOK2.out, h12]; rfl
            have q5 : ((k : Int) == 12) = true := by rw [h12]; rfl
            have q7 : (k == 12) = true := by rw [h12]; rfl
            have q8 : decide (k = 12) = true := by rw [h12]; rfl
            subst e2
            clear htk hmod hlt h12
            go_wp2_with (fail)
            (go_at_call 17; refine (HB.out _).mono ?_; rintro e w8 ⟨rfl, hb8⟩)
            have HW8 := Lib.hid (bl_step HW7.out hb8)
            clear hb8
            go_wp2
            go_ret
            exact ⟨rfl, HW8.out⟩
          · have e2 : ok2 = true := by rw [HOK2.out]; exact decide_eq_true h12
            have hlen := HL2.out e2
            have htk2 : (oLst m ((k : Int) + 1)).take k = oLst m (k : Int) := by
              rcases htk with h | h
              · exact absurd h h12
              · exact h
            subst e2
            obtain ⟨al, cl, hvl, hal, hcl1, hcl2⟩ := HVL7.out
            rw [hlen] at hvl
            subst hvl
            have HSL : Hid (∀ W, Below w7.heap.size w7 W → IV W (.slice al k cl) (oLst m (k : Int))) := fun W hb => by
              have hlk := HLK.out
              refine ⟨al, cl, by rw [hlk], ?_, by omega, hcl2⟩
              have := (hal.take k).below hb
              rw [htk2] at this
              exact this
            rw [hlen] at hcl1
            unfold maxLen at hcl2
            have hkc : (k : Int) ≤ (cl : Int) := by omega
            have hkc2 : k ≤ cl := by omega
            have q6 : (0 : Int) ≤ (k : Int) := by omega
            have HLEN := Lib.hid hlen
            clear htk hmod hlt htk2 hal hlen
            go_wp2_with (fail)
            (go_at_call 17; refine (HB.out _).mono ?_; rintro e w8 ⟨rfl, hb8⟩)
            have HW8 := Lib.hid (bl_step HW7.out hb8)
            have HV8 := Lib.hid (HVI7.out.below hb8)
            have HS8 := Lib.hid (HSL.out _ hb8)
            clear hb8
            go_wp2_with (fail)
            (go_at_call 13; refine (HY.out _ _ _ HS8.out HV8.out).mono ?_; rintro e w9 ⟨rfl, hb9⟩)
            have HW9 := Lib.hid (bl_step HW8.out hb9)
            clear hb9
            go_wp2
            go_ret
            exact ⟨rfl, HW9.out⟩
        · skip
          have q1 : S.tmod 6 = 0 := by rw [Int.tmod_eq_emod_of_nonneg hS0]; exact hmod
          have q2 : (S % 6 == 0) = true := beq_iff_eq.2 hmod
          have q3 : decide (R < 6) = true := decide_eq_true hlt
          have q4 : IntKind.i64.wrap (0 : Int) = 0 := rfl
          by_cases h12 : k = 12
          · have e2 : ok2 = false := by rw [HOK2.out, h12]; rfl
            have q5 : ((k : Int) == 12) = true := by rw [h12]; rfl
            have q7 : (k == 12) = true := by rw [h12]; rfl
            have q8 : decide (k = 12) = true := by rw [h12]; rfl
            subst e2
            clear htk hmod hlt h12
            go_wp2_with (fail)
            (go_at_call 17; refine (HB.out _).mono ?_; rintro e w8 ⟨rfl, hb8⟩)
            have HW8 := Lib.hid (bl_step HW7.out hb8)
            clear hb8
            go_wp2
            go_ret
            exact ⟨rfl, HW8.out⟩
          · have e2 : ok2 = true := by rw [HOK2.out]; exact decide_eq_true h12
            have hlen := HL2.out e2
            have htk2 : (oLst m ((k : Int) + 1)).take k = oLst m (k : Int) := by
              rcases htk with h | h
              · exact absurd h h12
              · exact h
            subst e2
            obtain ⟨al, cl, hvl, hal, hcl1, hcl2⟩ := HVL7.out
            rw [hlen] at hvl
            subst hvl
            have HSL : Hid (∀ W, Below w7.heap.size w7 W → IV W (.slice al k cl) (oLst m (k : Int))) := fun W hb => by
              have hlk := HLK.out
              refine ⟨al, cl, by rw [hlk], ?_, by omega, hcl2⟩
              have := (hal.take k).below hb
              rw [htk2] at this
              exact this
            rw [hlen] at hcl1
            unfold maxLen at hcl2
            have hkc : (k : Int) ≤ (cl : Int) := by omega
            have hkc2 : k ≤ cl := by omega
            have q6 : (0 : Int) ≤ (k : Int) := by omega
            have HLEN := Lib.hid hlen
            clear htk hmod hlt htk2 hal hlen
            go_wp2_with (fail)
            (go_at_call 17; refine (HB.out _).mono ?_; rintro e w8 ⟨rfl, hb8⟩)
            have HW8 := Lib.hid (bl_step HW7.out hb8)
            have HV8 := Lib.hid (HVI7.out.below hb8)
            have HS8 := Lib.hid (HSL.out _ hb8)
            clear hb8
            go_wp2_with (fail)
            (go_at_call 13; refine (HY.out _ _ _ HS8.out HV8.out).mono ?_; rintro e w9 ⟨rfl, hb9⟩)
            have HW9 := Lib.hid (bl_step HW8.out hb9)
            clear hb9
            go_wp2
            go_ret
            exact ⟨rfl, HW9.out⟩
set_option maxRecDepth 100000 in
theorem fnOrdo_lifted (os : Os) (started : os.Started) (H : Type) (enc : TypeId × Value → H) :
    ReturnsInHanded {} Try.checked os 3 .any (Rows.fnOrdoSpec.pre6 enc Try.prog Try.f3 Rows.fnOrdoRow.domain false) (Rows.fnOrdoSpec.post enc Try.prog Try.f3 false true false false) := by
  refine returnsInHanded_of_change (C := Try.checked) own started (by kernel_rfl) Try.func3
    (ChangeSpec.witness6 (enc := enc) (C := Try.checked) false ⟨#[], #[.slice none 0 0], []⟩ 8 (by kernel_rfl) (by kernel_rfl) (by kernel_rfl) (by kernel_rfl)) ?_
  intro W base args ds gs before hval0 hW _ _
  have hval : ∀ (j : Nat) t v, Try.f3.params[j]? = some t → args[j]? = some v → Value.okWide Try.prog W .any base t v := hval0
  have hW' := hW
  obtain ⟨p, q, hA0, hV, rfl, _, _⟩ := hW
  have hA : DataW.TrodAll enc Try.prog W 0 (fun _ => true) true Try.f3.params.toList args.toList ds p := hA0
  rw [Try.params3] at hA hval
  obtain ⟨v0, vs0, d0, ds0, p0, q0, hargs, rfl, rfl, h0, r0⟩ := trodAll_cons hA
  obtain ⟨rfl, rfl, rfl⟩ := trodAll_nil r0
  obtain rfl : args = #[v0] := by cases args; simp_all
  obtain ⟨rfl, rfl⟩ := trodVars_none hV
  obtain ⟨a0, n0, c0, rfl⟩ := okWide_slice Try.underlying22 (hval 0 22 v0 rfl rfl)
  have k0 := h0
  have lt0 : ∀ x ∈ p0, x.block < W.heap.size := by obtain ⟨m, hm⟩ := k0; exact DataW.trod_lt m _ _ _ hm
  have y0 := code_in h0
  clear hA0 hval0
  refine (fnOrdo_walk a0 n0 c0 W y0.1 y0.2.1 y0.2.2).mono fun e W' ⟨he, hb⟩ => ?_
  subst he
  exact ⟨_, rfl, _, _, _, [], _, [], hW', trodAll_cons_mk (shut_bool Try.underlying4 _) trodAll_mk0, trodAll_cons_mk (Below.trod laidOut (by kernel_rfl) (of_decide_eq_true (by kernel_rfl)) k0 hb lt0) (trodAll_mk0), rfl, hb.frame _, fun h => by cases h⟩

theorem fnOrdo_holds : Rows.FnOrdoSaid :=
  OpenClaim.holds_of_wide 3 Try.f3 rfl rfl rfl rfl rfl rfl rfl ⟨rfl, rfl, rfl, rfl, rfl⟩ rfl rfl rfl rfl rfl (by kernel_rfl) Try.func3 (by kernel_rfl)
    (of_decide_eq_true (by kernel_rfl)) (by unfold Func.isWrapper; first | (rw [if_pos (by decide +kernel)]; kernel_rfl) | (rw [if_neg (by decide +kernel)]; exact ⟨rfl, rfl⟩))
    (fun os started H enc _ => fnOrdo_lifted os started H enc)

end Go.Proofs.Ythmkjdmjhngpjaa
