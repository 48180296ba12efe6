/-
  The law FnRhythmModes: for every code, beats tell their mode.
-/
import Derived.Test.YthmkjdmjhngpjaaRq
import Derived.Test.YthmkjdmjhngpjaaRmm
import Derived.Test.YthmkjdmjhngpjaaSmq
import Derived.Test.YthmkjdmjhngpjaaDrm
import Derived.Test.YthmkjdmjhngpjaaOpen
namespace Go.Proofs.Ythmkjdmjhngpjaa
open Go.RowKit Go.ChangeShapes Go.WideShapes Go.ChangeAt
set_option maxRecDepth 100000
set_option linter.unusedVariables false

theorem bl_q8 {w W W' : World} (h : Below w.heap.size w W) (k : ∃ m, W' = W.drewN m) : Below w.heap.size w W' := by
  obtain ⟨m, rfl⟩ := k
  exact ⟨h.os, h.tape, h.output, h.size, h.block⟩

set_option maxHeartbeats 8000000 in
theorem fnRhythmModes_walk (a : Option Addr) (n cap : Nat) (w : World) (h : CodeAt w a n) (hc : n ≤ cap) (hcap : cap ≤ maxLen) :
    Calls Try.prog 4 #[.slice a n cap] w fun e w' => e = .returned (.bool true) ∧ Below w.heap.size w w' := by
  by_cases hn : 1048576 < n
  · have g : (1048576 : Int) < (n : Int) := by omega
    go_enter Try.func4, Try.ntmps4
    go_wp2
    go_ret
    exact ⟨rfl, Below.refl _ _⟩
  have g : decide ((1048576 : Int) < (n : Int)) = false := by simp; omega
  go_enter Try.func4, Try.ntmps4
  go_wp2_with (fail)
  (go_at_call 18; refine (drawRhythmModes_any a n cap _ h hc hcap).mono ?_; rintro e w1 ⟨v, zs, rfl, hv, hz12, hb1⟩)
  clear h hc hcap g hn
  have HMI := Lib.hid (fun v w h => rhythmModes_any v zs w h)
  have HMS := Lib.hid (fun v w h => sRhythmModes_any v zs w h)
  have HYQ := Lib.hid (fun v u w h k8 => sameIntsQ_yes v u (rmds zs 6) w h k8)
  have HZQ := Lib.hid (fun v u w h k8 => sameIntsQ_yes v u zs w h k8)
  have HO := Lib.hid (fun q w => rhythmOrdo_any q (zs.length : Int) w)
  unfold Ordo2 at HO
  have HVV := Lib.hid hv
  obtain ⟨av, cv, rfl, hav, hcv1, hcv2⟩ := hv
  unfold maxLen at hcv2
  have HFX := Lib.hid (fun e => rm_facts (zs := zs) e)
  have hyl := rmds_len zs 6
  have HW1 := Lib.hid hb1
  clear hb1 hav
  generalize hys : rmds zs 6 = ys at HMI HMS HYQ HFX hyl
  clear hys
  go_wp2_with (fail)
  (go_at_call 16; refine (HMI.out _ _ HVV.out).mono ?_; rintro e w2 ⟨vi, rfl, ri, hb2⟩)
  have HVI := Lib.hid ri.view
  have HVV2 := Lib.hid (HVV.out.below hb2)
  have HW2 := Lib.hid (bl_step HW1.out hb2)
  clear hb2 ri
  go_wp2_with (fail)
  (go_at_call 19; refine (HMS.out _ _ HVV2.out).mono ?_; rintro e w3 ⟨vs, rfl, rs, hb3⟩)
  have HVS := Lib.hid rs.view
  have HVI3 := Lib.hid (HVI.out.below hb3)
  have HVV3 := Lib.hid (HVV2.out.below hb3)
  have HW3 := Lib.hid (bl_step HW2.out hb3)
  clear hb3 rs HVI
  go_wp2_with (fail)
  (go_at_call 13; refine (HYQ.out _ _ _ HVI3.out HVS.out).mono ?_; rintro e w4 ⟨rfl, md4, rfl⟩)
  have HW4 := Lib.hid (bl_q8 HW3.out ⟨md4, rfl⟩)
  have HVI4 : Hid (IV (w3.drewN md4) vi ys) := HVI3.out
  have HVS4 : Hid (IV (w3.drewN md4) vs ys) := HVS.out
  have HVV4 : Hid (IV (w3.drewN md4) (.slice av zs.length cv) zs) := HVV3.out
  generalize w3.drewN md4 = W at HW4 HVI4 HVS4 HVV4 ⊢
  by_cases hy : ys = []
  · subst hy
    obtain ⟨ai, ci, rfl, hai, hci1, hci2⟩ := HVI4.out
    clear hai
    go_wp2_with (fail)
    (go_at_call 13; refine (HYQ.out _ _ _ HVI4.out HVS4.out).mono ?_; rintro e w5 ⟨rfl, hm5⟩)
    have HE := Lib.hid (bl_q8 HW4.out hm5)
    clear hm5
    go_wp2
    go_ret
    exact ⟨rfl, HE.out⟩
  have hfx := HFX.out hy
  have HF1 := Lib.hid hfx.1
  have HF2 := Lib.hid hfx.2.1
  have hlen := hfx.2.2
  have hy0 : 0 < ys.length := List.length_pos_iff.2 hy
  have gy0 : (ys.length == 0) = false := by rw [beq_eq_false_iff_ne]; omega
  have gy1 : ((ys.length : Int) == 0) = false := by rw [beq_eq_false_iff_ne]; omega
  obtain ⟨ai, ci, rfl, hai, hci1, hci2⟩ := HVI4.out
  have HAI := Lib.hid hai
  have HLEN := Lib.hid hlen
  unfold maxLen at hci2
  clear hfx hy hai hlen HFX HVS4
  go_wp2
  go_loopw [6] (fun i wr => ∃ j : Nat, j ≤ ys.length ∧ i = .int .i64 (j : Int) ∧ Below W.heap.size W wr) (fun i _ => ys.length - (intOf i).toNat)
  case atStart => exact ⟨0, by omega, rfl, Below.refl _ _⟩
  case round =>
    obtain ⟨j, hj, rfl, hb⟩ := hrel
    have HB := Lib.hid hb
    by_cases hlj : j < ys.length
    · obtain ⟨f1, f2⟩ := HF1.out j hlj
      have HN1 := Lib.hid (fun (e : j + 1 < ys.length + 1) => HF2.out (j - 1))
      rcases HAI.out with h0 | ⟨A, off, rfl, hA, hc⟩
      · subst h0; simp at hlj
      have e1 := (hb.cell (p := ⟨A, off + j, none⟩) hA).trans (hc j hlj)
      have hAr : A < wr.heap.size := Nat.lt_of_lt_of_le hA hb.size
      have hj0 : (0 : Int) ≤ (j : Int) := by omega
      have hj1 : (j : Int) < (ys.length : Int) := by omega
      have HO1 := Lib.hid (HO.out (ys.getD j 0) wr)
      rw [f1, f2] at HO1
      have HVVr := Lib.hid (HVV4.out.below hb)
      cases j with
      | zero =>
        rw [Nat.add_zero] at e1
        have hy1 : (0 : Int) < (ys.length : Int) := by omega
        generalize ys.getD 0 0 = q at e1 HO1
        generalize oRst q (zs.length : Int) = R at HO1
        clear hc hb f1 f2
        go_wp2_with (fail)
        (go_at_call 11; refine (HO1.out).mono ?_; rintro e w6 ⟨vx, rfl, rx, hb6⟩)
        have HX6 := Lib.hid rx.view
        have HV6 := Lib.hid (HVVr.out.below hb6)
        have HB6 := Lib.hid (bl_step HB.out hb6)
        have HQ : Hid (∀ m, Calls Try.prog 13 #[vx, .slice av zs.length cv] (w6.drewN m) fun e w' => e = .returned (.bool true) ∧ ∃ m2, w' = (w6.drewN m).drewN m2) := fun m => HZQ.out _ _ _ HX6.out HV6.out
        clear hb6 rx
        go_wp2
        go_quiet ((go_at_call 13; exact Calls.quiet_of (HQ.out _)))
        have HE := Lib.hid (fun m => bl_q8 (W' := w6.drewN m) HB6.out ⟨m, rfl⟩)
        go_wp2
        go_roundw
        case rel => exact ⟨1, by omega, by go_num, HE.out _⟩
        case measure => simp [intOf]; omega
      | succ p =>
        have hp : p < ys.length := by omega
        have e0 := (hb.cell (p := ⟨A, off + p, none⟩) hA).trans (hc p hp)
        have hlt := HF2.out p hlj
        have wp : IntKind.i64.wrap ((p : Int) + 1 - 1) = (p : Int) := by rw [show (p : Int) + 1 - 1 = (p : Int) by omega]; exact IntWalk.i64_in _ (by omega)
        have wp2 : IntKind.i64.wrap (p : Int) = (p : Int) := IntWalk.i64_in _ (by omega)
        have hp0 : (0 : Int) ≤ (p : Int) := by omega
        have hp1 : (p : Int) < (ys.length : Int) := by omega
        generalize ys.getD (p + 1) 0 = q at e1 HO1 hlt
        generalize ys.getD p 0 = q0 at e0 hlt
        have gq : decide (q ≤ q0) = false := decide_eq_false (by omega)
        generalize oRst q (zs.length : Int) = R at HO1
        clear hc hb f1 f2
        go_wp2_with (fail)
        (go_at_call 11; refine (HO1.out).mono ?_; rintro e w6 ⟨vx, rfl, rx, hb6⟩)
        have HX6 := Lib.hid rx.view
        have HV6 := Lib.hid (HVVr.out.below hb6)
        have HB6 := Lib.hid (bl_step HB.out hb6)
        have d1 := (hb6.cell (p := ⟨A, off + (p + 1), none⟩) hAr).trans e1
        have d0 := (hb6.cell (p := ⟨A, off + p, none⟩) hAr).trans e0
        have HQ : Hid (∀ m, Calls Try.prog 13 #[vx, .slice av zs.length cv] (w6.drewN m) fun e w' => e = .returned (.bool true) ∧ ∃ m2, w' = (w6.drewN m).drewN m2) := fun m => HZQ.out _ _ _ HX6.out HV6.out
        clear hb6 rx e0 e1
        go_wp2
        go_quiet ((go_at_call 13; exact Calls.quiet_of (HQ.out _)))
        have HE := Lib.hid (fun m => bl_q8 (W' := w6.drewN m) HB6.out ⟨m, rfl⟩)
        go_wp2
        go_roundw
        case rel => exact ⟨p + 1 + 1, by omega, by go_num, HE.out _⟩
        case measure => simp [intOf]; omega
    · have HE := Lib.hid (bl_step HW4.out hb)
      clear hb
      have hlen := HLEN.out
      by_cases h3 : zs.length < 3
      · rw [if_pos h3] at hlen
        have g1 : decide ((zs.length : Int) < 3) = true := decide_eq_true (by omega)
        have g2 : decide ((ys.length : Int) ≤ 3) = true := decide_eq_true (by omega)
        have g3 : decide (ys.length ≤ 3) = true := decide_eq_true hlen
        go_wp2
        go_ret
        exact ⟨rfl, HE.out⟩
      · rw [if_neg h3] at hlen
        have g1 : decide ((zs.length : Int) < 3) = false := decide_eq_false (by omega)
        have g2 : decide (zs.length < 3) = false := decide_eq_false h3
        have g3 : ((ys.length : Int) == 1) = true := by rw [hlen]; rfl
        have g4 : (ys.length == 1) = true := by rw [hlen]; rfl
        have g5 : decide (ys.length = 1) = true := by rw [hlen]; rfl
        clear hlen
        go_wp2
        go_ret
        exact ⟨rfl, HE.out⟩
set_option maxRecDepth 100000 in
theorem fnRhythmModes_lifted (os : Os) (started : os.Started) (H : Type) (enc : TypeId × Value → H) :
    ReturnsInHanded {} Try.checked os 4 .any (Rows.fnRhythmModesSpec.pre6 enc Try.prog Try.f4 Rows.fnRhythmModesRow.domain false) (Rows.fnRhythmModesSpec.post enc Try.prog Try.f4 false true false false) := by
  refine returnsInHanded_of_change (C := Try.checked) own started (by kernel_rfl) Try.func4
    (ChangeSpec.witness6 (enc := enc) (C := Try.checked) false ⟨#[], #[.slice none 0 0], []⟩ 8 (by kernel_rfl) (by kernel_rfl) (by kernel_rfl) (by kernel_rfl)) ?_
  intro W base args ds gs before hval0 hW _ _
  have hval : ∀ (j : Nat) t v, Try.f4.params[j]? = some t → args[j]? = some v → Value.okWide Try.prog W .any base t v := hval0
  have hW' := hW
  obtain ⟨p, q, hA0, hV, rfl, _, _⟩ := hW
  have hA : DataW.TrodAll enc Try.prog W 0 (fun _ => true) true Try.f4.params.toList args.toList ds p := hA0
  rw [Try.params4] at hA hval
  obtain ⟨v0, vs0, d0, ds0, p0, q0, hargs, rfl, rfl, h0, r0⟩ := trodAll_cons hA
  obtain ⟨rfl, rfl, rfl⟩ := trodAll_nil r0
  obtain rfl : args = #[v0] := by cases args; simp_all
  obtain ⟨rfl, rfl⟩ := trodVars_none hV
  obtain ⟨a0, n0, c0, rfl⟩ := okWide_slice Try.underlying22 (hval 0 22 v0 rfl rfl)
  have k0 := h0
  have lt0 : ∀ x ∈ p0, x.block < W.heap.size := by obtain ⟨m, hm⟩ := k0; exact DataW.trod_lt m _ _ _ hm
  have y0 := code_in h0
  clear hA0 hval0
  refine (fnRhythmModes_walk a0 n0 c0 W y0.1 y0.2.1 y0.2.2).mono fun e W' ⟨he, hb⟩ => ?_
  subst he
  exact ⟨_, rfl, _, _, _, [], _, [], hW', trodAll_cons_mk (shut_bool Try.underlying4 _) trodAll_mk0, trodAll_cons_mk (Below.trod laidOut (by kernel_rfl) (of_decide_eq_true (by kernel_rfl)) k0 hb lt0) (trodAll_mk0), rfl, hb.frame _, fun h => by cases h⟩

theorem fnRhythmModes_holds : Rows.FnRhythmModesSaid :=
  OpenClaim.holds_of_wide 4 Try.f4 rfl rfl rfl rfl rfl rfl rfl ⟨rfl, rfl, rfl, rfl, rfl⟩ rfl rfl rfl rfl rfl (by kernel_rfl) Try.func4 (by kernel_rfl)
    (of_decide_eq_true (by kernel_rfl)) (by unfold Func.isWrapper; first | (rw [if_pos (by decide +kernel)]; kernel_rfl) | (rw [if_neg (by decide +kernel)]; exact ⟨rfl, rfl⟩))
    (fun os started H enc _ => fnRhythmModes_lifted os started H enc)

end Go.Proofs.Ythmkjdmjhngpjaa
