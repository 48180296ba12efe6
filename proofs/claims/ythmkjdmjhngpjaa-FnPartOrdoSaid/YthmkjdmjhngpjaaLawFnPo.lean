/-
  The law FnPartOrdo: for every code, a melody is sung in a rhythmic mode.
-/
import Derived.Test.YthmkjdmjhngpjaaSv8
import Derived.Test.YthmkjdmjhngpjaaDpm
import Derived.Test.YthmkjdmjhngpjaaOpen
namespace Go.Proofs.Ythmkjdmjhngpjaa
open Go.RowKit Go.ChangeShapes Go.WideShapes Go.ChangeAt
set_option maxRecDepth 100000
set_option linter.unusedVariables false

set_option maxHeartbeats 8000000 in
theorem fnPartOrdo_walk (a : Option Addr) (n cap : Nat) (a2 : Option Addr) (n2 cap2 : Nat) (w : World) (h : CodeAt w a n) (hc : n ≤ cap) (hcap : cap ≤ maxLen) (hc2 : n2 ≤ cap2) (hcap2 : cap2 ≤ maxLen) :
    Calls Try.prog 6 #[.slice a n cap, .slice a2 n2 cap2] w fun e w' => e = .returned (.bool true) ∧ Below w.heap.size w w' := by
  unfold maxLen at hcap2
  by_cases hn : 1048576 < n
  · have g : (1048576 : Int) < (n : Int) := by omega
    go_enter Try.func6, Try.ntmps6
    go_wp2
    go_ret
    exact ⟨rfl, Below.refl _ _⟩
  have g : decide ((1048576 : Int) < (n : Int)) = false := by simp; omega
  have gn : decide (1048576 < n) = false := decide_eq_false hn
  by_cases hnn : 1048576 < n2
  · have g2 : (1048576 : Int) < (n2 : Int) := by omega
    go_enter Try.func6, Try.ntmps6
    go_wp2
    go_ret
    exact ⟨rfl, Below.refl _ _⟩
  have g2 : decide ((1048576 : Int) < (n2 : Int)) = false := by simp; omega
  have gn2 : decide (1048576 < n2) = false := decide_eq_false hnn
  go_enter Try.func6, Try.ntmps6
  go_wp2_with (fail)
  (go_at_call 20; refine (drawPartMake_any a n cap _ h hc hcap).mono ?_; rintro e w1 ⟨v, u, ms, zs, lo, hi, rfl, hv, hu, hml, hzl, hb1⟩)
  clear h hc hcap g hn gn hnn g2 gn2
  have HT1 := Lib.hid hv
  have HU1 := Lib.hid hu
  obtain ⟨av, cv, rfl⟩ := trow_len8 hv
  have HW1 := Lib.hid hb1
  have HI := Lib.hid (fun w h k8 => partMake_any lo hi (.slice av ms.length cv) u ms zs w h k8)
  have HS := Lib.hid (fun w h k8 => sPartMake_any lo hi (.slice av ms.length cv) u ms zs w h k8)
  unfold VBuilt2 at HI HS
  have HY := Lib.hid (fun v u w h k8 => sameVoicesV_yes v u (pmL ms zs) w h k8)
  have HLN := Lib.hid (fun e => pm_len (ts := ms) (zs := zs) e)
  have HMV : Hid (pmOk ms zs = true → mv ms = true) := fun e => by simp [pmOk] at e; exact e.1
  clear hv hu hb1
  generalize pmL ms zs = xs at HI HS HY HLN
  generalize pmOk ms zs = ok at HI HS HLN HMV
  go_wp2_with (fail)
  (go_at_call 21; refine (HI.out _ HT1.out HU1.out).mono ?_; rintro e w2 ⟨vi, rfl, ri, hb2⟩)
  have HT2 := Lib.hid (HT1.out.below hb2 (.inr (Nat.le_refl _)))
  have HU2 := Lib.hid (HU1.out.below hb2)
  have HW2 := Lib.hid (bl_step HW1.out hb2)
  have HR2 := Lib.hid ri
  clear hb2 ri
  go_wp2_with (fail)
  (go_at_call 22; refine (HS.out _ HT2.out HU2.out).mono ?_; rintro e w3 ⟨vs, rfl, rs, hb3⟩)
  have HT3 := Lib.hid (HT2.out.below hb3 (.inr (Nat.le_refl _)))
  have HVI3 := Lib.hid (HR2.out.view.below hb3)
  have HVS3 := Lib.hid rs.view
  have HW3 := Lib.hid (bl_step HW2.out hb3)
  clear hb3 rs HR2 HU2 HT1 HU1
  go_wp2_with (fail)
  (go_at_call 23; refine (HY.out _ _ _ HVI3.out HVS3.out).mono ?_; rintro e w4 ⟨rfl, hb4⟩)
  have HT4 := Lib.hid (HT3.out.below hb4 (.inr (Nat.le_refl _)))
  have HVI4 := Lib.hid (HVI3.out.below hb4)
  have HVS4 := Lib.hid (HVS3.out.below hb4)
  have HW4 := Lib.hid (bl_step HW3.out hb4)
  clear hb4 HT3
  cases ok with
  | false =>
    go_wp2_with (fail)
    (go_at_call 23; refine (HY.out _ _ _ HVI4.out HVS4.out).mono ?_; rintro e w5 ⟨rfl, hb5⟩)
    have HW5 := Lib.hid (bl_step HW4.out hb5)
    clear hb5
    go_wp2
    go_ret
    exact ⟨rfl, HW5.out⟩
  | true =>
    have hmv := HMV.out rfl
    have hxl := HLN.out rfl
    by_cases hr : 1 ≤ ms.length ∧ ms.length ≤ 6
    case neg =>
      obtain ⟨ai, ci, hvi, _, _, _⟩ := HVI4.out
      rw [hxl] at hvi
      subst hvi
      have HXL := Lib.hid hxl
      have HG : Hid (decide ((ms.length : Int) < 1) = true ∨ (decide ((ms.length : Int) < 1) = false ∧ decide ((6 : Int) < (ms.length : Int)) = true)) := by
        by_cases h0 : ms.length < 1
        · exact .inl (decide_eq_true (by omega))
        · exact .inr ⟨decide_eq_false (by omega), decide_eq_true (by omega)⟩
      clear hxl hmv hr
      rcases HG.out with g1 | ⟨g1, g2⟩
      · have g3 : ms.length < 1 := by have := of_decide_eq_true g1; omega
        have g4 : decide (ms.length < 1) = true := decide_eq_true g3
        have g5 : decide (ms.length = 0) = true := decide_eq_true (by omega)
        clear g3
        go_wp2
        go_ret
        exact ⟨rfl, HW4.out⟩
      · have g3 : decide (6 < ms.length) = true := decide_eq_true (by have := of_decide_eq_true g2; omega)
        have g5 : decide (ms.length = 0) = false := decide_eq_false (by have := of_decide_eq_true g2; omega)
        have g4 : decide (ms.length < 1) = false := decide_eq_false (by have := of_decide_eq_true g2; omega)
        go_wp2
        go_ret
        exact ⟨rfl, HW4.out⟩
    case pos =>
      obtain ⟨M, hM⟩ : ∃ M : Int, 1 + ((n2 : Int) % 6) = M := ⟨_, rfl⟩
      have hM6 : 1 ≤ M ∧ M ≤ 6 := by omega
      obtain ⟨f1, f2, f3, f4, f5⟩ := ordo_part hmv hM6 hr
      have hR := oRst_in (m := M) (n := (ms.length : Int))
      have HO := Lib.hid (fun w => rhythmOrdo_any M (ms.length : Int) w)
      have HB := Lib.hid (fun w => rhythmBeats_any M (ms.length : Int) w)
      have HP := Lib.hid (fun u w h k8 => partMake_any lo hi (.slice av ms.length cv) u ms (oLst M ms.length) w h k8)
      have HPB := Lib.hid (fun v w h => partBeats_any v (pmL ms (oLst M ms.length)) w h)
      unfold Ordo2 at HO
      unfold VBuilt2 at HP
      rw [oBts_yes f1] at HB
      rw [f1] at HO
      rw [f2] at HP
      rw [f3] at HPB
      clear f1 f2 f3
      generalize pmL ms (oLst M ms.length) = ps at HP HPB
      generalize hls : oLst M (ms.length : Int) = ls at HO HP HB HPB f4 f5
      clear hls
      generalize oRst M (ms.length : Int) = R at HO HB hR
      generalize smL ls = T at HB HPB f4 f5
      have wT : IntKind.i64.wrap (T + R) = T + R := IntWalk.i64_in _ (by omega)
      have wM : IntKind.i64.wrap (1 + (n2 : Int) % 6) = M := by rw [IntWalk.i64_in _ (by omega)]; exact hM
      have wM2 : (n2 : Int).tmod 6 = (n2 : Int) % 6 := Int.tmod_eq_emod_of_nonneg (by omega)
      have g1 : decide ((ms.length : Int) < 1) = false := decide_eq_false (by omega)
      have g2 : decide ((6 : Int) < (ms.length : Int)) = false := decide_eq_false (by omega)
      have g3 : decide (6 < ms.length) = false := decide_eq_false (by omega)
      have g4 : decide (ms.length < 1) = false := decide_eq_false (by omega)
      have g5 : decide (ms.length = 0) = false := decide_eq_false (by omega)
      clear hM hxl hr hmv
      go_wp2_with (fail)
      (go_at_call 11; refine (HO.out _).mono ?_; rintro e w5 ⟨vo, rfl, ro, hb5⟩)
      have HV5 := Lib.hid ro.view
      have HT5 := Lib.hid (HT4.out.below hb5 (.inr (Nat.le_refl _)))
      have HW5 := Lib.hid (bl_step HW4.out hb5)
      clear hb5 ro
      go_wp2_with (fail)
      (go_at_call 21; refine (HP.out _ _ HT5.out HV5.out).mono ?_; rintro e w6 ⟨vp, rfl, rp, hb6⟩)
      have HV6 := Lib.hid rp.view
      have HW6 := Lib.hid (bl_step HW5.out hb6)
      clear hb6 rp
      go_wp2_with (fail)
      (go_at_call 24; refine (HPB.out _ _ HV6.out).mono ?_; rintro e w7 ⟨rfl, hb7⟩)
      have HW7 := Lib.hid (bl_step HW6.out hb7)
      clear hb7
      go_wp2_with (fail)
      (go_at_call 17; refine (HB.out _).mono ?_; rintro e w8 ⟨rfl, hb8⟩)
      have HW8 := Lib.hid (bl_step HW7.out hb8)
      clear hb8
      go_wp2
      go_ret
      exact ⟨rfl, HW8.out⟩
set_option maxRecDepth 100000 in
theorem fnPartOrdo_lifted (os : Os) (started : os.Started) (H : Type) (enc : TypeId × Value → H) :
    ReturnsInHanded {} Try.checked os 6 .any (Rows.fnPartOrdoSpec.pre6 enc Try.prog Try.f6 Rows.fnPartOrdoRow.domain false) (Rows.fnPartOrdoSpec.post enc Try.prog Try.f6 false true false false) := by
  refine returnsInHanded_of_change (C := Try.checked) own started (by kernel_rfl) Try.func6
    (ChangeSpec.witness6 (enc := enc) (C := Try.checked) false ⟨#[], #[.slice none 0 0, .slice none 0 0], []⟩ 8 (by kernel_rfl) (by kernel_rfl) (by kernel_rfl) (by kernel_rfl)) ?_
  intro W base args ds gs before hval0 hW _ _
  have hval : ∀ (j : Nat) t v, Try.f6.params[j]? = some t → args[j]? = some v → Value.okWide Try.prog W .any base t v := hval0
  have hW' := hW
  obtain ⟨p, q, hA0, hV, rfl, _, _⟩ := hW
  have hA : DataW.TrodAll enc Try.prog W 0 (fun _ => true) true Try.f6.params.toList args.toList ds p := hA0
  rw [Try.params6] at hA hval
  obtain ⟨v0, vs0, d0, ds0, p0, q0, hargs, rfl, rfl, h0, r0⟩ := trodAll_cons hA
  obtain ⟨v1, vs1, d1, ds1, p1, q1, rfl, rfl, rfl, h1, r1⟩ := trodAll_cons r0
  obtain ⟨rfl, rfl, rfl⟩ := trodAll_nil r1
  obtain rfl : args = #[v0, v1] := by cases args; simp_all
  obtain ⟨rfl, rfl⟩ := trodVars_none hV
  obtain ⟨a0, n0, c0, rfl⟩ := okWide_slice Try.underlying22 (hval 0 22 v0 rfl rfl)
  have k0 := h0
  have lt0 : ∀ x ∈ p0, x.block < W.heap.size := by obtain ⟨m, hm⟩ := k0; exact DataW.trod_lt m _ _ _ hm
  have y0 := code_in h0
  obtain ⟨a1, n1, c1, rfl⟩ := okWide_slice Try.underlying22 (hval 1 22 v1 rfl rfl)
  have k1 := h1
  have lt1 : ∀ x ∈ p1, x.block < W.heap.size := by obtain ⟨m, hm⟩ := k1; exact DataW.trod_lt m _ _ _ hm
  have y1 := code_in h1
  clear hA0 hval0
  refine (fnPartOrdo_walk a0 n0 c0 a1 n1 c1 W y0.1 y0.2.1 y0.2.2 y1.2.1 y1.2.2).mono fun e W' ⟨he, hb⟩ => ?_
  subst he
  exact ⟨_, rfl, _, _, _, [], _, [], hW', trodAll_cons_mk (shut_bool Try.underlying4 _) trodAll_mk0, trodAll_cons_mk (Below.trod laidOut (by kernel_rfl) (of_decide_eq_true (by kernel_rfl)) k0 hb lt0) (trodAll_cons_mk (Below.trod laidOut (by kernel_rfl) (of_decide_eq_true (by kernel_rfl)) k1 hb lt1) (trodAll_mk0)), rfl, hb.frame _, fun h => by cases h⟩

theorem fnPartOrdo_holds : Rows.FnPartOrdoSaid :=
  OpenClaim.holds_of_wide 6 Try.f6 rfl rfl rfl rfl rfl rfl rfl ⟨rfl, rfl, rfl, rfl, rfl⟩ rfl rfl rfl rfl rfl (by kernel_rfl) Try.func6 (by kernel_rfl)
    (of_decide_eq_true (by kernel_rfl)) (by unfold Func.isWrapper; first | (rw [if_pos (by decide +kernel)]; kernel_rfl) | (rw [if_neg (by decide +kernel)]; exact ⟨rfl, rfl⟩))
    (fun os started H enc _ => fnPartOrdo_lifted os started H enc)

end Go.Proofs.Ythmkjdmjhngpjaa
