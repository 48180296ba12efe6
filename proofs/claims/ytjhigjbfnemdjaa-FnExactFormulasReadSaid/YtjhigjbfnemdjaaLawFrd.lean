/-
  The exact law of FormulasRead: for every list and every melody the function answers as its model, in memory of its own, and leaves its arguments alone.
-/
import Derived.Test.YtjhigjbfnemdjaaFrd
import Derived.Test.YtjhigjbfnemdjaaFk
import Derived.Test.YtjhigjbfnemdjaaOpenT
namespace Go.Proofs.Ytjhigjbfnemdjaa
open Go.RowKit Go.ChangeShapes Go.WideShapes Go.ChangeAt
set_option maxRecDepth 100000
set_option linter.unusedVariables false

set_option maxHeartbeats 4000000 in
theorem Frd_walk (a0 : Option Addr) (c0 : Nat) (fs : List Fm) (a1 : Option Addr) (c1 : Nat) (ms : List (Int × Bool)) (w : World) (h0 : ArgF w a0 fs) (hc0 : fs.length ≤ c0) (hcap0 : c0 ≤ maxLen) (h1 : ArgT w a1 ms) (hc1 : ms.length ≤ c1) (hcap1 : c1 ≤ maxLen) :
    Calls Try.prog 7 #[.slice a0 fs.length c0, .slice a1 ms.length c1] w fun e w' => e = .returned (.bool true) ∧ Below w.heap.size w w' := by
  unfold maxLen at hcap0
  unfold maxLen at hcap1
  by_cases hn0 : fs.length + szf fs ≤ 1048576
  case neg =>
    have hbw0 : Below w.heap.size w w := Below.refl _ _
    have HS0 := Lib.hid (fun w h => szFormS_any a0 c0 fs w h hc0 (by unfold maxLen; omega))
    rw [szAns_no hn0] at HS0
    have HA0 := Lib.hid h0
    clear h0
    clear h1
    go_enter Try.func7, Try.ntmps7
    go_wp2_with (fail)
    (go_at_call 9; refine (HS0.out _ HA0.out).mono ?_; rintro e w1 ⟨rfl, hb1⟩)
    have z1 := hb1.size
    have hbw1 := bl_step hbw0 hb1
    clear hb1
    go_wp2
    go_ret
    exact ⟨rfl, hbw1⟩
  obtain ⟨L, hL⟩ : ∃ L : Nat, (1048576 : Int) - ((fs.length + szf fs : Nat) : Int) = (L : Int) := ⟨1048576 - (fs.length + szf fs), by omega⟩
  have hL2 : L ≤ 1048576 := by omega
  by_cases hn1 : ms.length ≤ L
  case neg =>
    have hbw0 : Below w.heap.size w w := Below.refl _ _
    have HS0 := Lib.hid (fun w h => szFormS_any a0 c0 fs w h hc0 (by unfold maxLen; omega))
    rw [szAns_yes hn0, hL] at HS0
    have tzf : decide ((L : Int) < 0) = false := decide_eq_false (by omega)
    have HA0 := Lib.hid h0
    have HSM := Lib.hid (fun w => szToneL_any a1 ms.length c1 L (by omega) hL2 w)
    rw [if_neg hn1] at HSM
    clear h0
    clear h1
    clear hL
    go_enter Try.func7, Try.ntmps7
    go_wp2_with (fail)
    (go_at_call 9; refine (HS0.out _ HA0.out).mono ?_; rintro e w1 ⟨rfl, hb1⟩)
    have z1 := hb1.size
    have hbw1 := bl_step hbw0 hb1
    clear hb1
    go_wp2_with (fail)
    (go_at_call 29; refine (HSM.out _).mono ?_; rintro e wx ⟨rfl, rfl⟩)
    go_wp2
    go_ret
    exact ⟨rfl, hbw1⟩
  have HS0 := Lib.hid (fun w h => szFormS_any a0 c0 fs w h hc0 (by unfold maxLen; omega))
  rw [szAns_yes hn0] at HS0
  have HT0 := Lib.hid (fun w h => toFormS_any a0 c0 fs w h hn0)
  have tz0 : decide ((1048576 : Int) - ((fs.length + szf fs : Nat) : Int) < 0) = false := decide_eq_false (by omega)
  have HA0 := Lib.hid h0
  rw [hL] at HS0
  have tzl : decide ((L : Int) < 0) = false := decide_eq_false (by omega)
  have HSM := Lib.hid (fun w => szToneL_any a1 ms.length c1 L (by omega) hL2 w)
  rw [if_pos hn1] at HSM
  have tzm : decide ((L : Int) - (ms.length : Int) < 0) = false := decide_eq_false (by omega)
  have HT1 := Lib.hid (fun w h => toToneS_any a1 c1 ms w h (by omega))
  have HA1 := Lib.hid h1
  have KS := Lib.hid (fun lo hi v u w h k => sFormulasRead_any lo hi v u fs ms w h k)
  have KI := Lib.hid (fun lo hi v u w h k => formulasRead_any lo hi v u fs ms w h k)
  unfold IBuilt2 at KS KI
  have hl := frd_len fs ms
  generalize frdOk fs ms = ok at KS KI
  have hmk0 := mks_flens fs
  obtain ⟨K0, hK0⟩ : ∃ K : Int, K = 1 + (mks (flens fs) : Int) := ⟨_, rfl⟩
  have lK0 : 1 ≤ K0 ∧ K0 ≤ 5000000 := by omega
  have nK0 : decide (K0 < 0) = false := decide_eq_false (by omega)
  have HM0 := Lib.hid (fun lo hi v us w h hs => markFormS_any lo hi v us fs 1 (by omega) (by omega) hn0 w h hs)
  unfold FMarked at HM0
  rw [← hK0] at HM0
  obtain ⟨K1, hK1⟩ : ∃ K : Int, K = K0 + 2 * (ms.length : Int) := ⟨_, rfl⟩
  have lK1 : 1 ≤ K1 ∧ K1 ≤ 5000000 := by omega
  have nK1 : decide (K1 < 0) = false := decide_eq_false (by omega)
  have HM1 := Lib.hid (fun lo hi v w h => markToneS_any lo hi v ms K0 (by omega) (by omega) (by omega) w h)
  unfold TMarked at HM1
  rw [← hK1] at HM1
  generalize frd fs ms = ys at KS KI hl
  obtain ⟨KG, hKG⟩ : ∃ K : Int, K = 1 + (ys.length : Int) := ⟨_, rfl⟩
  have lKG : 0 ≤ KG ∧ KG ≤ 50000000 := by omega
  have nKG : decide (KG < 0) = false := decide_eq_false (by omega)
  have HMG := Lib.hid (fun lo hi v w h => markIntO_any lo hi v ys 1 (by omega) (by omega) hl w h)
  rw [← hKG] at HMG
  have HHG := Lib.hid (fun lo hi v w h => heldIntO_any lo hi v 1 ys.length (by omega) (by omega) hl w h)
  rw [← hKG] at HHG
  clear h0
  clear h1
  clear hK0
  clear hK1
  clear hKG
  have hbw0 : Below w.heap.size w w := Below.refl _ _
  go_enter Try.func7, Try.ntmps7
  go_wp2_with (fail)
  (go_at_call 9; refine (HS0.out _ (HA0.out.below hbw0)).mono ?_; rintro e w1 ⟨rfl, hb1⟩)
  have z1 := hb1.size
  have hbw1 := bl_step hbw0 hb1
  clear hb1
  go_wp2_with (fail)
  (go_at_call 29; refine (HSM.out _).mono ?_; rintro e wx ⟨rfl, rfl⟩)
  clear hL
  go_wp2_with (fail)
  (go_at_call 11; refine (HT0.out _ (HA0.out.below hbw1)).mono ?_; rintro e w2 ⟨vp0, usp0, rfl, rp0, spp0, hb2⟩)
  have z2 := hb2.size
  have hbw2 := bl_step hbw1 hb2
  clear hb2
  go_wp2_with (fail)
  (go_at_call 31; refine (HT1.out _ (HA1.out.below hbw2)).mono ?_; rintro e w3 ⟨vp1, rfl, rp1, hb3⟩)
  have z3 := hb3.size
  have hbw3 := bl_step hbw2 hb3
  have rp0 := rp0.below hb3 (.inl (by omega))
  clear hb3
  go_wp2_with (fail)
  (go_at_call 30; refine (KS.out _ _ _ _ _ rp0.view rp1).mono ?_; rintro e w4 ⟨us, rfl, gs, hb4⟩)
  have z4 := hb4.size
  have hbw4 := bl_step hbw3 hb4
  have rp0 := rp0.below hb4 (.inl (by omega))
  have rp1 := rp1.below hb4 (.inl (by omega))
  clear hb4
  clear rp0
  clear rp1
  go_wp2_with (fail)
  (go_at_call 11; refine (HT0.out _ (HA0.out.below hbw4)).mono ?_; rintro e w5 ⟨vx0, usx0, rfl, rx0, spx0, hb5⟩)
  have z5 := hb5.size
  have hbw5 := bl_step hbw4 hb5
  have gs := gs.below hb5 (.inl (by omega))
  clear hb5
  go_wp2_with (fail)
  (go_at_call 31; refine (HT1.out _ (HA1.out.below hbw5)).mono ?_; rintro e w6 ⟨vx1, rfl, rx1, hb6⟩)
  have z6 := hb6.size
  have hbw6 := bl_step hbw5 hb6
  have gs := gs.below hb6 (.inl (by omega))
  have rx0 := rx0.below hb6 (.inl (by omega))
  clear hb6
  go_wp2_with (fail)
  (go_at_call 32; refine (KI.out _ _ _ _ _ rx0.view rx1).mono ?_; rintro e w7 ⟨ui, rfl, gi, hb7⟩)
  have z7 := hb7.size
  have hbw7 := bl_step hbw6 hb7
  have gs := gs.below hb7 (.inl (by omega))
  have rx0 := rx0.below hb7 (.inl (by omega))
  have rx1 := rx1.below hb7 (.inl (by omega))
  clear hb7
  go_wp2_with (fail)
  (go_at_call 14; refine (eqIntV_any _ _ ys _ gi.view gs.view).mono ?_; rintro e w8 ⟨rfl, hb8⟩)
  have z8 := hb8.size
  have hbw8 := bl_step hbw7 hb8
  have gs := gs.below hb8 (.inl (by omega))
  have rx0 := rx0.below hb8 (.inl (by omega))
  have rx1 := rx1.below hb8 (.inl (by omega))
  have gi := gi.below hb8 (.inl (by omega))
  clear hb8
  go_wp2_with (fail)
  (go_at_call 11; refine (HT0.out _ (HA0.out.below hbw8)).mono ?_; rintro e w9 ⟨vq0, usq0, rfl, rq0, spq0, hb9⟩)
  have z9 := hb9.size
  have hbw9 := bl_step hbw8 hb9
  have gs := gs.below hb9 (.inl (by omega))
  have rx0 := rx0.below hb9 (.inl (by omega))
  have rx1 := rx1.below hb9 (.inl (by omega))
  have gi := gi.below hb9 (.inl (by omega))
  clear hb9
  go_wp2_with (fail)
  (go_at_call 15; refine (eqFormS_any _ _ fs _ rx0.view rq0.view).mono ?_; rintro e w10 ⟨rfl, hb10⟩)
  have z10 := hb10.size
  have hbw10 := bl_step hbw9 hb10
  have gs := gs.below hb10 (.inl (by omega))
  have rx0 := rx0.below hb10 (.inl (by omega))
  have rx1 := rx1.below hb10 (.inl (by omega))
  have gi := gi.below hb10 (.inl (by omega))
  have rq0 := rq0.below hb10 (.inl (by omega))
  clear hb10
  clear rq0
  go_wp2_with (fail)
  (go_at_call 31; refine (HT1.out _ (HA1.out.below hbw10)).mono ?_; rintro e w11 ⟨vq1, rfl, rq1, hb11⟩)
  have z11 := hb11.size
  have hbw11 := bl_step hbw10 hb11
  have gs := gs.below hb11 (.inl (by omega))
  have rx0 := rx0.below hb11 (.inl (by omega))
  have rx1 := rx1.below hb11 (.inl (by omega))
  have gi := gi.below hb11 (.inl (by omega))
  clear hb11
  go_wp2_with (fail)
  (go_at_call 26; refine (eqToneS_any _ _ _ _ _ _ ms _ rx1 rq1).mono ?_; rintro e w12 ⟨rfl, hb12⟩)
  have z12 := hb12.size
  have hbw12 := bl_step hbw11 hb12
  have gs := gs.below hb12 (.inl (by omega))
  have rx0 := rx0.below hb12 (.inl (by omega))
  have rx1 := rx1.below hb12 (.inl (by omega))
  have gi := gi.below hb12 (.inl (by omega))
  have rq1 := rq1.below hb12 (.inl (by omega))
  clear hb12
  clear rq1
  go_wp2_with (fail)
  (go_at_call 16; refine (HM0.out _ _ _ _ _ rx0 spx0).mono ?_; rintro e w13 ⟨rfl, hq13, ht13⟩)
  have z13 := ht13.size
  have hbw13 : Below w.heap.size w w13 := hbw12.trans (ht13.below (by omega) (by omega))
  have gs := gs.turned ht13 (.inl (by omega))
  have rx1 := rx1.turned ht13 (.inr (by omega))
  have gi := gi.turned ht13 (.inr (by omega))
  clear ht13
  clear hq13
  clear rx0
  go_wp2_with (fail)
  (go_at_call 27; refine (HM1.out _ _ _ _ rx1).mono ?_; rintro e w14 ⟨rfl, hq14, ht14⟩)
  have z14 := ht14.size
  have hbw14 : Below w.heap.size w w14 := hbw13.trans (ht14.below (by omega) (by omega))
  have gs := gs.turned ht14 (.inl (by omega))
  have gi := gi.turned ht14 (.inr (by omega))
  clear ht14
  clear hq14
  clear rx1
  go_wp2_with (fail)
  (go_at_call 14; refine (eqIntV_any _ _ ys _ gi.view gs.view).mono ?_; rintro e w15 ⟨rfl, hb15⟩)
  have z15 := hb15.size
  have hbw15 := bl_step hbw14 hb15
  have gs := gs.below hb15 (.inl (by omega))
  have gi := gi.below hb15 (.inl (by omega))
  clear hb15
  go_wp2_with (fail)
  (go_at_call 17; refine (HMG.out _ _ _ _ gi).mono ?_; rintro e w16 ⟨rfl, gq, ho16⟩)
  have ht16 := ho16.turned gi
  have z16 := ht16.size
  have hbw16 : Below w.heap.size w w16 := hbw15.trans (ht16.below (by omega) (by omega))
  have gs := gs.turned ht16 (.inl (by omega))
  clear ht16 ho16
  go_wp2_with (fail)
  (go_at_call 18; refine (HHG.out _ _ _ _ gq).mono ?_; rintro e wx ⟨rfl, rfl⟩)
  clear gi
  go_wp2_with (fail)
  (go_at_call 11; refine (HT0.out _ (HA0.out.below hbw16)).mono ?_; rintro e w17 ⟨vh0, ush0, rfl, rh0, sph0, hb17⟩)
  have z17 := hb17.size
  have hbw17 := bl_step hbw16 hb17
  have gs := gs.below hb17 (.inl (by omega))
  have gq := gq.below hb17 (.inl (by omega))
  clear hb17
  go_wp2_with (fail)
  (go_at_call 31; refine (HT1.out _ (HA1.out.below hbw17)).mono ?_; rintro e w18 ⟨vh1, rfl, rh1, hb18⟩)
  have z18 := hb18.size
  have hbw18 := bl_step hbw17 hb18
  have gs := gs.below hb18 (.inl (by omega))
  have gq := gq.below hb18 (.inl (by omega))
  have rh0 := rh0.below hb18 (.inl (by omega))
  clear hb18
  go_wp2_with (fail)
  (go_at_call 32; refine (KI.out _ _ _ _ _ rh0.view rh1).mono ?_; rintro e w19 ⟨uh, rfl, gh, hb19⟩)
  have z19 := hb19.size
  have hbw19 := bl_step hbw18 hb19
  have gs := gs.below hb19 (.inl (by omega))
  have gq := gq.below hb19 (.inl (by omega))
  have rh0 := rh0.below hb19 (.inl (by omega))
  have rh1 := rh1.below hb19 (.inl (by omega))
  clear hb19
  clear rh0
  clear rh1
  go_wp2_with (fail)
  (go_at_call 14; refine (eqIntV_any _ _ ys _ gh.view gs.view).mono ?_; rintro e w20 ⟨rfl, hb20⟩)
  have z20 := hb20.size
  have hbw20 := bl_step hbw19 hb20
  have gs := gs.below hb20 (.inl (by omega))
  have gq := gq.below hb20 (.inl (by omega))
  have gh := gh.below hb20 (.inl (by omega))
  clear hb20
  clear gs gh
  go_wp2_with (fail)
  (go_at_call 18; refine (HHG.out _ _ _ _ gq).mono ?_; rintro e wx ⟨rfl, rfl⟩)
  go_wp2
  go_ret
  exact ⟨rfl, hbw20⟩

set_option maxRecDepth 100000 in
theorem fnExactFormulasRead_lifted (os : Os) (started : os.Started) (H : Type) (enc : TypeId × Value → H) :
    ReturnsInHanded {} Try.checked os 7 .any (Rows.fnExactFormulasReadSpec.pre6 enc Try.prog Try.f7 Rows.fnExactFormulasReadRow.domain false) (Rows.fnExactFormulasReadSpec.post enc Try.prog Try.f7 false true false false) := by
  refine returnsInHanded_of_change (C := Try.checked) own started (by kernel_rfl) Try.func7
    (ChangeSpec.witness6 (enc := enc) (C := Try.checked) false ⟨#[], #[.slice none 0 0, .slice none 0 0], []⟩ 8 (by kernel_rfl) (by kernel_rfl) (by kernel_rfl) (by kernel_rfl)) ?_
  intro W base args ds gs before hval0 hW _ _
  have hval : ∀ (j : Nat) t v, Try.f7.params[j]? = some t → args[j]? = some v → Value.okWide Try.prog W .any base t v := hval0
  have hW' := hW
  obtain ⟨p, q, hA0, hV, rfl, _, _⟩ := hW
  have hA : DataW.TrodAll enc Try.prog W 0 (fun _ => true) true Try.f7.params.toList args.toList ds p := hA0
  rw [Try.params7] at hA hval
  obtain ⟨v0, vs0, d0, ds0, p0, q0, hargs, rfl, rfl, h0, r0⟩ := trodAll_cons hA
  obtain ⟨v1, vs1, d1, ds1, p1, q1, rfl, rfl, rfl, h1, r1⟩ := trodAll_cons r0
  obtain ⟨rfl, rfl, rfl⟩ := trodAll_nil r1
  obtain rfl : args = #[v0, v1] := by cases args; simp_all
  obtain ⟨rfl, rfl⟩ := trodVars_none hV
  obtain ⟨a0, n0, c0, rfl⟩ := okWide_slice Try.underlying22 (hval 0 22 v0 rfl rfl)
  have k0 := h0
  have lt0 : ∀ x ∈ p0, x.block < W.heap.size := by obtain ⟨m, hm⟩ := k0; exact DataW.trod_lt m _ _ _ hm
  obtain ⟨x0, rfl, y0, z0, u0⟩ := formulas_in h0
  obtain ⟨a1, n1, c1, rfl⟩ := okWide_slice Try.underlying46 (hval 1 46 v1 rfl rfl)
  have k1 := h1
  have lt1 : ∀ x ∈ p1, x.block < W.heap.size := by obtain ⟨m, hm⟩ := k1; exact DataW.trod_lt m _ _ _ hm
  obtain ⟨x1, rfl, y1, z1, u1⟩ := tones_in h1
  clear hA0 hval0
  refine (Frd_walk a0 c0 x0 a1 c1 x1 W y0 z0 u0 y1 z1 u1).mono fun e W' ⟨he, hb⟩ => ?_
  subst he
  exact ⟨_, rfl, _, _, _, [], _, [], hW', trodAll_cons_mk (shut_bool Try.underlying4 _) trodAll_mk0, trodAll_cons_mk (Below.trod laidOut (by kernel_rfl) (of_decide_eq_true (by kernel_rfl)) k0 hb lt0) (trodAll_cons_mk (Below.trod laidOut (by kernel_rfl) (of_decide_eq_true (by kernel_rfl)) k1 hb lt1) (trodAll_mk0)), rfl, hb.frame _, fun h => by cases h⟩

theorem fnExactFormulasRead_holds : Rows.FnExactFormulasReadSaid :=
  OpenClaim.holds_of_wide 7 Try.f7 rfl rfl rfl rfl rfl rfl rfl ⟨rfl, rfl, rfl, rfl, rfl⟩ rfl rfl rfl rfl rfl (by kernel_rfl) Try.func7 (by kernel_rfl)
    (of_decide_eq_true (by kernel_rfl)) (by unfold Func.isWrapper; first | (rw [if_pos (by decide +kernel)]; kernel_rfl) | (rw [if_neg (by decide +kernel)]; exact ⟨rfl, rfl⟩))
    (fun os started H enc _ => fnExactFormulasRead_lifted os started H enc)

end Go.Proofs.Ytjhigjbfnemdjaa
