/-
  The law FnSingMutations: for every two codes, the mutations of two parts are those of the whole.
-/
import Derived.Test.YtjodcaeohkjlnaaSingA
import Derived.Test.YtjodcaeohkjlnaaDrawSu
import Derived.Test.YtjodcaeohkjlnaaCode
namespace Go.Proofs.Ytjodcaeohkjlnaa
open Go.RowKit Go.ChangeShapes Go.WideShapes Go.ChangeAt
set_option maxRecDepth 100000
set_option linter.unusedVariables false

set_option maxHeartbeats 8000000 in
theorem fnSingMutations_walk (a : Option Addr) (n cap : Nat) (a' : Option Addr) (n' cap' : Nat) (w : World) (h : CodeAt w a n) (hc : n ≤ cap) (hcap : cap ≤ maxLen) (hc' : n' ≤ cap') (hcap' : cap' ≤ maxLen) :
    Calls Try.prog 6 #[.slice a n cap, .slice a' n' cap'] w fun e w' => e = .returned (.bool true) ∧ Below w.heap.size w w' := by
  by_cases hn : 1048576 < n
  · have g : (1048576 : Int) < (n : Int) := by omega
    go_enter Try.func6, Try.ntmps6
    go_wp2
    go_ret
    exact ⟨rfl, Below.refl _ _⟩
  have g : decide ((1048576 : Int) < (n : Int)) = false := by simp; omega
  by_cases hn' : 1048576 < n'
  · have g' : (1048576 : Int) < (n' : Int) := by omega
    go_enter Try.func6, Try.ntmps6
    go_wp2
    go_ret
    exact ⟨rfl, Below.refl _ _⟩
  have g' : decide ((1048576 : Int) < (n' : Int)) = false := by simp; omega
  go_enter Try.func6, Try.ntmps6
  go_wp2_with (fail)
  (go_at_call 21; refine (drawSingMutations_any a n cap _ h hc hcap).mono ?_; rintro e w1 ⟨v, u, xs, rfl, hr1, hl8, hst, hb1⟩)
  clear h hc hcap hc' hcap' g g' hn
  rcases hst with ⟨zs, hz1, hz8⟩ | ⟨ua, um, uc, rfl, hne⟩
  case inr =>
    go_wp2_with (fail)
    (go_at_call 15; refine (singMutations_len _ _ v ua um uc xs _ hr1 hne).mono ?_; rintro e w2 ⟨rfl, hb2⟩)
    go_wp2_with (fail)
    (go_at_call 22; refine (sSingMutations_len _ _ v ua um uc xs _ (hr1.below hb2 (.inr (Nat.le_refl _))) hne).mono ?_; rintro e w3 ⟨rfl, hb3⟩)
    clear hr1 hne
    go_wp2
    go_ret
    exact ⟨rfl, bl_step (bl_step hb1 hb2) hb3⟩
  by_cases hs : sok xs zs = false
  · have e1 := smu_no hs
    go_wp2_with (fail)
    (go_at_call 15; refine (singMutations_any _ _ _ _ v u xs zs _ hr1 hz1).mono ?_; rintro e w2 ⟨rfl, hb2⟩)
    go_wp2_with (fail)
    (go_at_call 22; refine (sSingMutations_any _ _ _ _ v u xs zs _ (hr1.below hb2 (.inr (Nat.le_refl _))) (hz1.below hb2 (.inr (Nat.le_refl _)))).mono ?_; rintro e w3 ⟨rfl, hb3⟩)
    rw [e1]
    clear hr1 hz1 hs e1
    go_wp2
    go_ret
    exact ⟨rfl, bl_step (bl_step hb1 hb2) hb3⟩
  rw [Bool.not_eq_false] at hs
  obtain ⟨L, hL⟩ : ∃ L, xs.length = L := ⟨_, rfl⟩
  obtain ⟨q, hm, hq⟩ : ∃ q : Nat, (n' : Int).tmod ((L : Int) + 1) = (q : Int) ∧ q ≤ L := ⟨n' % (L + 1), by rw [Int.tmod_eq_emod_of_nonneg (by omega)]; rfl, by have := Nat.mod_lt n' (show 0 < L + 1 by omega); omega⟩
  obtain ⟨sp1, sp2, hzl⟩ := sok_parts hs (by omega : q ≤ xs.length)
  rw [hL] at hzl
  have e0 := smu_yes hs
  have e1 := smu_yes sp1
  have e2 := smu_yes sp2
  have hbd := mutTo_bd zs (zs.length - 1)
  have hb01 := mutTo_bd (zs.take q) ((zs.take q).length - 1)
  have hb02 := mutTo_bd (zs.drop q) ((zs.drop q).length - 1)
  have hend : q = 0 ∨ q = L → smu xs zs = smu (xs.take q) (zs.take q) + smu (xs.drop q) (zs.drop q) := fun h => by rw [e0, e1, e2]; exact mut_ends (by omega)
  have hmid : 0 < q → q < L → smu xs zs = smu (xs.take q) (zs.take q) + smu (xs.drop q) (zs.drop q) + (if (zs.getD (q - 1) 0 != zs.getD q 0) = true then 1 else 0) := fun h1 h2 => by rw [e0, e1, e2]; exact mut_mid h1 (by omega)
  rw [← e0] at hbd
  rw [← e1] at hb01
  rw [← e2] at hb02
  have hN0 : 0 ≤ smu xs zs := hbd.1
  have hN1 : smu xs zs ≤ 8 := by omega
  have hA0 : 0 ≤ smu (xs.take q) (zs.take q) := hb01.1
  have hA1 : smu (xs.take q) (zs.take q) ≤ 8 := by have := hb01.2; rw [List.length_take] at this; omega
  have hC0 : 0 ≤ smu (xs.drop q) (zs.drop q) := hb02.1
  have hC1 : smu (xs.drop q) (zs.drop q) ≤ 8 := by have := hb02.2; rw [List.length_drop] at this; omega
  have HEND := Lib.hid hend
  have HMID := Lib.hid hmid
  clear hend hmid e0 e1 e2 hbd hb01 hb02 sp1 sp2 hs
  obtain ⟨va, vc, rfl, hv1, hv2, hv3⟩ := hr1.argA
  obtain ⟨ua, uc, rfl, hu1, hu2, hu3⟩ := hz1.argA
  have lt1 : (xs.take q).length = q := by rw [List.length_take]; omega
  have lt2 : (zs.take q).length = q := by rw [List.length_take]; omega
  have ld1 : (xs.drop q).length = L - q := by rw [List.length_drop]; omega
  have ld2 : (zs.drop q).length = L - q := by rw [List.length_drop]; omega
  rw [hL] at hv1
  rw [hzl] at hu1
  have K0 := Lib.hid (fun (W : World) h k => singMutations_any w.heap.size w1.heap.size w.heap.size w1.heap.size (.slice va L vc) (.slice ua L uc) xs zs W h k)
  have S0 := Lib.hid (fun (W : World) h k => sSingMutations_any w.heap.size w1.heap.size w.heap.size w1.heap.size (.slice va L vc) (.slice ua L uc) xs zs W h k)
  have K1 : ∀ W, Below w1.heap.size w1 W → Calls Try.prog 15 #[.slice va q vc, .slice ua q uc] W fun e w' => e = .returned (.int .i64 (smu (xs.take q) (zs.take q))) ∧ Below W.heap.size W w' := fun W hb => by
    have := singMutations_at va vc ua uc (xs.take q) (zs.take q) W ((hv3.below hb).takeA q) (by omega) hv2 ((hu3.below hb).take q)
    rw [lt1, lt2] at this
    exact this
  obtain ⟨va2, hva2⟩ : ∃ x, (if vc = q then va else va.map (·.add (q * 2))) = x := ⟨_, rfl⟩
  obtain ⟨ua2, hua2⟩ : ∃ x, (if uc = q then ua else ua.map (·.add q)) = x := ⟨_, rfl⟩
  have K2 : ∀ W, Below w1.heap.size w1 W → Calls Try.prog 15 #[.slice va2 (L - q) (vc - q), .slice ua2 (L - q) (uc - q)] W fun e w' => e = .returned (.int .i64 (smu (xs.drop q) (zs.drop q))) ∧ Below W.heap.size W w' := fun W hb => by
    have := singMutations_at va2 (vc - q) ua2 (uc - q) (xs.drop q) (zs.drop q) W (hva2 ▸ (hv3.below hb).dropA (by omega) (by omega)) (by omega) (by omega) (hua2 ▸ (hu3.below hb).drop (by omega) (by omega))
    rw [ld1, ld2] at this
    exact this
  have KK1 := Lib.hid K1
  have KK2 := Lib.hid K2
  have hs1 := tslice_hi va L vc q (by omega)
  have hs2 := islice_hi ua L uc q (by omega)
  have hs3 := tslice_lo va L vc q hq
  have hs4 := islice_lo ua L uc q hq
  rw [hva2] at hs3
  rw [hua2] at hs4
  have HU3 := Lib.hid hu3
  have HZL := Lib.hid hzl
  rw [hL] at hr1
  rw [hzl] at hz1
  have HR1 := Lib.hid hr1
  have HZ1 := Lib.hid hz1
  have HB1 := Lib.hid hb1
  clear K1 K2 hva2 hua2 hv1 hv2 hv3 hu2 hu3 lt1 lt2 ld1 ld2 hr1 hz1 hb1
  go_wp2_with (fail)
  (go_at_call 15; refine (K0.out _ HR1.out HZ1.out).mono ?_; rintro e w2 ⟨rfl, hb2⟩)
  go_wp2_with (fail)
  (go_at_call 22; refine (S0.out _ (HR1.out.below hb2 (.inr (Nat.le_refl _))) (HZ1.out.below hb2 (.inr (Nat.le_refl _)))).mono ?_; rintro e w3 ⟨rfl, hb3⟩)
  have hb13 := bl_step hb2 hb3
  have HB3 := Lib.hid (bl_step HB1.out hb13)
  have hbx : Below w1.heap.size w1 w3.drew := hb13.drew
  generalize smu (xs.take q) (zs.take q) = N1 at HEND HMID KK1 hA0 hA1
  generalize smu (xs.drop q) (zs.drop q) = N2 at HEND HMID KK2 hC0 hC1
  generalize smu xs zs = N0 at HEND HMID hN0 hN1 ⊢
  have hL8 : L ≤ 8 := by omega
  clear hL hzl hb2 K0 S0
  have sw0 : IntKind.i64.wrap ((L : Int) + 1) = (L : Int) + 1 := IntWalk.i64_in _ (by omega)
  have sw1 : IntKind.i64.wrap (q : Int) = (q : Int) := IntWalk.i64_in _ (by omega)
  have sw2 : IntKind.i64.wrap (N1 + N2) = N1 + N2 := IntWalk.i64_in _ (by omega)
  have sw3 : IntKind.i64.wrap (N1 + N2 + 1) = N1 + N2 + 1 := IntWalk.i64_in _ (by omega)
  have gd0 : ((L : Int) + 1 == 0) = false := by simp; omega
  have gn0 : decide (N0 < 0) = false := by simp; omega
  go_wp2
  go_region_with (first | (go_at_call_of 15 (Value.slice va q vc); refine (KK1.out _ (by first | exact hbx | exact bl_step hbx hb5)).mono ?_; rintro e w4 ⟨rfl, hb4⟩) | (go_at_call_of 15 (Value.slice va2 (L - q) (vc - q)); refine (KK2.out _ (by first | exact hbx | exact bl_step hbx hb4)).mono ?_; rintro e w5 ⟨rfl, hb5⟩))
  go_wp2
  simp only [Act.put, List.getElem_toArray, List.getElem_cons_succ, List.getElem_cons_zero, List.setIfInBounds_toArray, List.set_cons_zero, List.set_cons_succ]
  have HU5 := Lib.hid (HU3.out.below (bl_step (bl_step hbx hb4) hb5))
  have HBW := Lib.hid (bl_step (bl_step HB3.out.drew hb4) hb5)
  have HZ5 := HZL.out
  clear hbx hb4 hb5 hb13 KK1 KK2 hs1 hs2 hs3 hs4 HU3 HZL HR1 HZ1 HB1 HB3 gd0 gn0 sw0 sw1 hm hn'
  rcases (by omega : q = 0 ∨ (0 < q ∧ q = L) ∨ (0 < q ∧ q < L)) with hq0 | ⟨hz, hq0⟩ | ⟨hq1, hq2⟩
  · have e := HEND.out (.inl hq0)
    clear HEND HMID HU5
    subst hq0
    go_quiet (fail)
    go_wp2
    go_ret
    exact ⟨by first | rfl | (simp; done) | (rw [e]; simp; done) | (simp [e]; done), bl_drewN7 HBW.out _⟩
  · have e := HEND.out (.inr hq0)
    have g0 : decide (0 < q) = true := by simp; omega
    have g1 : decide (q < L) = false := by simp; omega
    clear HEND HMID HU5 hq0
    go_quiet (fail)
    go_wp2
    go_ret
    exact ⟨by first | rfl | (simp; done) | (rw [e]; simp; done) | (simp [e]; done), bl_drewN7 HBW.out _⟩
  · obtain ⟨k, rfl⟩ : ∃ k, q = k + 1 := ⟨q - 1, by omega⟩
    have e := HMID.out (by omega) (by omega)
    rw [show k + 1 - 1 = k by omega] at e
    have hlt : L ≤ uc := by omega
    rcases HU5.out with rfl | ⟨A, off, rfl, hA, hcell⟩
    · simp at HZ5; omega
    have c0 := hcell k (by omega)
    have c1 := hcell (k + 1) (by omega)
    have g0 : (0 : Int) < (k : Int) + 1 := by omega
    have g0' : decide ((0 : Int) < (k : Int) + 1) = true := by rw [decide_eq_true_eq]; omega
    have g1 : (k : Int) + 1 < (L : Int) := by omega
    have g2 : IntKind.i64.wrap ((k : Int) + 1 - 1) = (k : Int) := by rw [IntWalk.i64_in _ (by omega)]; omega
    have g2' : IntKind.i64.wrap (k : Int) = (k : Int) := IntWalk.i64_in _ (by omega)
    have g1' : k + 1 < L := by omega
    have g3 : (0 : Int) ≤ (k : Int) := by omega
    have g4 : (k : Int) < (L : Int) := by omega
    have g5 : (0 : Int) ≤ (k : Int) + 1 := by omega
    have g6 : ((k : Int) + 1).toNat = k + 1 := by omega
    generalize zs.getD k 0 = y0 at e c0
    generalize zs.getD (k + 1) 0 = y1 at e c1
    clear HEND HMID HU5 hcell
    by_cases hy : y0 = y1
    · have hy1 : (y0 == y1) = true := by simpa using hy
      have hy2 : (y0 != y1) = false := by simp [hy]
      rw [hy2] at e
      go_quiet (fail)
      go_wp2
      go_ret
      exact ⟨by first | rfl | (simp; done) | (rw [e]; simp; done) | (simp [e]; done), bl_drewN7 HBW.out _⟩
    · have hy1 : (y0 == y1) = false := by simpa using hy
      have hy2 : (y0 != y1) = true := by simp [hy]
      rw [hy2] at e
      go_quiet (fail)
      go_wp2
      go_ret
      exact ⟨by first | rfl | (simp; done) | (rw [e]; simp; done) | (simp [e]; done), bl_drewN7 HBW.out _⟩
set_option maxRecDepth 100000 in
theorem fnSingMutations_lifted (os : Os) (started : os.Started) (H : Type) (enc : TypeId × Value → H) :
    ReturnsInHanded {} Try.checked os 6 .any (Rows.fnSingMutationsSpec.pre6 enc Try.prog Try.f6 Rows.fnSingMutationsRow.domain false) (Rows.fnSingMutationsSpec.post enc Try.prog Try.f6 false true false false) := by
  refine returnsInHanded_of_change (C := Try.checked) own started (by kernel_rfl) Try.func6
    (ChangeSpec.witness6 (enc := enc) (C := Try.checked) false ⟨#[], #[.slice none 0 0, .slice none 0 0], []⟩ 8 (by kernel_rfl) (by kernel_rfl) (by kernel_rfl) (by kernel_rfl)) ?_
  intro W base args ds gs before hval0 hW _ _
  have hval : ∀ (j : Nat) t v, Try.f6.params[j]? = some t → args[j]? = some v → Value.okWide Try.prog W .any base t v := hval0
  have hW' := hW
  obtain ⟨p, q, hA0, hV, rfl, _, _⟩ := hW
  have hA : DataW.TrodAll enc Try.prog W 0 (fun _ => true) true Try.f6.params.toList args.toList ds p := hA0
  rw [Try.params6] at hA hval
  obtain ⟨v0, vs0, d0, ds0, p0, q0, hargs, rfl, rfl, h0, r0⟩ := trodAll_cons hA
  obtain ⟨v1, vs1, d1, ds1, p1, q1, rfl, rfl, rfl, h1, r1⟩ := trodAll_cons r0
  obtain ⟨rfl, rfl, rfl⟩ := trodAll_nil r1
  obtain rfl : args = #[v0, v1] := by cases args; simp_all
  obtain ⟨rfl, rfl⟩ := trodVars_none hV
  obtain ⟨a0, n0, c0, rfl⟩ := okWide_slice Try.underlying22 (hval 0 22 v0 rfl rfl)
  have k0 := h0
  have lt0 : ∀ x ∈ p0, x.block < W.heap.size := by obtain ⟨m, hm⟩ := k0; exact DataW.trod_lt m _ _ _ hm
  have y0 := code_in h0
  obtain ⟨a1, n1, c1, rfl⟩ := okWide_slice Try.underlying22 (hval 1 22 v1 rfl rfl)
  have k1 := h1
  have lt1 : ∀ x ∈ p1, x.block < W.heap.size := by obtain ⟨m, hm⟩ := k1; exact DataW.trod_lt m _ _ _ hm
  have y1 := code_in h1
  clear hA0 hval0
  refine (fnSingMutations_walk a0 n0 c0 a1 n1 c1 W y0.1 y0.2.1 y0.2.2 y1.2.1 y1.2.2).mono fun e W' ⟨he, hb⟩ => ?_
  subst he
  exact ⟨_, rfl, _, _, _, [], _, [], hW', trodAll_cons_mk (shut_bool Try.underlying4 _) trodAll_mk0, trodAll_cons_mk (Below.trod laidOut (by kernel_rfl) (of_decide_eq_true (by kernel_rfl)) k0 hb lt0) (trodAll_cons_mk (Below.trod laidOut (by kernel_rfl) (of_decide_eq_true (by kernel_rfl)) k1 hb lt1) (trodAll_mk0)), rfl, hb.frame _, fun h => by cases h⟩

theorem fnSingMutations_holds : Rows.FnSingMutationsSaid :=
  OpenClaim.holds_of_wide 6 Try.f6 rfl rfl rfl rfl rfl rfl rfl ⟨rfl, rfl, rfl, rfl, rfl⟩ rfl rfl rfl rfl rfl (by kernel_rfl) Try.func6 (by kernel_rfl)
    (of_decide_eq_true (by kernel_rfl)) (by unfold Func.isWrapper; first | (rw [if_pos (by decide +kernel)]; kernel_rfl) | (rw [if_neg (by decide +kernel)]; exact ⟨rfl, rfl⟩))
    (fun os started H enc _ => fnSingMutations_lifted os started H enc)

end Go.Proofs.Ytjodcaeohkjlnaa
