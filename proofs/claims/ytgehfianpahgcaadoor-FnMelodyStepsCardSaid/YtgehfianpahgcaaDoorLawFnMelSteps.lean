/-
  The law FnMelodySteps: for every code, the steps of a melody sum up to those from its first tone to its last one, and so do the semitones.
-/
import Derived.Test.YtgehfianpahgcaaDoorLaid
import Derived.Test.YtgehfianpahgcaaDoorCode
import Derived.Test.YtgehfianpahgcaaDoorSmI
import Derived.Test.YtgehfianpahgcaaDoorMelS2
import Derived.Test.YtgehfianpahgcaaDoorMelSd
import Derived.Test.YtgehfianpahgcaaDoorTone
import Derived.Test.YtgehfianpahgcaaDoorHeights
namespace Go.Proofs.YtgehfianpahgcaaDoor
open Go.RowKit Go.ChangeShapes Go.WideShapes Go.ChangeAt
set_option maxRecDepth 100000
set_option linter.unusedVariables false

theorem bl_drewN2 {B : Nat} {a w : World} (h : Below B a w) (n : Nat) : Below B a (w.drewN n) := ⟨h.os, h.tape, h.output, h.size, h.block⟩
theorem vd_lim' {s : Int} {b : Bool} (h : vd s b = true) : 0 ≤ s ∧ s ≤ 20 := by
  simp [vd] at h; exact h.1
theorem stp_lim' (s : Int) (b : Bool) (t : Int) (c : Bool) : -100 ≤ stp s b t c ∧ stp s b t c ≤ 100 := by
  unfold stp; split
  · rename_i h; simp at h; have := vd_lim' h.1; have := vd_lim' h.2; omega
  · omega
theorem sem_lim' (s : Int) (b : Bool) (t : Int) (c : Bool) : -100 ≤ sem s b t c ∧ sem s b t c ≤ 100 := by
  unfold sem; split
  · rename_i h; simp at h
    have h1 := vd_lim' h.1
    have h2 := vd_lim' h.2
    have := hgt_bd (b := b) h1.1 h1.2
    have := hgt_bd (b := c) h2.1 h2.2
    omega
  · omega
theorem difs_at' (d : Int → Bool → Int → Bool → Int) (xs : List (Int × Bool)) {k n : Nat} (h : k < n) : (difs d xs n).getD k 0 = d (xs.getD k (0, false)).1 (xs.getD k (0, false)).2 (xs.getD (k + 1) (0, false)).1 (xs.getD (k + 1) (0, false)).2 := by
  simp [difs, List.getD_eq_getElem?_getD, h]
/-- what a difference sums up to -/
theorem sum_tele {d : Int → Bool → Int → Bool → Int} {f : Int → Bool → Int} {xs : List (Int × Bool)} {n : Nat} (hd : ∀ k, k < n → d (xs.getD k (0, false)).1 (xs.getD k (0, false)).2 (xs.getD (k + 1) (0, false)).1 (xs.getD (k + 1) (0, false)).2 = f (xs.getD (k + 1) (0, false)).1 (xs.getD (k + 1) (0, false)).2 - f (xs.getD k (0, false)).1 (xs.getD k (0, false)).2)
    {k : Nat} (hk : k ≤ n) : sumT (difs d xs n) k = f (xs.getD k (0, false)).1 (xs.getD k (0, false)).2 - f (xs.getD 0 (0, false)).1 (xs.getD 0 (0, false)).2 := by
  induction k with
  | zero => simp [sumT]
  | succ j ih =>
    simp only [sumT]
    rw [ih (by omega), difs_at' d xs (by omega), hd j (by omega)]
    omega
theorem at_yes {xs : List (Int × Bool)} (h : mv xs = true) {k : Nat} (hk : k < xs.length) : vd (xs.getD k (0, false)).1 (xs.getD k (0, false)).2 = true := by
  have hx : xs[k]? = some xs[k] := List.getElem?_eq_getElem hk
  rw [List.getD_eq_getElem?_getD, hx]
  simp [mv] at h
  exact allv_at h.2 hx
theorem steps_facts {xs : List (Int × Bool)} (h : mv xs = true) {n : Nat} (hn : xs.length = n + 1) : (stepsOf xs).length = n ∧ (semisOf xs).length = n ∧
    sumT (stepsOf xs) n = stp (xs.getD 0 (0, false)).1 (xs.getD 0 (0, false)).2 (xs.getD n (0, false)).1 (xs.getD n (0, false)).2 ∧
    sumT (semisOf xs) n = sem (xs.getD 0 (0, false)).1 (xs.getD 0 (0, false)).2 (xs.getD n (0, false)).1 (xs.getD n (0, false)).2 ∧
    both (xs.getD 0 (0, false)).1 (xs.getD 0 (0, false)).2 (xs.getD n (0, false)).1 (xs.getD n (0, false)).2 = true ∧
    (∀ i, i < n → -100 ≤ (stepsOf xs).getD i 0 ∧ (stepsOf xs).getD i 0 ≤ 100) ∧ (∀ i, i < n → -100 ≤ (semisOf xs).getD i 0 ∧ (semisOf xs).getD i 0 ≤ 100) := by
  unfold stepsOf semisOf
  rw [mvl_yes h, hn, Nat.add_sub_cancel]
  have h0 := at_yes h (k := 0) (by omega)
  have h1 := at_yes h (k := n) (by omega)
  refine ⟨difs_len _ _ _, difs_len _ _ _, ?_, ?_, both_yes h0 h1, fun i hi => ?_, fun i hi => ?_⟩
  · rw [stp_yes h0 h1, sum_tele (f := fun s _ => s) (fun k hk => stp_yes (at_yes h (by omega)) (at_yes h (by omega))) (Nat.le_refl _)]
  · rw [sem_yes h0 h1, sum_tele (f := fun s b => hgt s b) (fun k hk => sem_yes (at_yes h (by omega)) (at_yes h (by omega))) (Nat.le_refl _)]
  · rw [difs_at' _ _ hi]; exact stp_lim' _ _ _ _
  · rw [difs_at' _ _ hi]; exact sem_lim' _ _ _ _
theorem steps_some {xs : List (Int × Bool)} (h : (stepsOf xs).length ≠ 0) : mv xs = true := by
  cases hm : mv xs
  · exfalso; apply h; unfold stepsOf mvl; rw [difs_len, hm]; rfl
  · rfl
theorem steps_len {xs : List (Int × Bool)} (h : mv xs = true) : (stepsOf xs).length = xs.length - 1 := by
  unfold stepsOf; rw [mvl_yes h, difs_len]

set_option maxHeartbeats 4000000 in
theorem fnMelodySteps_walk (a : Option Addr) (n cap : Nat) (w : World) (h : CodeAt w a n) (hc : n ≤ cap) (hcap : cap ≤ maxLen) (ht : StepTab w) :
    Calls Tryd.prog 12 #[.slice a n cap] w fun e w' => e = .returned (.bool true) ∧ Below w.heap.size w w' := by
  have HT := Lib.hid ht
  clear ht
  by_cases hn : 1048576 < n
  · have g : (1048576 : Int) < (n : Int) := by omega
    go_enter Tryd.func12, Tryd.ntmps12
    go_wp2
    go_ret
    exact ⟨rfl, Below.refl _ _⟩
  have g : decide ((1048576 : Int) < (n : Int)) = false := by simp; omega
  go_enter Tryd.func12, Tryd.ntmps12
  go_wp2_with (fail)
  (go_at_call 43; refine (drawMelodySteps_any a n cap _ h hc hcap).mono ?_; rintro e w1 ⟨v, xs, rfl, hr1, hx9, hb1⟩)
  clear h hc hcap g hn
  go_wp2_with (fail)
  (go_at_call 44; refine (melodySteps_any _ _ v xs _ hr1).mono ?_; rintro e w2 ⟨vA, rfl, hA2, hb2⟩)
  go_wp2_with (fail)
  (go_at_call 45; refine (sMelodySteps_any _ _ v xs _ (hr1.below hb2 (.inl (Nat.le_refl _)))).mono ?_; rintro e w3 ⟨vW, rfl, hW3, hb3⟩)
  have hA3 := hA2.below hb3 (.inl (Nat.le_refl _))
  have c3 := bl_step hb2 hb3
  have hs9 : (stepsOf xs).length ≤ 1000000 := by have := mvl_len xs; unfold stepsOf; rw [difs_len]; omega
  clear hA2
  by_cases hz : (stepsOf xs).length = 0
  · have KE := Lib.hid (fun (W : World) (hW : Below w3.heap.size w3 W) => sameInts_yes _ _ _ _ vA vW _ hs9 W (hA3.below hW (.inr (Nat.le_refl _))) (hW3.below hW (.inl (Nat.le_refl _))))
    obtain ⟨aA, cA, rfl, _⟩ := hA3.flat' hz
    clear hA3 hW3 hr1
    go_wp2_with (fail)
    (go_at_call 33; refine (KE.out _ (Below.refl _ _)).mono ?_; rintro e w4 ⟨rfl, hb4⟩)
    go_wp2_with (fail)
    (go_at_call 33; refine (KE.out _ hb4).mono ?_; rintro e w5 ⟨rfl, hb5⟩)
    go_wp2
    go_ret
    exact ⟨rfl, bl_step (bl_step (bl_step hb1 c3) hb4) hb5⟩
  have hm := steps_some hz
  have hsl := steps_len hm
  obtain ⟨n, hn⟩ : ∃ n, xs.length = n + 1 := ⟨xs.length - 1, by omega⟩
  obtain ⟨nA, nC, sA, sC, hbo, zA, zC⟩ := steps_facts hm hn
  rcases hr1.form with ⟨_, hx0⟩ | ⟨gm, cm, rfl, _, _, hgs, _, _, hc⟩
  · rw [hx0] at hn; simp at hn
  obtain ⟨e0, e1⟩ := hc 0 (xs.getD 0 (0, false)) (by simp [List.getD_eq_getElem?_getD, List.getElem?_eq_getElem (by omega : 0 < xs.length)])
  obtain ⟨e2, e3⟩ := hc n (xs.getD n (0, false)) (by simp [List.getD_eq_getElem?_getD, List.getElem?_eq_getElem (by omega : n < xs.length)])
  rw [Nat.zero_mul] at e0 e1
  have KE := Lib.hid (sameInts_yes _ _ _ _ vA vW _ hs9 w3 hA3 hW3)
  have hn9 : n ≤ 1000 := by omega
  have hn1 : 0 < n := by omega
  have KA : Hid (∀ W, Below w3.heap.size w3 W → Calls Tryd.prog 48 #[vA] W fun e w' => e = .returned (.int .i64 (sumT (stepsOf xs) n)) ∧ Below W.heap.size W w') := fun W hW => sumOf_any _ _ n vA _ nA hn9 zA W (hA3.below hW (.inr (Nat.le_refl _)))
  have KC := Lib.hid (fun lo hi u W h => sumOf_any lo hi n u (semisOf xs) nC hn9 zC W h)
  have KM := Lib.hid (fun W (hW : Below w1.heap.size w1 W) hT => melodySemis_any _ _ _ xs W (hr1.below hW (.inl (Nat.le_refl _))) hT)
  obtain ⟨aA, cA, rfl, _⟩ := hA3.flat' nA
  have KS := Lib.hid (fun W => toneSteps_any (xs.getD 0 (0, false)).1 (xs.getD n (0, false)).1 (xs.getD 0 (0, false)).2 (xs.getD n (0, false)).2 W)
  have KT := Lib.hid (fun W h => toneSemis_any (xs.getD 0 (0, false)).1 (xs.getD n (0, false)).1 (xs.getD 0 (0, false)).2 (xs.getD n (0, false)).2 W h)
  rw [hbo] at KS KT
  rw [sA] at KA
  rw [sC] at KC
  have NC := Lib.hid nC
  have hj0 : ((xs.length : Nat) : Int) - 1 = (n : Int) := by omega
  have hl1 : (0 : Int) < (xs.length : Int) := by omega
  have hl2 : (n : Int) < (xs.length : Int) := by omega
  have hl0 : (0 : Int) ≤ (n : Int) := by omega
  have hl4 : ((n : Int)).toNat = n := by omega
  have m0 : IntKind.i64.wrap (n : Int) = (n : Int) := IntWalk.i64_in _ (by omega)
  have hl3 : ((n : Int) == 0) = false := by simp; omega
  have m1 : IntKind.i64.wrap ((xs.length : Int) - 1) = (n : Int) := by rw [hj0]; exact IntWalk.i64_in _ (by omega)
  clear hc hr1 hA3 hW3 nA nC sA sC zA zC hbo hsl hz hs9 hm hn
  generalize stp (xs.getD 0 (0, false)).1 (xs.getD 0 (0, false)).2 (xs.getD n (0, false)).1 (xs.getD n (0, false)).2 = S at KS KA
  generalize sem (xs.getD 0 (0, false)).1 (xs.getD 0 (0, false)).2 (xs.getD n (0, false)).1 (xs.getD n (0, false)).2 = D at KT KC
  generalize xs.getD 0 (0, false) = t0 at KS KT e0 e1
  generalize xs.getD n (0, false) = tn at KS KT e2 e3
  obtain ⟨s0, b0⟩ := t0
  obtain ⟨s1, b1⟩ := tn
  generalize xs.length = L at *
  have z0 := Lib.hid e0
  have z1 := Lib.hid e1
  have z2 := Lib.hid e2
  have z3 := Lib.hid e3
  go_wp2_with (fail)
  (go_at_call 33; refine KE.out.mono ?_; rintro e w4 ⟨rfl, hb4⟩)
  have c4 := bl_step c3 hb4
  have f0 := (c4.cell (p := ⟨gm, 0, none⟩) hgs).trans e0
  have f1 := (c4.cell (p := ⟨gm, 0 + 1, none⟩) hgs).trans e1
  have f2 := (c4.cell (p := ⟨gm, n * 2, none⟩) hgs).trans e2
  have f3 := (c4.cell (p := ⟨gm, n * 2 + 1, none⟩) hgs).trans e3
  clear e0 e1 e2 e3
  go_wp2
  go_region_with (go_at_call 46; refine (KS.out _).mono ?_; rintro e w5 ⟨rfl, hb5⟩)
  all_goals
    have d5 : Below w3.heap.size w3 w5 := by first | exact bl_step hb4 hb5 | exact bl_step (bl_drewN2 hb4 _) hb5
    have c5 := bl_step c3 d5
    have k0 := (c5.cell (p := ⟨gm, 0, none⟩) hgs).trans (z0.out)
    have k1 := (c5.cell (p := ⟨gm, 0 + 1, none⟩) hgs).trans (z1.out)
    have k2 := (c5.cell (p := ⟨gm, n * 2, none⟩) hgs).trans (z2.out)
    have k3 := (c5.cell (p := ⟨gm, n * 2 + 1, none⟩) hgs).trans (z3.out)
    have HT5 := Lib.hid (HT.out.below (bl_step hb1 c5))
    clear f0 f1 f2 f3
    go_wp2
    go_region_with (go_at_call 29; refine (KT.out _ (by first | exact HT5.out | exact HT5.out.below (bl_drewN2 (Below.refl _ _) _))).mono ?_; rintro e w6 ⟨rfl, hb6⟩)
    all_goals
      have d6 : Below w3.heap.size w3 w6 := by first | exact bl_step d5 hb6 | exact bl_step (bl_drewN2 d5 _) hb6
      have c6 := bl_step c3 d6
      clear k0 k1 k2 k3
      go_wp2_with (fail)
      (go_at_call 47; refine (KM.out _ c6 (HT.out.below (bl_step hb1 c6))).mono ?_; rintro e w7 ⟨vC, rfl, hC, hb7⟩)
      have KC7 := Lib.hid (fun W (hW : Below w7.heap.size w7 W) => KC.out _ _ vC W (hC.below hW (.inl (Nat.le_refl _))))
      obtain ⟨aC, cC, rfl, _⟩ := hC.flat' NC.out
      have d7 := bl_step d6 hb7
      clear hC
      go_wp2_with (fail)
      (go_at_call 48; refine (KA.out _ d7).mono ?_; rintro e w8 ⟨rfl, hb8⟩)
      go_wp2_with (fail)
      (go_at_call 48; refine (KC7.out _ hb8).mono ?_; rintro e w9 ⟨rfl, hb9⟩)
      go_wp2
      go_ret
      exact ⟨by first | rfl | simp, bl_step (bl_step (bl_step hb1 (bl_step c3 d7)) hb8) hb9⟩

noncomputable def fnMelodySteps_world (os : Os) : World := { World.holding Tryd.prog os ⟨#[], #[], []⟩ with heap := ((World.holding Tryd.prog os ⟨#[], #[], []⟩).heap.modify 2 fun | .cells _ t frozen => .cells #[.int .i64 0, .int .i64 2, .int .i64 4, .int .i64 5, .int .i64 7, .int .i64 9, .int .i64 10] t frozen | o => o) }
theorem fnMelodySteps_met (os : Os) : laidMet Tryd.prog Rows.fnMelodyStepsRow.laid ((fnMelodySteps_world os).forCall (fun _ _ => 0) ⟨#[], #[.slice none 0 0], []⟩).memory :=
  laidMet_of_run' 8 (by kernel_rfl) (by kernel_rfl)
theorem fnMelodySteps_reads (os : Os) {H : Type} (enc : TypeId × Value → H) : ∃ places, DataW.whole enc Tryd.prog ((fnMelodySteps_world os).forCall (fun _ _ => 0) ⟨#[], #[.slice none 0 0], []⟩).memory Tryd.f12.params.toList Rows.fnMelodyStepsSpec.vars false (#[.slice none 0 0] : Array Value).toList 8 = some ([.nil], [Rows.laid_loop_example_neumes_impl_stepHeights], places) :=
  ⟨((DataW.whole enc Tryd.prog ((fnMelodySteps_world os).forCall (fun _ _ => 0) ⟨#[], #[.slice none 0 0], []⟩).memory Tryd.f12.params.toList Rows.fnMelodyStepsSpec.vars false (#[.slice none 0 0] : Array Value).toList 8).getD ([], [], [])).2.2, by kernel_rfl⟩
set_option maxRecDepth 100000 in
theorem fnMelodySteps_lifted (os : Os) (started : os.Started) (H : Type) (enc : TypeId × Value → H) (F : Stop.Interp) :
    ReturnsInHanded {} Tryd.checked os 12 .any ((OpenSpec.ofChange Rows.fnMelodyStepsSpec).preRow enc Tryd.prog Tryd.f12 Rows.fnMelodyStepsRow.domain false Rows.fnMelodyStepsRow.laid) (((OpenSpec.ofChange Rows.fnMelodyStepsSpec).at F).post enc Tryd.prog Tryd.f12 false true false false) := by
  obtain ⟨places, hx⟩ := fnMelodySteps_reads os enc
  refine returnsInHanded_of_row (C := Tryd.checked) (s := OpenSpec.ofChange Rows.fnMelodyStepsSpec) own started (by kernel_rfl) Tryd.func12
    (witness_row_at (enc := enc) (C := Tryd.checked) false (fnMelodySteps_world os) #[.slice none 0 0] rfl (by kernel_rfl) (by kernel_rfl) (by kernel_rfl)
      (OpenSpec.preRow_of_cond 8 hx (by kernel_rfl) (fun k hk => by cases hk) (by kernel_rfl) (fnMelodySteps_met os))) ?_
  intro W base args ds gs before hval0 hW _ _ _ hL _ _
  have hval : ∀ (j : Nat) t v, Tryd.f12.params[j]? = some t → args[j]? = some v → Value.okWide Tryd.prog W .any base t v := hval0
  have hW' := hW
  obtain ⟨p, q, hA0, hV, rfl, _, _⟩ := hW
  have hA : DataW.TrodAll enc Tryd.prog W 0 (fun _ => true) true Tryd.f12.params.toList args.toList ds p := hA0
  rw [Tryd.params12] at hA hval
  obtain ⟨v0, vs0, d0, ds0, p0, q0, hargs, rfl, rfl, h0, r0⟩ := trodAll_cons hA
  obtain ⟨rfl, rfl, rfl⟩ := trodAll_nil r0
  obtain rfl : args = #[v0] := by cases args; simp_all
  obtain ⟨g0, rfl⟩ := vars1 hV
  obtain ⟨a0, n0, c0, rfl⟩ := okWide_slice Tryd.underlying22 (hval 0 22 v0 rfl rfl)
  have k0 := h0
  have lt0 : ∀ x ∈ p0, x.block < W.heap.size := by obtain ⟨m, hm⟩ := k0; exact DataW.trod_lt m _ _ _ hm
  have y0 := code_in h0
  clear hA0 hval0
  refine (fnMelodySteps_walk a0 n0 c0 W y0.1 y0.2.1 y0.2.2 (stepTab hL)).mono fun e W' ⟨he, hb⟩ => ?_
  subst he
  exact ⟨_, rfl, _, _, _, [], _, _, hW', trodAll_cons_mk (shut_bool Tryd.underlying4 _) trodAll_mk0, trodAll_cons_mk (Below.trod laidOut (by kernel_rfl) (of_decide_eq_true (by kernel_rfl)) k0 hb lt0) (trodAll_mk0), hb.trodVars laidOut (by kernel_rfl) hV, hb.frame _, fun h => by cases h⟩

theorem fnMelodySteps_holds : Rows.FnMelodyStepsSaid :=
  OpenClaim.holds_of_cond 12 Tryd.f12 rfl rfl rfl rfl rfl rfl rfl ⟨rfl, rfl, rfl, rfl, rfl⟩ rfl rfl rfl rfl rfl (by kernel_rfl) Tryd.func12 (by kernel_rfl)
    (of_decide_eq_true (by kernel_rfl)) (by unfold Func.isWrapper; first | (rw [if_pos (by decide +kernel)]; kernel_rfl) | (rw [if_neg (by decide +kernel)]; exact ⟨rfl, rfl⟩))
    (fun os started H enc _ F => by rw [OpenClaim.pre_eq_preRow]; exact fnMelodySteps_lifted os started H enc F)
theorem fnMelodySteps_plain (f : FuncId) (fn : Func) (hf : Tryd.pinned.checked.prog.funcNamed "loop.example/neumes/laws.FnMelodySteps" = some f) (hfn : Tryd.pinned.checked.prog.funcs[f]? = some fn) :
    false = Tryd.pinned.checked.prog.looks [] ∧ ∀ (j : Nat) t, fn.params[j]? = some t → Tryd.pinned.checked.prog.wantsStandIn t = false := by
  obtain rfl : f = 12 := Option.some.inj ((show Tryd.prog.funcNamed "loop.example/neumes/laws.FnMelodySteps" = some 12 by kernel_rfl).symm.trans hf) |>.symm
  obtain rfl : fn = Tryd.f12 := (Option.some.inj (Tryd.func12.symm.trans hfn)).symm
  refine ⟨by kernel_rfl, fun j t ht => ?_⟩
  rw [Tryd.params12] at ht
  have hm := Array.mem_of_getElem? ht
  simp only [List.mem_toArray, List.mem_cons, List.not_mem_nil, or_false] at hm
  subst hm
  exact (show Tryd.prog.wantsStandIn _ = false by kernel_rfl)
/-- the card -/
theorem fnMelodySteps_card : Rows.FnMelodyStepsCardSaid :=
  Claim7.holds_tied_plain_at .later [] _ _ _ _ fnMelodySteps_holds (fun _ h => by cases h) (by kernel_rfl) (fun _ h => by cases h) fnMelodySteps_row_tie rfl ⟨rfl, rfl⟩ (by kernel_rfl) rfl fnMelodySteps_plain (by kernel_rfl)

end Go.Proofs.YtgehfianpahgcaaDoor
