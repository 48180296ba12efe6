/-
  The law FnMelodyBack: for every code, what is turned twice is the melody, and its steps and semitones are turned and of the other sign.
-/
import Derived.Test.YtgehfianpahgcaaDoorLaid
import Derived.Test.YtgehfianpahgcaaDoorCode
import Derived.Test.YtgehfianpahgcaaDoorSmT
import Derived.Test.YtgehfianpahgcaaDoorMelB
import Derived.Test.YtgehfianpahgcaaDoorMelS
import Derived.Test.YtgehfianpahgcaaDoorMelSd
namespace Go.Proofs.YtgehfianpahgcaaDoor
open Go.RowKit Go.ChangeShapes Go.WideShapes Go.ChangeAt
set_option maxRecDepth 100000
set_option linter.unusedVariables false

theorem IRow.flat {w : World} {lo hi n : Nat} {v : Value} {xs : List Int} (h : IRow w lo hi v xs) (hn : xs.length = n) : ∃ a cap, v = .slice a n cap ∧ (0 < n → ∃ g, a = some ⟨g, 0, none⟩ ∧ g < w.heap.size ∧ ∀ i, i < n → w.cell? ⟨g, i, none⟩ = some (.int .i64 (xs.getD i 0))) := by
  rcases h.form with ⟨rfl, rfl⟩ | ⟨g, cap, cur, rfl, _, _, hg, _, _, _, _, _, hc, _⟩
  · subst hn; exact ⟨none, 0, rfl, fun h => by simp at h⟩
  · subst hn; exact ⟨_, cap, rfl, fun _ => ⟨g, rfl, hg, hc⟩⟩
theorem mv_rev {xs : List (Int × Bool)} (h : mv xs = true) : mv xs.reverse = true := by
  simp [mv, allv] at h ⊢; exact h
theorem difs_at (d : Int → Bool → Int → Bool → Int) (xs : List (Int × Bool)) {k n : Nat} (h : k < n) : (difs d xs n).getD k 0 = d (xs.getD k (0, false)).1 (xs.getD k (0, false)).2 (xs.getD (k + 1) (0, false)).1 (xs.getD (k + 1) (0, false)).2 := by
  simp [difs, List.getD_eq_getElem?_getD, h]
theorem rev_at {xs : List (Int × Bool)} {i j : Nat} (h : i + 1 + j = xs.length) : xs.reverse.getD i (0, false) = xs.getD j (0, false) := by
  rw [List.getD_eq_getElem?_getD, List.getD_eq_getElem?_getD, List.getElem?_reverse (by omega)]
  congr 2; omega
theorem difs_rev (d : Int → Bool → Int → Bool → Int) (hd : ∀ s b t c, d s b t c = - d t c s b) {xs : List (Int × Bool)} {k j n : Nat} (hn : n = xs.length - 1) (h : k + 1 + j = n) : (difs d xs.reverse n).getD k 0 = - (difs d xs n).getD j 0 := by
  rw [difs_at d _ (by omega), difs_at d _ (by omega), rev_at (j := j + 1) (by omega), rev_at (i := k + 1) (j := j) (by omega)]
  exact hd _ _ _ _
theorem stp_anti (s : Int) (b : Bool) (t : Int) (c : Bool) : stp s b t c = - stp t c s b := by
  unfold stp
  cases vd s b <;> cases vd t c <;> simp
  omega
theorem sem_anti (s : Int) (b : Bool) (t : Int) (c : Bool) : sem s b t c = - sem t c s b := by
  unfold sem
  cases vd s b <;> cases vd t c <;> simp
  omega
theorem vd_lim {s : Int} {b : Bool} (h : vd s b = true) : 0 ≤ s ∧ s ≤ 20 := by
  simp [vd] at h; exact h.1
theorem stp_lim (s : Int) (b : Bool) (t : Int) (c : Bool) : -100 ≤ stp s b t c ∧ stp s b t c ≤ 100 := by
  unfold stp; split
  · rename_i h; simp at h; have := vd_lim h.1; have := vd_lim h.2; omega
  · omega
theorem sem_lim (s : Int) (b : Bool) (t : Int) (c : Bool) : -100 ≤ sem s b t c ∧ sem s b t c ≤ 100 := by
  unfold sem; split
  · rename_i h; simp at h
    have h1 := vd_lim h.1
    have h2 := vd_lim h.2
    have := hgt_bd (b := b) h1.1 h1.2
    have := hgt_bd (b := c) h2.1 h2.2
    omega
  · omega
theorem back_facts {xs : List (Int × Bool)} (h : mv xs = true) {n : Nat} (hn : n = xs.length - 1) : (stepsOf xs).length = n ∧ (stepsOf xs.reverse).length = n ∧ (semisOf xs).length = n ∧ (semisOf xs.reverse).length = n ∧
    ∀ k j, k + 1 + j = n → (-100 ≤ (stepsOf xs).getD j 0 ∧ (stepsOf xs).getD j 0 ≤ 100 ∧ (stepsOf xs.reverse).getD k 0 = - (stepsOf xs).getD j 0) ∧ (-100 ≤ (semisOf xs).getD j 0 ∧ (semisOf xs).getD j 0 ≤ 100 ∧ (semisOf xs.reverse).getD k 0 = - (semisOf xs).getD j 0) := by
  unfold stepsOf semisOf
  rw [mvl_yes h, mvl_yes (mv_rev h), List.length_reverse, ← hn]
  refine ⟨difs_len _ _ _, difs_len _ _ _, difs_len _ _ _, difs_len _ _ _, fun k j hk => ⟨?_, ?_⟩⟩
  · rw [difs_rev stp stp_anti hn hk, difs_at stp _ (by omega)]
    exact ⟨(stp_lim _ _ _ _).1, (stp_lim _ _ _ _).2, rfl⟩
  · rw [difs_rev sem sem_anti hn hk, difs_at sem _ (by omega)]
    exact ⟨(sem_lim _ _ _ _).1, (sem_lim _ _ _ _).2, rfl⟩

set_option maxHeartbeats 4000000 in
theorem fnMelodyBack_walk (a : Option Addr) (n cap : Nat) (w : World) (h : CodeAt w a n) (hc : n ≤ cap) (hcap : cap ≤ maxLen) (ht : StepTab w) :
    Calls Tryd.prog 13 #[.slice a n cap] w fun e w' => e = .returned (.bool true) ∧ Below w.heap.size w w' := by
  have HT := Lib.hid ht
  clear ht
  by_cases hn : 1048576 < n
  · have g : (1048576 : Int) < (n : Int) := by omega
    go_enter Tryd.func13, Tryd.ntmps13
    go_wp2
    go_ret
    exact ⟨rfl, Below.refl _ _⟩
  have g : decide ((1048576 : Int) < (n : Int)) = false := by simp; omega
  go_enter Tryd.func13, Tryd.ntmps13
  go_wp2_with (fail)
  (go_at_call 49; refine (drawMelodyBack_any a n cap _ h hc hcap).mono ?_; rintro e w1 ⟨v, xs, rfl, hr1, hx9, hb1⟩)
  clear h hc hcap g hn
  go_wp2_with (fail)
  (go_at_call 50; refine (melodyBack_any _ _ v xs _ hr1).mono ?_; rintro e w2 ⟨u, rfl, hr2, hb2⟩)
  go_wp2_with (fail)
  (go_at_call 51; refine (sMelodyBack_any _ _ v xs _ (hr1.below hb2 (.inl (Nat.le_refl _)))).mono ?_; rintro e w3 ⟨u3, rfl, hr3, hb3⟩)
  have c3 := bl_step hb2 hb3
  have bw3 := bl_step hb1 c3
  by_cases hm : mv xs = false
  · rw [hm]
    go_wp2_with (fail)
    (go_at_call 52; refine (sameTones_yes _ _ _ _ u u3 _ _ (hr2.below hb3 (.inl (Nat.le_refl _))) hr3).mono ?_; rintro e w4 ⟨rfl, hb4⟩)
    go_wp2_with (fail)
    (go_at_call 52; refine (sameTones_yes _ _ _ _ u u3 _ _ (hr2.below (bl_step hb3 hb4) (.inl (Nat.le_refl _))) (hr3.below hb4 (.inl (Nat.le_refl _)))).mono ?_; rintro e w5 ⟨rfl, hb5⟩)
    go_wp2
    go_ret
    exact ⟨rfl, bl_step (bl_step bw3 hb4) hb5⟩
  rw [Bool.not_eq_false] at hm
  have hm2 := mv_rev hm
  rw [mvl_yes hm] at hr2 hr3
  rw [hm]
  have KB := Lib.hid (fun lo hi v W h => melodyBack_any lo hi v xs.reverse W h)
  rw [mvl_yes hm2, hm2, List.reverse_reverse] at KB
  obtain ⟨n, hn⟩ : ∃ n, n = xs.length - 1 := ⟨_, rfl⟩
  have hn9 : n ≤ 1000 := by omega
  obtain ⟨nA, nB, nC, nD, hF⟩ := back_facts hm hn
  have HF := Lib.hid hF
  have NA := Lib.hid nA
  have NB := Lib.hid nB
  have NC := Lib.hid nC
  have ND := Lib.hid nD
  clear hm hm2 hF nA nB nC nD hn hx9
  go_wp2_with (fail)
  (go_at_call 52; refine (sameTones_yes _ _ _ _ u u3 _ _ (hr2.below hb3 (.inl (Nat.le_refl _))) hr3).mono ?_; rintro e w4 ⟨rfl, hb4⟩)
  have c4 := bl_step c3 hb4
  have d4 := bl_step hb3 hb4
  clear hr3
  go_wp2_with (fail)
  (go_at_call 50; refine (KB.out _ _ u _ (hr2.below d4 (.inl (Nat.le_refl _)))).mono ?_; rintro e w5 ⟨x, rfl, hx5, hb5⟩)
  have c5 := bl_step c4 hb5
  have d5 := bl_step d4 hb5
  go_wp2_with (fail)
  (go_at_call 44; refine (melodySteps_any _ _ v xs _ (hr1.below c5 (.inl (Nat.le_refl _)))).mono ?_; rintro e w6 ⟨vA, rfl, hA, hb6⟩)
  obtain ⟨aA, cA, rfl, fA⟩ := hA.flat NA.out
  clear hA
  have c6 := bl_step c5 hb6
  have d6 := bl_step d5 hb6
  go_wp2_with (fail)
  (go_at_call 44; refine (melodySteps_any _ _ u xs.reverse _ (hr2.below d6 (.inl (Nat.le_refl _)))).mono ?_; rintro e w7 ⟨vB, rfl, hB, hb7⟩)
  obtain ⟨aB, cB, rfl, fB⟩ := hB.flat NB.out
  clear hB
  have c7 := bl_step c6 hb7
  have d7 := bl_step d6 hb7
  go_wp2_with (fail)
  (go_at_call 47; refine (melodySemis_any _ _ v xs _ (hr1.below c7 (.inl (Nat.le_refl _))) (HT.out.below (bl_step hb1 c7))).mono ?_; rintro e w8 ⟨vC, rfl, hC, hb8⟩)
  obtain ⟨aC, cC, rfl, fC⟩ := hC.flat NC.out
  clear hC
  have c8 := bl_step c7 hb8
  have d8 := bl_step d7 hb8
  go_wp2_with (fail)
  (go_at_call 47; refine (melodySemis_any _ _ u xs.reverse _ (hr2.below d8 (.inl (Nat.le_refl _))) (HT.out.below (bl_step hb1 c8))).mono ?_; rintro e w9 ⟨vD, rfl, hD, hb9⟩)
  obtain ⟨aD, cD, rfl, fD⟩ := hD.flat ND.out
  clear hD
  have c9 := bl_step c8 hb9
  have b8 := hb9
  have b7 := bl_step hb8 hb9
  have b6 := bl_step (bl_step hb7 hb8) hb9
  have b5 := bl_step (bl_step (bl_step hb6 hb7) hb8) hb9
  have HM := Lib.hid (fun (W : World) (hW : Below w9.heap.size w9 W) => sameTones_yes _ _ _ _ x v xs W (hx5.below (bl_step b5 hW) (.inl (Nat.le_refl _))) (hr1.below (bl_step c9 hW) (.inl (Nat.le_refl _))))
  have FA := Lib.hid fA
  have FB := Lib.hid fB
  have FC := Lib.hid fC
  have FD := Lib.hid fD
  have bw9 := bl_step hb1 c9
  clear hx5 hr1 hr2 fA fB fC fD c3 c4 c5 c6 c7 c8 d4 d5 d6 d7 d8 b5 bw3 KB NA NB NC ND
  go_wp2
  go_loopw [15] (fun i wr => ∃ k : Nat, k ≤ n ∧ i = .int .i64 k ∧ Below w9.heap.size w9 wr) (fun i _ => n - (intOf i).toNat)
  case atStart => exact ⟨0, Nat.zero_le _, rfl, by first | exact Below.refl _ _ | exact ⟨rfl, rfl, rfl, Nat.le_refl _, fun _ _ _ => rfl⟩⟩
  case round =>
    obtain ⟨k, hk, rfl, hb⟩ := hrel
    by_cases hlt : k < n
    · obtain ⟨gA, rfl, sA, eA⟩ := FA.out (by omega)
      obtain ⟨gB, rfl, sB, eB⟩ := FB.out (by omega)
      obtain ⟨gC, rfl, sC, eC⟩ := FC.out (by omega)
      obtain ⟨gD, rfl, sD, eD⟩ := FD.out (by omega)
      obtain ⟨j, hj⟩ : ∃ j, k + 1 + j = n := ⟨n - 1 - k, by omega⟩
      obtain ⟨⟨p1, p2, p3⟩, q1, q2, q3⟩ := HF.out k j hj
      have e1 := ((bl_step b6 hb).cell (p := ⟨gA, j, none⟩) sA).trans (eA j (by omega))
      have e2 := ((bl_step b7 hb).cell (p := ⟨gB, k, none⟩) sB).trans (eB k (by omega))
      have e3 := ((bl_step b8 hb).cell (p := ⟨gC, j, none⟩) sC).trans (eC j (by omega))
      have e4 := (hb.cell (p := ⟨gD, k, none⟩) sD).trans (eD k (by omega))
      clear eA eB eC eD
      rw [p3] at e2
      rw [q3] at e4
      clear p3 q3
      generalize (stepsOf xs).getD j 0 = za at e1 e2 p1 p2
      generalize (semisOf xs).getD j 0 = zc at e3 e4 q1 q2
      have hj0 : (n : Int) - 1 - (k : Int) = (j : Int) := by omega
      have hk0 : (0 : Int) ≤ (k : Int) := by omega
      have hk1 : (k : Int) < (n : Int) := by omega
      have hj1 : (0 : Int) ≤ (j : Int) := by omega
      have hj2 : (j : Int) < (n : Int) := by omega
      have m1 : IntKind.i64.wrap ((n : Int) - 1) = (n : Int) - 1 := IntWalk.i64_in _ (by omega)
      have m2 : IntKind.i64.wrap ((n : Int) - 1 - (k : Int)) = (j : Int) := by rw [hj0]; exact IntWalk.i64_in _ (by omega)
      have m3 : IntKind.i64.wrap (-za) = -za := IntWalk.i64_in _ (by omega)
      have m4 : IntKind.i64.wrap (-zc) = -zc := IntWalk.i64_in _ (by omega)
      clear hj
      go_wp2
      go_quiet (fail)
      all_goals
        go_wp2
        go_roundw
        case rel => exact ⟨k + 1, by omega, by go_num, by first | exact hb | exact hb.drew | exact ⟨hb.os, hb.tape, hb.output, hb.size, hb.block⟩⟩
        case measure => simp [intOf]; omega
    · go_wp2_with (fail)
      (go_at_call 52; refine (HM.out _ hb).mono ?_; rintro e wz ⟨rfl, hbz⟩)
      go_wp2
      go_ret
      exact ⟨rfl, bl_step (bl_step bw9 hb) hbz⟩

noncomputable def fnMelodyBack_world (os : Os) : World := { World.holding Tryd.prog os ⟨#[], #[], []⟩ with heap := ((World.holding Tryd.prog os ⟨#[], #[], []⟩).heap.modify 2 fun | .cells _ t frozen => .cells #[.int .i64 0, .int .i64 2, .int .i64 4, .int .i64 5, .int .i64 7, .int .i64 9, .int .i64 10] t frozen | o => o) }
theorem fnMelodyBack_met (os : Os) : laidMet Tryd.prog Rows.fnMelodyBackRow.laid ((fnMelodyBack_world os).forCall (fun _ _ => 0) ⟨#[], #[.slice none 0 0], []⟩).memory :=
  laidMet_of_run' 8 (by kernel_rfl) (by kernel_rfl)
theorem fnMelodyBack_reads (os : Os) {H : Type} (enc : TypeId × Value → H) : ∃ places, DataW.whole enc Tryd.prog ((fnMelodyBack_world os).forCall (fun _ _ => 0) ⟨#[], #[.slice none 0 0], []⟩).memory Tryd.f13.params.toList Rows.fnMelodyBackSpec.vars false (#[.slice none 0 0] : Array Value).toList 8 = some ([.nil], [Rows.laid_loop_example_neumes_impl_stepHeights], places) :=
  ⟨((DataW.whole enc Tryd.prog ((fnMelodyBack_world os).forCall (fun _ _ => 0) ⟨#[], #[.slice none 0 0], []⟩).memory Tryd.f13.params.toList Rows.fnMelodyBackSpec.vars false (#[.slice none 0 0] : Array Value).toList 8).getD ([], [], [])).2.2, by kernel_rfl⟩
set_option maxRecDepth 100000 in
theorem fnMelodyBack_lifted (os : Os) (started : os.Started) (H : Type) (enc : TypeId × Value → H) (F : Stop.Interp) :
    ReturnsInHanded {} Tryd.checked os 13 .any ((OpenSpec.ofChange Rows.fnMelodyBackSpec).preRow enc Tryd.prog Tryd.f13 Rows.fnMelodyBackRow.domain false Rows.fnMelodyBackRow.laid) (((OpenSpec.ofChange Rows.fnMelodyBackSpec).at F).post enc Tryd.prog Tryd.f13 false true false false) := by
  obtain ⟨places, hx⟩ := fnMelodyBack_reads os enc
  refine returnsInHanded_of_row (C := Tryd.checked) (s := OpenSpec.ofChange Rows.fnMelodyBackSpec) own started (by kernel_rfl) Tryd.func13
    (witness_row_at (enc := enc) (C := Tryd.checked) false (fnMelodyBack_world os) #[.slice none 0 0] rfl (by kernel_rfl) (by kernel_rfl) (by kernel_rfl)
      (OpenSpec.preRow_of_cond 8 hx (by kernel_rfl) (fun k hk => by cases hk) (by kernel_rfl) (fnMelodyBack_met os))) ?_
  intro W base args ds gs before hval0 hW _ _ _ hL _ _
  have hval : ∀ (j : Nat) t v, Tryd.f13.params[j]? = some t → args[j]? = some v → Value.okWide Tryd.prog W .any base t v := hval0
  have hW' := hW
  obtain ⟨p, q, hA0, hV, rfl, _, _⟩ := hW
  have hA : DataW.TrodAll enc Tryd.prog W 0 (fun _ => true) true Tryd.f13.params.toList args.toList ds p := hA0
  rw [Tryd.params13] at hA hval
  obtain ⟨v0, vs0, d0, ds0, p0, q0, hargs, rfl, rfl, h0, r0⟩ := trodAll_cons hA
  obtain ⟨rfl, rfl, rfl⟩ := trodAll_nil r0
  obtain rfl : args = #[v0] := by cases args; simp_all
  obtain ⟨g0, rfl⟩ := vars1 hV
  obtain ⟨a0, n0, c0, rfl⟩ := okWide_slice Tryd.underlying22 (hval 0 22 v0 rfl rfl)
  have k0 := h0
  have lt0 : ∀ x ∈ p0, x.block < W.heap.size := by obtain ⟨m, hm⟩ := k0; exact DataW.trod_lt m _ _ _ hm
  have y0 := code_in h0
  clear hA0 hval0
  refine (fnMelodyBack_walk a0 n0 c0 W y0.1 y0.2.1 y0.2.2 (stepTab hL)).mono fun e W' ⟨he, hb⟩ => ?_
  subst he
  exact ⟨_, rfl, _, _, _, [], _, _, hW', trodAll_cons_mk (shut_bool Tryd.underlying4 _) trodAll_mk0, trodAll_cons_mk (Below.trod laidOut (by kernel_rfl) (of_decide_eq_true (by kernel_rfl)) k0 hb lt0) (trodAll_mk0), hb.trodVars laidOut (by kernel_rfl) hV, hb.frame _, fun h => by cases h⟩

theorem fnMelodyBack_holds : Rows.FnMelodyBackSaid :=
  OpenClaim.holds_of_cond 13 Tryd.f13 rfl rfl rfl rfl rfl rfl rfl ⟨rfl, rfl, rfl, rfl, rfl⟩ rfl rfl rfl rfl rfl (by kernel_rfl) Tryd.func13 (by kernel_rfl)
    (of_decide_eq_true (by kernel_rfl)) (by unfold Func.isWrapper; first | (rw [if_pos (by decide +kernel)]; kernel_rfl) | (rw [if_neg (by decide +kernel)]; exact ⟨rfl, rfl⟩))
    (fun os started H enc _ F => by rw [OpenClaim.pre_eq_preRow]; exact fnMelodyBack_lifted os started H enc F)
theorem fnMelodyBack_plain (f : FuncId) (fn : Func) (hf : Tryd.pinned.checked.prog.funcNamed "loop.example/neumes/laws.FnMelodyBack" = some f) (hfn : Tryd.pinned.checked.prog.funcs[f]? = some fn) :
    false = Tryd.pinned.checked.prog.looks [] ∧ ∀ (j : Nat) t, fn.params[j]? = some t → Tryd.pinned.checked.prog.wantsStandIn t = false := by
  obtain rfl : f = 13 := Option.some.inj ((show Tryd.prog.funcNamed "loop.example/neumes/laws.FnMelodyBack" = some 13 by kernel_rfl).symm.trans hf) |>.symm
  obtain rfl : fn = Tryd.f13 := (Option.some.inj (Tryd.func13.symm.trans hfn)).symm
  refine ⟨by kernel_rfl, fun j t ht => ?_⟩
  rw [Tryd.params13] at ht
  have hm := Array.mem_of_getElem? ht
  simp only [List.mem_toArray, List.mem_cons, List.not_mem_nil, or_false] at hm
  subst hm
  exact (show Tryd.prog.wantsStandIn _ = false by kernel_rfl)
/-- the card -/
theorem fnMelodyBack_card : Rows.FnMelodyBackCardSaid :=
  Claim7.holds_tied_plain_at .later [] _ _ _ _ fnMelodyBack_holds (fun _ h => by cases h) (by kernel_rfl) (fun _ h => by cases h) fnMelodyBack_row_tie rfl ⟨rfl, rfl⟩ (by kernel_rfl) rfl fnMelodyBack_plain (by kernel_rfl)

end Go.Proofs.YtgehfianpahgcaaDoor
