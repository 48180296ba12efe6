/-
  The exact law of MelodySame: for any two lists the function answers as its model, and leaves its arguments alone.
-/
import Derived.Test.YtgehfianpahgcabDoorSame2
import Derived.Test.YtgehfianpahgcabDoorTurn
import Derived.Test.YtgehfianpahgcabDoorOpenT
import Derived.Test.YtgehfianpahgcabDoorLaid
namespace Go.Proofs.YtgehfianpahgcabDoor
open Go.RowKit Go.ChangeShapes Go.WideShapes Go.ChangeAt
set_option maxRecDepth 100000
set_option linter.unusedVariables false

theorem szToneS_gen2 (a : Option Addr) (n c : Nat) (L : Int) (h0 : 0 ≤ L) (h1 : L ≤ 1048576) (hn : n ≤ 9223372036854775807) (w : World) :
    Calls Tryd.prog 13 #[.slice a n c, .int .i64 L] w fun e w' => e = .returned (.int .i64 (if (n : Int) ≤ L then L - (n : Int) else -1)) ∧ w = w' := by
  by_cases h : (n : Int) ≤ L
  · rw [if_pos h]
    go_enter Tryd.func13, Tryd.ntmps13
    go_wp2
    go_ret
    exact ⟨rfl, rfl⟩
  · rw [if_neg h]
    have g : L < (n : Int) := by omega
    go_enter Tryd.func13, Tryd.ntmps13
    go_wp2
    go_ret
    exact ⟨rfl, rfl⟩

set_option maxHeartbeats 8000000 in
theorem exMelodySame_walk (a : Option Addr) (c : Nat) (xs : List (Int × Bool)) (a' : Option Addr) (c' : Nat) (ys : List (Int × Bool)) (w : World) (h : ArgT w a xs) (hc : xs.length ≤ c) (hcap : c ≤ maxLen) (h' : ArgT w a' ys) (hc' : ys.length ≤ c') (hcap' : c' ≤ maxLen) (ht : StepTab w) :
    Calls Tryd.prog 7 #[.slice a xs.length c, .slice a' ys.length c'] w fun e w' => e = .returned (.bool true) ∧ Below w.heap.size w w' := by
  unfold maxLen at hcap hcap'
  have HT := Lib.hid ht
  clear ht
  by_cases hn : xs.length ≤ 1048576
  case neg =>
    have HS := Lib.hid (szToneS_any a xs.length c (by omega))
    rw [if_neg hn] at HS
    clear h h' hn
    go_enter Tryd.func7, Tryd.ntmps7
    go_wp2_with (fail)
    (go_at_call 13; refine (HS.out _).mono ?_; rintro e wx ⟨rfl, rfl⟩)
    go_wp2
    go_ret
    exact ⟨rfl, Below.refl _ _⟩
  have HS := Lib.hid (szToneS_any a xs.length c (by omega))
  rw [if_pos hn] at HS
  have HS' := Lib.hid (szToneS_gen2 a' ys.length c' (1048576 - (xs.length : Int)) (by omega) (by omega) (by omega))
  have hg : decide ((1048576 : Int) - (xs.length : Int) < 0) = false := by simp; omega
  by_cases hm : (ys.length : Int) ≤ 1048576 - (xs.length : Int)
  case neg =>
    rw [if_neg hm] at HS'
    clear h h' hm
    go_enter Tryd.func7, Tryd.ntmps7
    go_wp2_with (fail)
    (go_at_call 13; refine (HS.out _).mono ?_; rintro e wx ⟨rfl, rfl⟩)
    go_wp2_with (fail)
    (go_at_call 13; refine (HS'.out _).mono ?_; rintro e wx ⟨rfl, rfl⟩)
    go_wp2
    go_ret
    exact ⟨rfl, Below.refl _ _⟩
  rw [if_pos hm] at HS'
  have hg' : decide ((1048576 : Int) - (xs.length : Int) - (ys.length : Int) < 0) = false := by simp; omega
  have hn' : ys.length ≤ 1048576 := by omega
  have HA := Lib.hid h
  have HB := Lib.hid h'
  have KS := Lib.hid (fun lo hi lo' hi' v u w h k a b => sMelodySame_any lo hi lo' hi' v u xs ys w h k a b)
  have KI := Lib.hid (fun lo hi lo' hi' v u w h k t => melodySame_any lo hi lo' hi' v u xs ys w h k t)
  clear h h' hm
  generalize msame xs ys = ok at KS KI
  go_enter Tryd.func7, Tryd.ntmps7
  go_wp2_with (fail)
  (go_at_call 13; refine (HS.out _).mono ?_; rintro e wx ⟨rfl, rfl⟩)
  go_wp2_with (fail)
  (go_at_call 13; refine (HS'.out _).mono ?_; rintro e wx ⟨rfl, rfl⟩)
  go_wp2_with (fail)
  (go_at_call 15; refine (toToneS_any a c xs _ HA.out hn).mono ?_; rintro e w1 ⟨v0, rfl, hr0, hb1⟩)
  go_wp2_with (fail)
  (go_at_call 15; refine (toToneS_any a' c' ys _ (HB.out.below hb1) hn').mono ?_; rintro e w2 ⟨t0, rfl, ht0, hb2⟩)
  have hbw2 := bl_step hb1 hb2
  have hr0 := hr0.below hb2 (.inl (Nat.le_refl _))
  go_wp2_with (fail)
  (go_at_call 29; refine (KS.out _ _ _ _ _ _ _ hr0 ht0 hb2.size (Nat.le_refl _)).mono ?_; rintro e w3 ⟨rfl, hb3⟩)
  have hbw3 := bl_step hbw2 hb3
  clear hr0 ht0
  go_wp2_with (fail)
  (go_at_call 15; refine (toToneS_any a c xs _ (HA.out.below hbw3) hn).mono ?_; rintro e w4 ⟨v1, rfl, hr1, hb4⟩)
  have hbw4 := bl_step hbw3 hb4
  go_wp2_with (fail)
  (go_at_call 15; refine (toToneS_any a' c' ys _ (HB.out.below hbw4) hn').mono ?_; rintro e w5 ⟨t1, rfl, ht1, hb5⟩)
  have hbw5 := bl_step hbw4 hb5
  have z4 := hb4.size; have z5 := hb5.size
  have hr1 := hr1.below hb5 (.inl (Nat.le_refl _))
  go_wp2_with (fail)
  (go_at_call 30; refine (KI.out _ _ _ _ _ _ _ hr1 ht1 (HT.out.below hbw5)).mono ?_; rintro e w6 ⟨rfl, hb6⟩)
  have hbw6 := bl_step hbw5 hb6
  have z6 := hb6.size
  have hr1 := hr1.below hb6 (.inl (by omega))
  have ht1 := ht1.below hb6 (.inl (by omega))
  go_wp2_with (fail)
  (go_at_call 15; refine (toToneS_any a c xs _ (HA.out.below hbw6) hn).mono ?_; rintro e w8 ⟨v2, rfl, hr2, hb8⟩)
  have hbw8 := bl_step hbw6 hb8
  have z8 := hb8.size
  have hr1 := hr1.below hb8 (.inl (by omega))
  have ht1 := ht1.below hb8 (.inl (by omega))
  go_wp2_with (fail)
  (go_at_call 17; refine (eqToneS_any _ _ _ _ _ _ xs _ hr1 hr2).mono ?_; rintro e w9 ⟨rfl, hb9⟩)
  have hbw9 := bl_step hbw8 hb9
  have z9 := hb9.size
  have ht1 := ht1.below hb9 (.inl (by omega))
  clear hr2 hr1
  go_wp2_with (fail)
  (go_at_call 15; refine (toToneS_any a' c' ys _ (HB.out.below hbw9) hn').mono ?_; rintro e w10 ⟨t2, rfl, ht2, hb10⟩)
  have hbw10 := bl_step hbw9 hb10
  have ht1 := ht1.below hb10 (.inl (by omega))
  go_wp2_with (fail)
  (go_at_call 17; refine (eqToneS_any _ _ _ _ _ _ ys _ ht1 ht2).mono ?_; rintro e w11 ⟨rfl, hb11⟩)
  go_wp2
  go_ret
  exact ⟨rfl, bl_step hbw10 hb11⟩

noncomputable def fnExactMelodySame_world (os : Os) : World := { World.holding Tryd.prog os ⟨#[], #[], []⟩ with heap := ((World.holding Tryd.prog os ⟨#[], #[], []⟩).heap.modify 1 fun | .cells _ t frozen => .cells #[.int .i64 0, .int .i64 2, .int .i64 4, .int .i64 5, .int .i64 7, .int .i64 9, .int .i64 10] t frozen | o => o) }
theorem fnExactMelodySame_met (os : Os) : laidMet Tryd.prog Rows.fnExactMelodySameRow.laid ((fnExactMelodySame_world os).forCall (fun _ _ => 0) ⟨#[], #[.slice none 0 0, .slice none 0 0], []⟩).memory :=
  laidMet_of_run' 8 (by kernel_rfl) (by kernel_rfl)
theorem fnExactMelodySame_reads (os : Os) {H : Type} (enc : TypeId × Value → H) : ∃ places, DataW.whole enc Tryd.prog ((fnExactMelodySame_world os).forCall (fun _ _ => 0) ⟨#[], #[.slice none 0 0, .slice none 0 0], []⟩).memory Tryd.f7.params.toList Rows.fnExactMelodySameSpec.vars false (#[.slice none 0 0, .slice none 0 0] : Array Value).toList 8 = some ([.nil, .nil], [Rows.laid_loop_example_neumes_impl_stepHeights], places) :=
  ⟨((DataW.whole enc Tryd.prog ((fnExactMelodySame_world os).forCall (fun _ _ => 0) ⟨#[], #[.slice none 0 0, .slice none 0 0], []⟩).memory Tryd.f7.params.toList Rows.fnExactMelodySameSpec.vars false (#[.slice none 0 0, .slice none 0 0] : Array Value).toList 8).getD ([], [], [])).2.2, by kernel_rfl⟩
set_option maxRecDepth 100000 in
theorem fnExactMelodySame_lifted (os : Os) (started : os.Started) (H : Type) (enc : TypeId × Value → H) (F : Stop.Interp) :
    ReturnsInHanded {} Tryd.checked os 7 .any ((OpenSpec.ofChange Rows.fnExactMelodySameSpec).preRow enc Tryd.prog Tryd.f7 Rows.fnExactMelodySameRow.domain false Rows.fnExactMelodySameRow.laid) (((OpenSpec.ofChange Rows.fnExactMelodySameSpec).at F).post enc Tryd.prog Tryd.f7 false true false false) := by
  obtain ⟨places, hx⟩ := fnExactMelodySame_reads os enc
  refine returnsInHanded_of_row (C := Tryd.checked) (s := OpenSpec.ofChange Rows.fnExactMelodySameSpec) own started (by kernel_rfl) Tryd.func7
    (witness_row_at (enc := enc) (C := Tryd.checked) false (fnExactMelodySame_world os) #[.slice none 0 0, .slice none 0 0] rfl (by kernel_rfl) (by kernel_rfl) (by kernel_rfl)
      (OpenSpec.preRow_of_cond 8 hx (by kernel_rfl) (fun k hk => by cases hk) (by kernel_rfl) (fnExactMelodySame_met os))) ?_
  intro W base args ds gs before hval0 hW _ _ _ hL _ _
  have hval : ∀ (j : Nat) t v, Tryd.f7.params[j]? = some t → args[j]? = some v → Value.okWide Tryd.prog W .any base t v := hval0
  have hW' := hW
  obtain ⟨p, q, hA0, hV, rfl, _, _⟩ := hW
  have hA : DataW.TrodAll enc Tryd.prog W 0 (fun _ => true) true Tryd.f7.params.toList args.toList ds p := hA0
  rw [Tryd.params7] at hA hval
  obtain ⟨v0, vs0, d0, ds0, p0, q0, hargs, rfl, rfl, h0, r0⟩ := trodAll_cons hA
  obtain ⟨v1, vs1, d1, ds1, p1, q1, rfl, rfl, rfl, h1, r1⟩ := trodAll_cons r0
  obtain ⟨rfl, rfl, rfl⟩ := trodAll_nil r1
  obtain rfl : args = #[v0, v1] := by cases args; simp_all
  obtain ⟨g0, rfl⟩ := vars1 hV
  obtain ⟨a0, n0, c0, rfl⟩ := okWide_slice Tryd.underlying22 (hval 0 22 v0 rfl rfl)
  have k0 := h0
  have lt0 : ∀ x ∈ p0, x.block < W.heap.size := by obtain ⟨m, hm⟩ := k0; exact DataW.trod_lt m _ _ _ hm
  obtain ⟨x0, rfl, y0, z0, u0⟩ := tones_in h0
  obtain ⟨a1, n1, c1, rfl⟩ := okWide_slice Tryd.underlying22 (hval 1 22 v1 rfl rfl)
  have k1 := h1
  have lt1 : ∀ x ∈ p1, x.block < W.heap.size := by obtain ⟨m, hm⟩ := k1; exact DataW.trod_lt m _ _ _ hm
  obtain ⟨x1, rfl, y1, z1, u1⟩ := tones_in h1
  clear hA0 hval0
  refine (exMelodySame_walk a0 c0 x0 a1 c1 x1 W y0 z0 u0 y1 z1 u1 (stepTab hL)).mono fun e W' ⟨he, hb⟩ => ?_
  subst he
  exact ⟨_, rfl, _, _, _, [], _, _, hW', trodAll_cons_mk (shut_bool Tryd.underlying4 _) trodAll_mk0, trodAll_cons_mk (Below.trod laidOut (by kernel_rfl) (of_decide_eq_true (by kernel_rfl)) k0 hb lt0) (trodAll_cons_mk (Below.trod laidOut (by kernel_rfl) (of_decide_eq_true (by kernel_rfl)) k1 hb lt1) (trodAll_mk0)), hb.trodVars laidOut (by kernel_rfl) hV, hb.frame _, fun h => by cases h⟩

theorem fnExactMelodySame_holds : Rows.FnExactMelodySameSaid :=
  OpenClaim.holds_of_cond 7 Tryd.f7 rfl rfl rfl rfl rfl rfl rfl ⟨rfl, rfl, rfl, rfl, rfl⟩ rfl rfl rfl rfl rfl (by kernel_rfl) Tryd.func7 (by kernel_rfl)
    (of_decide_eq_true (by kernel_rfl)) (by unfold Func.isWrapper; first | (rw [if_pos (by decide +kernel)]; kernel_rfl) | (rw [if_neg (by decide +kernel)]; exact ⟨rfl, rfl⟩))
    (fun os started H enc _ F => by rw [OpenClaim.pre_eq_preRow]; exact fnExactMelodySame_lifted os started H enc F)
theorem fnExactMelodySame_plain (f : FuncId) (fn : Func) (hf : Tryd.pinned.checked.prog.funcNamed "loop.example/neumes/laws.FnExactMelodySame" = some f) (hfn : Tryd.pinned.checked.prog.funcs[f]? = some fn) :
    false = Tryd.pinned.checked.prog.looks [] ∧ ∀ (j : Nat) t, fn.params[j]? = some t → Tryd.pinned.checked.prog.wantsStandIn t = false := by
  obtain rfl : f = 7 := Option.some.inj ((show Tryd.prog.funcNamed "loop.example/neumes/laws.FnExactMelodySame" = some 7 by kernel_rfl).symm.trans hf) |>.symm
  obtain rfl : fn = Tryd.f7 := (Option.some.inj (Tryd.func7.symm.trans hfn)).symm
  refine ⟨by kernel_rfl, fun j t ht => ?_⟩
  rw [Tryd.params7] at ht
  have hm := Array.mem_of_getElem? ht
  simp only [List.mem_toArray, List.mem_cons, List.not_mem_nil, or_false] at hm
  rcases hm with rfl | rfl
  all_goals exact (show Tryd.prog.wantsStandIn _ = false by kernel_rfl)
/-- the card -/
theorem fnExactMelodySame_card : Rows.FnExactMelodySameCardSaid :=
  Claim7.holds_tied_plain_at .later [] _ _ _ _ fnExactMelodySame_holds (fun _ h => by cases h) (by kernel_rfl) (fun _ h => by cases h) fnExactMelodySame_row_tie rfl ⟨rfl, rfl⟩ (by kernel_rfl) rfl fnExactMelodySame_plain (by kernel_rfl)

end Go.Proofs.YtgehfianpahgcabDoor
