/-
  The exact law of ModeIn: for every list and number the function answers as its model, and leaves its argument alone.
-/
import Derived.Test.YtmipkodgkldmbaaDoorMdIn
import Derived.Test.YtmipkodgkldmbaaDoorMdTab
import Derived.Test.YtmipkodgkldmbaaDoorLaid1
import Derived.Test.YtmipkodgkldmbaaDoorOpenT
namespace Go.Proofs.YtmipkodgkldmbaaDoor
open Go.RowKit Go.ChangeShapes Go.WideShapes Go.ChangeAt
set_option maxRecDepth 100000
set_option linter.unusedVariables false

theorem modeIn_any (lo hi : Nat) (v : Value) (xs : List (Int × Bool)) (k : Int) (w : World) (h : TRow w lo hi v xs) (ht : TenTab w) :
    Calls Tryd.prog 23 #[v, .int .i64 k] w fun e w' => e = .returned (.bool (inM xs k)) ∧ Below w.heap.size w w' := by
  obtain ⟨a, c, rfl, hc, hm, ha⟩ := h.argA
  exact modeIn_at a c xs k w ha hc hm ht

set_option maxHeartbeats 4000000 in
theorem exModeIn_walk (a : Option Addr) (c : Nat) (xs : List (Int × Bool)) (k : Int) (w : World) (h : ArgT w a xs) (hc : xs.length ≤ c) (hcap : c ≤ maxLen) (ht : TenTab w) :
    Calls Tryd.prog 11 #[.slice a xs.length c, .int .i64 k] w fun e w' => e = .returned (.bool true) ∧ Below w.heap.size w w' := by
  unfold maxLen at hcap
  have HT := Lib.hid ht
  clear ht
  by_cases hn : xs.length ≤ 1048576
  · have HS := Lib.hid (szToneS_any a xs.length c (by omega))
    rw [if_pos hn] at HS
    have HA := Lib.hid h
    have hg : decide ((1048576 : Int) - (xs.length : Int) < 0) = false := by simp; omega
    have KS := Lib.hid (fun lo hi v w h => sModeIn_any lo hi v xs k w h)
    have KI := Lib.hid (fun lo hi v w h ht => modeIn_any lo hi v xs k w h ht)
    clear h
    generalize inM xs k = o at KS KI
    go_enter Tryd.func11, Tryd.ntmps11
    go_wp2_with (fail)
    (go_at_call 39; refine (HS.out _).mono ?_; rintro e wx ⟨rfl, rfl⟩)
    go_wp2_with (fail)
    (go_at_call 40; refine (toToneS_any a c xs _ HA.out hn).mono ?_; rintro e w1 ⟨v0, rfl, hr0, hb1⟩)
    go_wp2_with (fail)
    (go_at_call 24; refine (KS.out _ _ _ _ hr0).mono ?_; rintro e w2 ⟨rfl, hb2⟩)
    have hbw2 := bl_step hb1 hb2
    go_wp2_with (fail)
    (go_at_call 40; refine (toToneS_any a c xs _ (HA.out.below hbw2) hn).mono ?_; rintro e w3 ⟨v1, rfl, hr1, hb3⟩)
    have hbw3 := bl_step hbw2 hb3
    go_wp2_with (fail)
    (go_at_call 23; refine (KI.out _ _ _ _ hr1 (HT.out.below hbw3)).mono ?_; rintro e w4 ⟨rfl, hb4⟩)
    have hbw4 := bl_step hbw3 hb4
    have hr1 := hr1.below hb4 (.inl (Nat.le_refl _))
    go_wp2_with (fail)
    (go_at_call 40; refine (toToneS_any a c xs _ (HA.out.below hbw4) hn).mono ?_; rintro e w5 ⟨v2, rfl, hr2, hb5⟩)
    have hbw5 := bl_step hbw4 hb5
    have hr1 := hr1.below hb5 (.inl hb4.size)
    go_wp2_with (fail)
    (go_at_call 41; refine (eqToneS_any _ _ _ _ _ _ xs _ hr1 hr2).mono ?_; rintro e w6 ⟨rfl, hb6⟩)
    go_wp2
    go_ret
    exact ⟨rfl, bl_step hbw5 hb6⟩
  · have HS := Lib.hid (szToneS_any a xs.length c (by omega))
    rw [if_neg hn] at HS
    clear h hn
    go_enter Tryd.func11, Tryd.ntmps11
    go_wp2_with (fail)
    (go_at_call 39; refine (HS.out _).mono ?_; rintro e wx ⟨rfl, rfl⟩)
    go_wp2
    go_ret
    exact ⟨rfl, Below.refl _ _⟩

noncomputable def fnExactModeIn_world (os : Os) : World := { World.holding Tryd.prog os ⟨#[], #[], []⟩ with heap := ((World.holding Tryd.prog os ⟨#[], #[], []⟩).heap.modify 0 fun | .cells _ t frozen => .cells #[.int .i64 8, .int .i64 6, .int .i64 10, .int .i64 8, .int .i64 10, .int .i64 8, .int .i64 11, .int .i64 10] t frozen | o => o) }
theorem fnExactModeIn_met (os : Os) : laidMet Tryd.prog Rows.fnExactModeInRow.laid ((fnExactModeIn_world os).forCall (fun _ _ => 0) ⟨#[], #[.slice none 0 0, .int .i64 0], []⟩).memory :=
  laidMet_of_run' 8 (by kernel_rfl) (by kernel_rfl)
theorem fnExactModeIn_reads (os : Os) {H : Type} (enc : TypeId × Value → H) : ∃ places, DataW.whole enc Tryd.prog ((fnExactModeIn_world os).forCall (fun _ _ => 0) ⟨#[], #[.slice none 0 0, .int .i64 0], []⟩).memory Tryd.f11.params.toList Rows.fnExactModeInSpec.vars false (#[.slice none 0 0, .int .i64 0] : Array Value).toList 8 = some ([.nil, .lit (.int .i64 0)], [Rows.laid_loop_example_neumes_impl_modeTenors], places) :=
  ⟨((DataW.whole enc Tryd.prog ((fnExactModeIn_world os).forCall (fun _ _ => 0) ⟨#[], #[.slice none 0 0, .int .i64 0], []⟩).memory Tryd.f11.params.toList Rows.fnExactModeInSpec.vars false (#[.slice none 0 0, .int .i64 0] : Array Value).toList 8).getD ([], [], [])).2.2, by kernel_rfl⟩
set_option maxRecDepth 100000 in
theorem fnExactModeIn_lifted (os : Os) (started : os.Started) (H : Type) (enc : TypeId × Value → H) (F : Stop.Interp) :
    ReturnsInHanded {} Tryd.checked os 11 .any ((OpenSpec.ofChange Rows.fnExactModeInSpec).preRow enc Tryd.prog Tryd.f11 Rows.fnExactModeInRow.domain false Rows.fnExactModeInRow.laid) (((OpenSpec.ofChange Rows.fnExactModeInSpec).at F).post enc Tryd.prog Tryd.f11 false true false false) := by
  obtain ⟨places, hx⟩ := fnExactModeIn_reads os enc
  refine returnsInHanded_of_row (C := Tryd.checked) (s := OpenSpec.ofChange Rows.fnExactModeInSpec) own started (by kernel_rfl) Tryd.func11
    (witness_row_at (enc := enc) (C := Tryd.checked) false (fnExactModeIn_world os) #[.slice none 0 0, .int .i64 0] rfl (by kernel_rfl) (by kernel_rfl) (by kernel_rfl)
      (OpenSpec.preRow_of_cond 8 hx (by kernel_rfl) (fun k hk => by cases hk) (by kernel_rfl) (fnExactModeIn_met os))) ?_
  intro W base args ds gs before hval0 hW _ _ _ hL _ _
  have hval : ∀ (j : Nat) t v, Tryd.f11.params[j]? = some t → args[j]? = some v → Value.okWide Tryd.prog W .any base t v := hval0
  have hW' := hW
  obtain ⟨p, q, hA0, hV, rfl, _, _⟩ := hW
  have hA : DataW.TrodAll enc Tryd.prog W 0 (fun _ => true) true Tryd.f11.params.toList args.toList ds p := hA0
  rw [Tryd.params11] at hA hval
  obtain ⟨v0, vs0, d0, ds0, p0, q0, hargs, rfl, rfl, h0, r0⟩ := trodAll_cons hA
  obtain ⟨v1, vs1, d1, ds1, p1, q1, rfl, rfl, rfl, h1, r1⟩ := trodAll_cons r0
  obtain ⟨rfl, rfl, rfl⟩ := trodAll_nil r1
  obtain rfl : args = #[v0, v1] := by cases args; simp_all
  obtain ⟨g0, rfl⟩ := vars1 hV
  obtain ⟨a0, n0, c0, rfl⟩ := okWide_slice Tryd.underlying44 (hval 0 44 v0 rfl rfl)
  have k0 := h0
  have lt0 : ∀ x ∈ p0, x.block < W.heap.size := by obtain ⟨m, hm⟩ := k0; exact DataW.trod_lt m _ _ _ hm
  obtain ⟨x0, rfl, y0, z0, u0⟩ := tones_in h0
  obtain ⟨x1, rfl, rfl, rfl, y1⟩ := open_int Tryd.underlying3 (hval 1 3 v1 rfl rfl) h1
  clear hA0 hval0
  refine (exModeIn_walk a0 c0 x0 x1 W y0 z0 u0 (tenTab_at hL (.head _))).mono fun e W' ⟨he, hb⟩ => ?_
  subst he
  exact ⟨_, rfl, _, _, _, [], _, _, hW', trodAll_cons_mk (shut_bool Tryd.underlying4 _) trodAll_mk0, trodAll_cons_mk (Below.trod laidOut (by kernel_rfl) (of_decide_eq_true (by kernel_rfl)) k0 hb lt0) (trodAll_cons_mk (shut_int Tryd.underlying3 y1) (trodAll_mk0)), hb.trodVars laidOut (by kernel_rfl) hV, hb.frame _, fun h => by cases h⟩

theorem fnExactModeIn_holds : Rows.FnExactModeInSaid :=
  OpenClaim.holds_of_cond 11 Tryd.f11 rfl rfl rfl rfl rfl rfl rfl ⟨rfl, rfl, rfl, rfl, rfl⟩ rfl rfl rfl rfl rfl (by kernel_rfl) Tryd.func11 (by kernel_rfl)
    (of_decide_eq_true (by kernel_rfl)) (by unfold Func.isWrapper; first | (rw [if_pos (by decide +kernel)]; kernel_rfl) | (rw [if_neg (by decide +kernel)]; exact ⟨rfl, rfl⟩))
    (fun os started H enc _ F => by rw [OpenClaim.pre_eq_preRow]; exact fnExactModeIn_lifted os started H enc F)
theorem fnExactModeIn_plain (f : FuncId) (fn : Func) (hf : Tryd.pinned.checked.prog.funcNamed "loop.example/neumes/laws.FnExactModeIn" = some f) (hfn : Tryd.pinned.checked.prog.funcs[f]? = some fn) :
    false = Tryd.pinned.checked.prog.looks [] ∧ ∀ (j : Nat) t, fn.params[j]? = some t → Tryd.pinned.checked.prog.wantsStandIn t = false := by
  obtain rfl : f = 11 := Option.some.inj ((show Tryd.prog.funcNamed "loop.example/neumes/laws.FnExactModeIn" = some 11 by kernel_rfl).symm.trans hf) |>.symm
  obtain rfl : fn = Tryd.f11 := (Option.some.inj (Tryd.func11.symm.trans hfn)).symm
  refine ⟨by kernel_rfl, fun j t ht => ?_⟩
  rw [Tryd.params11] at ht
  have hm := Array.mem_of_getElem? ht
  simp only [List.mem_toArray, List.mem_cons, List.not_mem_nil, or_false] at hm
  rcases hm with rfl | rfl
  all_goals exact (show Tryd.prog.wantsStandIn _ = false by kernel_rfl)
/-- the card -/
theorem fnExactModeIn_card : Rows.FnExactModeInCardSaid :=
  Claim7.holds_tied_plain_at .later [] _ _ _ _ fnExactModeIn_holds (fun _ h => by cases h) (by kernel_rfl) (fun _ h => by cases h) fnExactModeIn_row_tie rfl ⟨rfl, rfl⟩ (by kernel_rfl) rfl fnExactModeIn_plain (by kernel_rfl)

end Go.Proofs.YtmipkodgkldmbaaDoor
