/-
  The exact law of ModeLikely: for every list the function answers as its model, and leaves its argument alone.
-/
import Derived.Test.YtmipkodgkldmbaaDoorMdLk
import Derived.Test.YtmipkodgkldmbaaDoorMdTab
import Derived.Test.YtmipkodgkldmbaaDoorLaid1
import Derived.Test.YtmipkodgkldmbaaDoorOpenT
namespace Go.Proofs.YtmipkodgkldmbaaDoor
open Go.RowKit Go.ChangeShapes Go.WideShapes Go.ChangeAt
set_option maxRecDepth 100000
set_option linter.unusedVariables false

theorem modeLikely_any (lo hi : Nat) (v : Value) (xs : List (Int × Bool)) (w : World) (h : TRow w lo hi v xs) (ht : TenTab w) :
    Calls Tryd.prog 30 #[v] w fun e w' => e = .returned (.tuple #[.int .i64 (lkM xs), .bool (lkB xs)]) ∧ Below w.heap.size w w' := by
  obtain ⟨a, c, rfl, hc, hm, ha⟩ := h.argA
  exact modeLikely_at a c xs w ha hc hm ht

set_option maxHeartbeats 4000000 in
theorem exModeLikely_walk (a : Option Addr) (c : Nat) (xs : List (Int × Bool)) (w : World) (h : ArgT w a xs) (hc : xs.length ≤ c) (hcap : c ≤ maxLen) (ht : TenTab w) :
    Calls Tryd.prog 13 #[.slice a xs.length c] w fun e w' => e = .returned (.bool true) ∧ Below w.heap.size w w' := by
  unfold maxLen at hcap
  have HT := Lib.hid ht
  clear ht
  by_cases hn : xs.length ≤ 1048576
  · have HS := Lib.hid (szToneS_any a xs.length c (by omega))
    rw [if_pos hn] at HS
    have HA := Lib.hid h
    have hg : decide ((1048576 : Int) - (xs.length : Int) < 0) = false := by simp; omega
    have KS := Lib.hid (fun lo hi v w h => sModeLikely_any lo hi v xs w h)
    have KI := Lib.hid (fun lo hi v w h ht => modeLikely_any lo hi v xs w h ht)
    clear h
    generalize lkM xs = o at KS KI
    generalize lkB xs = o2 at KS KI
    go_enter Tryd.func13, Tryd.ntmps13
    go_wp2_with (fail)
    (go_at_call 39; refine (HS.out _).mono ?_; rintro e wx ⟨rfl, rfl⟩)
    go_wp2_with (fail)
    (go_at_call 40; refine (toToneS_any a c xs _ HA.out hn).mono ?_; rintro e w1 ⟨v0, rfl, hr0, hb1⟩)
    go_wp2_with (fail)
    (go_at_call 31; refine (KS.out _ _ _ _ hr0).mono ?_; rintro e w2 ⟨rfl, hb2⟩)
    have hbw2 := bl_step hb1 hb2
    go_wp2_with (fail)
    (go_at_call 40; refine (toToneS_any a c xs _ (HA.out.below hbw2) hn).mono ?_; rintro e w3 ⟨v1, rfl, hr1, hb3⟩)
    have hbw3 := bl_step hbw2 hb3
    go_wp2_with (fail)
    (go_at_call 30; refine (KI.out _ _ _ _ hr1 (HT.out.below hbw3)).mono ?_; rintro e w4 ⟨rfl, hb4⟩)
    have hbw4 := bl_step hbw3 hb4
    have hr1 := hr1.below hb4 (.inl (Nat.le_refl _))
    go_wp2_with (fail)
    (go_at_call 40; refine (toToneS_any a c xs _ (HA.out.below hbw4) hn).mono ?_; rintro e w5 ⟨v2, rfl, hr2, hb5⟩)
    have hbw5 := bl_step hbw4 hb5
    have hr1 := hr1.below hb5 (.inl hb4.size)
    go_wp2_with (fail)
    (go_at_call 41; refine (eqToneS_any _ _ _ _ _ _ xs _ hr1 hr2).mono ?_; rintro e w6 ⟨rfl, hb6⟩)
    go_wp2
    go_ret
    exact ⟨rfl, bl_step hbw5 hb6⟩
  · have HS := Lib.hid (szToneS_any a xs.length c (by omega))
    rw [if_neg hn] at HS
    clear h hn
    go_enter Tryd.func13, Tryd.ntmps13
    go_wp2_with (fail)
    (go_at_call 39; refine (HS.out _).mono ?_; rintro e wx ⟨rfl, rfl⟩)
    go_wp2
    go_ret
    exact ⟨rfl, Below.refl _ _⟩

noncomputable def fnExactModeLikely_world (os : Os) : World := { World.holding Tryd.prog os ⟨#[], #[], []⟩ with heap := ((World.holding Tryd.prog os ⟨#[], #[], []⟩).heap.modify 0 fun | .cells _ t frozen => .cells #[.int .i64 8, .int .i64 6, .int .i64 10, .int .i64 8, .int .i64 10, .int .i64 8, .int .i64 11, .int .i64 10] t frozen | o => o) }
theorem fnExactModeLikely_met (os : Os) : laidMet Tryd.prog Rows.fnExactModeLikelyRow.laid ((fnExactModeLikely_world os).forCall (fun _ _ => 0) ⟨#[], #[.slice none 0 0], []⟩).memory :=
  laidMet_of_run' 8 (by kernel_rfl) (by kernel_rfl)
theorem fnExactModeLikely_reads (os : Os) {H : Type} (enc : TypeId × Value → H) : ∃ places, DataW.whole enc Tryd.prog ((fnExactModeLikely_world os).forCall (fun _ _ => 0) ⟨#[], #[.slice none 0 0], []⟩).memory Tryd.f13.params.toList Rows.fnExactModeLikelySpec.vars false (#[.slice none 0 0] : Array Value).toList 8 = some ([.nil], [Rows.laid_loop_example_neumes_impl_modeTenors], places) :=
  ⟨((DataW.whole enc Tryd.prog ((fnExactModeLikely_world os).forCall (fun _ _ => 0) ⟨#[], #[.slice none 0 0], []⟩).memory Tryd.f13.params.toList Rows.fnExactModeLikelySpec.vars false (#[.slice none 0 0] : Array Value).toList 8).getD ([], [], [])).2.2, by kernel_rfl⟩
set_option maxRecDepth 100000 in
theorem fnExactModeLikely_lifted (os : Os) (started : os.Started) (H : Type) (enc : TypeId × Value → H) (F : Stop.Interp) :
    ReturnsInHanded {} Tryd.checked os 13 .any ((OpenSpec.ofChange Rows.fnExactModeLikelySpec).preRow enc Tryd.prog Tryd.f13 Rows.fnExactModeLikelyRow.domain false Rows.fnExactModeLikelyRow.laid) (((OpenSpec.ofChange Rows.fnExactModeLikelySpec).at F).post enc Tryd.prog Tryd.f13 false true false false) := by
  obtain ⟨places, hx⟩ := fnExactModeLikely_reads os enc
  refine returnsInHanded_of_row (C := Tryd.checked) (s := OpenSpec.ofChange Rows.fnExactModeLikelySpec) own started (by kernel_rfl) Tryd.func13
    (witness_row_at (enc := enc) (C := Tryd.checked) false (fnExactModeLikely_world os) #[.slice none 0 0] rfl (by kernel_rfl) (by kernel_rfl) (by kernel_rfl)
      (OpenSpec.preRow_of_cond 8 hx (by kernel_rfl) (fun k hk => by cases hk) (by kernel_rfl) (fnExactModeLikely_met os))) ?_
  intro W base args ds gs before hval0 hW _ _ _ hL _ _
  have hval : ∀ (j : Nat) t v, Tryd.f13.params[j]? = some t → args[j]? = some v → Value.okWide Tryd.prog W .any base t v := hval0
  have hW' := hW
  obtain ⟨p, q, hA0, hV, rfl, _, _⟩ := hW
  have hA : DataW.TrodAll enc Tryd.prog W 0 (fun _ => true) true Tryd.f13.params.toList args.toList ds p := hA0
  rw [Tryd.params13] at hA hval
  obtain ⟨v0, vs0, d0, ds0, p0, q0, hargs, rfl, rfl, h0, r0⟩ := trodAll_cons hA
  obtain ⟨rfl, rfl, rfl⟩ := trodAll_nil r0
  obtain rfl : args = #[v0] := by cases args; simp_all
  obtain ⟨g0, rfl⟩ := vars1 hV
  obtain ⟨a0, n0, c0, rfl⟩ := okWide_slice Tryd.underlying44 (hval 0 44 v0 rfl rfl)
  have k0 := h0
  have lt0 : ∀ x ∈ p0, x.block < W.heap.size := by obtain ⟨m, hm⟩ := k0; exact DataW.trod_lt m _ _ _ hm
  obtain ⟨x0, rfl, y0, z0, u0⟩ := tones_in h0
  clear hA0 hval0
  refine (exModeLikely_walk a0 c0 x0 W y0 z0 u0 (tenTab_at hL (.head _))).mono fun e W' ⟨he, hb⟩ => ?_
  subst he
  exact ⟨_, rfl, _, _, _, [], _, _, hW', trodAll_cons_mk (shut_bool Tryd.underlying4 _) trodAll_mk0, trodAll_cons_mk (Below.trod laidOut (by kernel_rfl) (of_decide_eq_true (by kernel_rfl)) k0 hb lt0) (trodAll_mk0), hb.trodVars laidOut (by kernel_rfl) hV, hb.frame _, fun h => by cases h⟩

theorem fnExactModeLikely_holds : Rows.FnExactModeLikelySaid :=
  OpenClaim.holds_of_cond 13 Tryd.f13 rfl rfl rfl rfl rfl rfl rfl ⟨rfl, rfl, rfl, rfl, rfl⟩ rfl rfl rfl rfl rfl (by kernel_rfl) Tryd.func13 (by kernel_rfl)
    (of_decide_eq_true (by kernel_rfl)) (by unfold Func.isWrapper; first | (rw [if_pos (by decide +kernel)]; kernel_rfl) | (rw [if_neg (by decide +kernel)]; exact ⟨rfl, rfl⟩))
    (fun os started H enc _ F => by rw [OpenClaim.pre_eq_preRow]; exact fnExactModeLikely_lifted os started H enc F)
theorem fnExactModeLikely_plain (f : FuncId) (fn : Func) (hf : Tryd.pinned.checked.prog.funcNamed "loop.example/neumes/laws.FnExactModeLikely" = some f) (hfn : Tryd.pinned.checked.prog.funcs[f]? = some fn) :
    false = Tryd.pinned.checked.prog.looks [] ∧ ∀ (j : Nat) t, fn.params[j]? = some t → Tryd.pinned.checked.prog.wantsStandIn t = false := by
  obtain rfl : f = 13 := Option.some.inj ((show Tryd.prog.funcNamed "loop.example/neumes/laws.FnExactModeLikely" = some 13 by kernel_rfl).symm.trans hf) |>.symm
  obtain rfl : fn = Tryd.f13 := (Option.some.inj (Tryd.func13.symm.trans hfn)).symm
  refine ⟨by kernel_rfl, fun j t ht => ?_⟩
  rw [Tryd.params13] at ht
  have hm := Array.mem_of_getElem? ht
  simp only [List.mem_toArray, List.mem_cons, List.not_mem_nil, or_false] at hm
  subst hm
  exact (show Tryd.prog.wantsStandIn _ = false by kernel_rfl)
/-- the card -/
theorem fnExactModeLikely_card : Rows.FnExactModeLikelyCardSaid :=
  Claim7.holds_tied_plain_at .later [] _ _ _ _ fnExactModeLikely_holds (fun _ h => by cases h) (by kernel_rfl) (fun _ h => by cases h) fnExactModeLikely_row_tie rfl ⟨rfl, rfl⟩ (by kernel_rfl) rfl fnExactModeLikely_plain (by kernel_rfl)

end Go.Proofs.YtmipkodgkldmbaaDoor
