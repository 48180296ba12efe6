/-
  The law FnMode: for every code, modes with one final are a pair.
-/
import Derived.Test.YtmipkodgkldmbaaDoorMdj
import Derived.Test.YtmipkodgkldmbaaDoorMds
import Derived.Test.YtmipkodgkldmbaaDoorMdTab
import Derived.Test.YtmipkodgkldmbaaDoorLaid1
import Derived.Test.YtmipkodgkldmbaaDoorDrawMd
import Derived.Test.YtmipkodgkldmbaaDoorCode
namespace Go.Proofs.YtmipkodgkldmbaaDoor
open Go.RowKit Go.ChangeShapes Go.WideShapes Go.ChangeAt
set_option maxRecDepth 100000
set_option linter.unusedVariables false

theorem md_law {k : Int} (h : mdv k = true) : decide (mdL k < mdF k) = true ∧ decide (mdF k < mdH k) = true ∧ decide (mdF k < mdT k) = true ∧ decide (mdT k ≤ mdH k) = true ∧
    ((k.tmod 2 = 0 ∧ mdH (mdP k) - mdH k = 3 ∧ mdL (mdP k) - mdL k = 3) ∨ (k.tmod 2 = 1 ∧ mdH (mdP k) - mdH k = -3 ∧ mdL (mdP k) - mdL k = -3)) := by
  obtain ⟨h0, h1⟩ := mdv_in h
  rcases eight h0 h1 with rfl | rfl | rfl | rfl | rfl | rfl | rfl | rfl <;> decide

set_option maxHeartbeats 8000000 in
theorem fnMode_walk (a : Option Addr) (n cap : Nat) (w : World) (h : CodeAt w a n) (hc : n ≤ cap) (hcap : cap ≤ maxLen) (ht : TenTab w) :
    Calls Tryd.prog 3 #[.slice a n cap] w fun e w' => e = .returned (.bool true) ∧ Below w.heap.size w w' := by
  have HT := Lib.hid ht
  clear ht
  by_cases hn : 1048576 < n
  · have g : (1048576 : Int) < (n : Int) := by omega
    go_enter Tryd.func3, Tryd.ntmps3
    go_wp2
    go_ret
    exact ⟨rfl, Below.refl _ _⟩
  have g : decide ((1048576 : Int) < (n : Int)) = false := by simp; omega
  go_enter Tryd.func3, Tryd.ntmps3
  go_wp2_with (fail)
  (go_at_call 16; refine (drawModeRange_any a n cap _ h hc hcap).mono ?_; rintro e w1 ⟨k, rfl, k0, k9, hb1⟩)
  clear h hc hcap g hn
  have HR := Lib.hid (fun W ht => modeRange_any k W ht)
  have HRs := Lib.hid (fun W => sModeRange_any k W)
  have HF := Lib.hid (fun W ht => modeFinal_any k W ht)
  have HN := Lib.hid (fun W ht => modeTenor_any k W ht)
  have HP := Lib.hid (fun W ht => modePair_any k W ht)
  have HR2 := Lib.hid (fun W ht => modeRange_any (mdP k) W ht)
  have HF2 := Lib.hid (fun W ht => modeFinal_any (mdP k) W ht)
  have HP2 := Lib.hid (fun W ht => modePair_any (mdP k) W ht)
  cases hv : mdv k
  · rw [hv] at HR HRs
    go_wp2_with (fail)
    (go_at_call 17; refine (HR.out _ (HT.out.below hb1)).mono ?_; rintro e w2 ⟨rfl, hb2⟩)
    go_wp2_with (fail)
    (go_at_call 18; refine (HRs.out _).mono ?_; rintro e w3 ⟨rfl, hb3⟩)
    go_wp2
    go_ret
    exact ⟨rfl, by (repeat' (first | (with_reducible assumption) | (with_reducible exact Below.refl _ _) | (with_reducible refine Below.alloc ?_ ?_ _) | (with_reducible refine Below.drew ?_) | (with_reducible refine bl_drewN ?_ _) | (with_reducible refine Below.setCell ?_ ?_ _) | (with_reducible refine bl_step ?_ (by assumption)) | go_size))⟩
  obtain ⟨_, _, _, _, hpp, hpf, _, hpv⟩ := md_in hv
  obtain ⟨f1, f2, f3, f4, f5⟩ := md_law hv
  rw [hpp] at HP2
  rw [hpf] at HF2
  rw [hpv] at HR2
  rw [hv] at HR HRs
  clear hpp hpf hpv hv
  generalize mdP k = p at HP HR2 HF2 HP2 f5
  generalize mdF k = F at HF HF2 f1 f2 f3
  generalize mdT k = T at HN f3 f4
  generalize mdL k = L at HR HRs f1 f5
  generalize mdH k = H at HR HRs f2 f4 f5
  generalize mdL p = Lp at HR2 f5
  generalize mdH p = Hp at HR2 f5
  go_wp2_with (fail)
  (go_at_call 17; refine (HR.out _ (HT.out.below hb1)).mono ?_; rintro e w2 ⟨rfl, hb2⟩)
  go_wp2_with (fail)
  (go_at_call 18; refine (HRs.out _).mono ?_; rintro e w3 ⟨rfl, hb3⟩)
  have c3 := bl_step (bl_step hb1 hb2) hb3
  go_wp2_with (fail)
  (go_at_call 19; refine (HP.out _ (HT.out.below c3)).mono ?_; rintro e w4 ⟨rfl, hb4⟩)
  have c4 := bl_step c3 hb4
  go_wp2_with (fail)
  (go_at_call 17; refine (HR2.out _ (HT.out.below c4)).mono ?_; rintro e w5 ⟨rfl, hb5⟩)
  have c5 := bl_step c4 hb5
  go_wp2_with (fail)
  (go_at_call 20; refine (HF.out _ (HT.out.below c5)).mono ?_; rintro e w6 ⟨rfl, hb6⟩)
  have c6 := bl_step c5 hb6
  go_wp2_with (fail)
  (go_at_call 21; refine (HN.out _ (HT.out.below c6)).mono ?_; rintro e w7 ⟨rfl, hb7⟩)
  have c7 := bl_step c6 hb7
  rcases f5 with ⟨g1, g2, g3⟩ | ⟨g1, g2, g3⟩
  all_goals
    have m1 : IntKind.i64.wrap (Hp - H) = Hp - H := IntWalk.i64_in _ (by omega)
    have m2 : IntKind.i64.wrap (Lp - L) = Lp - L := IntWalk.i64_in _ (by omega)
    go_wp2_with (fail)
    (go_at_call 19; refine (HP2.out _ (HT.out.below c7)).mono ?_; rintro e w8 ⟨rfl, hb8⟩)
    have c8 := bl_step c7 hb8
    go_wp2_with (fail)
    (go_at_call 20; refine (HF2.out _ (HT.out.below c8)).mono ?_; rintro e w9 ⟨rfl, hb9⟩)
    have c9 := bl_step c8 hb9
    go_wp2
    go_ret
    exact ⟨rfl, c9⟩

noncomputable def fnMode_world (os : Os) : World := { World.holding Tryd.prog os ⟨#[], #[], []⟩ with heap := ((World.holding Tryd.prog os ⟨#[], #[], []⟩).heap.modify 0 fun | .cells _ t frozen => .cells #[.int .i64 8, .int .i64 6, .int .i64 10, .int .i64 8, .int .i64 10, .int .i64 8, .int .i64 11, .int .i64 10] t frozen | o => o) }
theorem fnMode_met (os : Os) : laidMet Tryd.prog Rows.fnModeRow.laid ((fnMode_world os).forCall (fun _ _ => 0) ⟨#[], #[.slice none 0 0], []⟩).memory :=
  laidMet_of_run' 8 (by kernel_rfl) (by kernel_rfl)
theorem fnMode_reads (os : Os) {H : Type} (enc : TypeId × Value → H) : ∃ places, DataW.whole enc Tryd.prog ((fnMode_world os).forCall (fun _ _ => 0) ⟨#[], #[.slice none 0 0], []⟩).memory Tryd.f3.params.toList Rows.fnModeSpec.vars false (#[.slice none 0 0] : Array Value).toList 8 = some ([.nil], [Rows.laid_loop_example_neumes_impl_modeTenors], places) :=
  ⟨((DataW.whole enc Tryd.prog ((fnMode_world os).forCall (fun _ _ => 0) ⟨#[], #[.slice none 0 0], []⟩).memory Tryd.f3.params.toList Rows.fnModeSpec.vars false (#[.slice none 0 0] : Array Value).toList 8).getD ([], [], [])).2.2, by kernel_rfl⟩
set_option maxRecDepth 100000 in
theorem fnMode_lifted (os : Os) (started : os.Started) (H : Type) (enc : TypeId × Value → H) (F : Stop.Interp) :
    ReturnsInHanded {} Tryd.checked os 3 .any ((OpenSpec.ofChange Rows.fnModeSpec).preRow enc Tryd.prog Tryd.f3 Rows.fnModeRow.domain false Rows.fnModeRow.laid) (((OpenSpec.ofChange Rows.fnModeSpec).at F).post enc Tryd.prog Tryd.f3 false true false false) := by
  obtain ⟨places, hx⟩ := fnMode_reads os enc
  refine returnsInHanded_of_row (C := Tryd.checked) (s := OpenSpec.ofChange Rows.fnModeSpec) own started (by kernel_rfl) Tryd.func3
    (witness_row_at (enc := enc) (C := Tryd.checked) false (fnMode_world os) #[.slice none 0 0] rfl (by kernel_rfl) (by kernel_rfl) (by kernel_rfl)
      (OpenSpec.preRow_of_cond 8 hx (by kernel_rfl) (fun k hk => by cases hk) (by kernel_rfl) (fnMode_met os))) ?_
  intro W base args ds gs before hval0 hW _ _ _ hL _ _
  have hval : ∀ (j : Nat) t v, Tryd.f3.params[j]? = some t → args[j]? = some v → Value.okWide Tryd.prog W .any base t v := hval0
  have hW' := hW
  obtain ⟨p, q, hA0, hV, rfl, _, _⟩ := hW
  have hA : DataW.TrodAll enc Tryd.prog W 0 (fun _ => true) true Tryd.f3.params.toList args.toList ds p := hA0
  rw [Tryd.params3] at hA hval
  obtain ⟨v0, vs0, d0, ds0, p0, q0, hargs, rfl, rfl, h0, r0⟩ := trodAll_cons hA
  obtain ⟨rfl, rfl, rfl⟩ := trodAll_nil r0
  obtain rfl : args = #[v0] := by cases args; simp_all
  obtain ⟨g0, rfl⟩ := vars1 hV
  obtain ⟨a0, n0, c0, rfl⟩ := okWide_slice Tryd.underlying22 (hval 0 22 v0 rfl rfl)
  have k0 := h0
  have lt0 : ∀ x ∈ p0, x.block < W.heap.size := by obtain ⟨m, hm⟩ := k0; exact DataW.trod_lt m _ _ _ hm
  have y0 := code_in h0
  clear hA0 hval0
  refine (fnMode_walk a0 n0 c0 W y0.1 y0.2.1 y0.2.2 (tenTab_at hL (.head _))).mono fun e W' ⟨he, hb⟩ => ?_
  subst he
  exact ⟨_, rfl, _, _, _, [], _, _, hW', trodAll_cons_mk (shut_bool Tryd.underlying4 _) trodAll_mk0, trodAll_cons_mk (Below.trod laidOut (by kernel_rfl) (of_decide_eq_true (by kernel_rfl)) k0 hb lt0) (trodAll_mk0), hb.trodVars laidOut (by kernel_rfl) hV, hb.frame _, fun h => by cases h⟩

theorem fnMode_holds : Rows.FnModeSaid :=
  OpenClaim.holds_of_cond 3 Tryd.f3 rfl rfl rfl rfl rfl rfl rfl ⟨rfl, rfl, rfl, rfl, rfl⟩ rfl rfl rfl rfl rfl (by kernel_rfl) Tryd.func3 (by kernel_rfl)
    (of_decide_eq_true (by kernel_rfl)) (by unfold Func.isWrapper; first | (rw [if_pos (by decide +kernel)]; kernel_rfl) | (rw [if_neg (by decide +kernel)]; exact ⟨rfl, rfl⟩))
    (fun os started H enc _ F => by rw [OpenClaim.pre_eq_preRow]; exact fnMode_lifted os started H enc F)
theorem fnMode_plain (f : FuncId) (fn : Func) (hf : Tryd.pinned.checked.prog.funcNamed "loop.example/neumes/laws.FnMode" = some f) (hfn : Tryd.pinned.checked.prog.funcs[f]? = some fn) :
    false = Tryd.pinned.checked.prog.looks [] ∧ ∀ (j : Nat) t, fn.params[j]? = some t → Tryd.pinned.checked.prog.wantsStandIn t = false := by
  obtain rfl : f = 3 := Option.some.inj ((show Tryd.prog.funcNamed "loop.example/neumes/laws.FnMode" = some 3 by kernel_rfl).symm.trans hf) |>.symm
  obtain rfl : fn = Tryd.f3 := (Option.some.inj (Tryd.func3.symm.trans hfn)).symm
  refine ⟨by kernel_rfl, fun j t ht => ?_⟩
  rw [Tryd.params3] at ht
  have hm := Array.mem_of_getElem? ht
  simp only [List.mem_toArray, List.mem_cons, List.not_mem_nil, or_false] at hm
  subst hm
  exact (show Tryd.prog.wantsStandIn _ = false by kernel_rfl)
/-- the card -/
theorem fnMode_card : Rows.FnModeCardSaid :=
  Claim7.holds_tied_plain_at .later [] _ _ _ _ fnMode_holds (fun _ h => by cases h) (by kernel_rfl) (fun _ h => by cases h) fnMode_row_tie rfl ⟨rfl, rfl⟩ (by kernel_rfl) rfl fnMode_plain (by kernel_rfl)

end Go.Proofs.YtmipkodgkldmbaaDoor
