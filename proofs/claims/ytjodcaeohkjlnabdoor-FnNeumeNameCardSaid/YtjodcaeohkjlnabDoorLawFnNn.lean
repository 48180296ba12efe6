/-
  The law FnNeumeName: for every code, neumes have names.
-/
import Derived.Test.YtjodcaeohkjlnabDoorNeu
import Derived.Test.YtjodcaeohkjlnabDoorNci
import Derived.Test.YtjodcaeohkjlnabDoorCb
import Derived.Test.YtjodcaeohkjlnabDoorDrawC
import Derived.Test.YtjodcaeohkjlnabDoorCode
import Derived.Test.YtjodcaeohkjlnabDoorCards
import Derived.Test.YtjodcaeohkjlnabDoorTie
import Derived.Test.YtjodcaeohkjlnabDoorLaid1
namespace Go.Proofs.YtjodcaeohkjlnabDoor
open Go.RowKit Go.ChangeShapes Go.WideShapes Go.ChangeAt
set_option maxRecDepth 100000
set_option linter.unusedVariables false

theorem drawNeumeName_any (a : Option Addr) (n cap : Nat) (w : World) (h : CodeAt w a n) (hc : n ≤ cap) (hcap : cap ≤ maxLen) :
    Calls Tryd.prog 20 #[.slice a n cap] w (DrewCont 5 w) := by
  go_enter Tryd.func20, Tryd.ntmps20
  go_wp2_with (fail)
  (go_at_call 46; refine (open_any a n cap _ h hc hcap).mono ?_; rintro e w1 ⟨A, rfl, hr1, hb1, hs1⟩)
  go_wp2_with (fail)
  (go_at_call 57; refine (l91Contour_any w.heap.size A 0 4 (by omega) (by omega) _ hr1).mono ?_; rintro e w2 ⟨x, rfl, hx, hr2, hg2⟩)
  have HE : Hid (DrewCont 5 w (.returned (.string x)) w2) := ⟨x, rfl, hx, below_gb hb1 hg2 (Nat.le_refl _)⟩
  clear hr1 hr2 hg2
  go_wp2
  go_ret
  exact HE.out

theorem nnl_ne : ∀ l ∈ allC, nnl l ≠ [] := by decide +kernel
/-- names of neumes are equal just where the neumes are -/
theorem nnm_iff {s t : ByteArray} (hs : isn s = true) (ht : isn t = true) : ((nnm t).toList == (nnm s).toList) = (t.toList == s.toList) := by
  rw [nnm_yes hs, nnm_yes ht]
  simp only [ByteArray.toList_eq]
  rw [Bool.eq_iff_iff, beq_iff_eq, beq_iff_eq]
  exact ⟨fun h => nnl_inj _ (isn_mem ht) _ (isn_mem hs) (by simpa using h), fun h => by rw [h]⟩
theorem tnb_way {c : UInt8} (h : wayb c = true) : wayb (tnb c) = true := by
  rcases wayb3 h with rfl | rfl | rfl <;> decide
theorem isn_turn {s : ByteArray} (h : isn s = true) : isn (ctT s) = true ∧ isn (ctB s) = true := by
  obtain ⟨hc, hn⟩ := isn_in h
  obtain ⟨h23, ha⟩ := cv_in hc
  have hw : (s.data.toList.map tnb).all wayb = true := by
    rw [List.all_eq_true]
    intro c hcm
    obtain ⟨d, hd, rfl⟩ := List.mem_map.1 hcm
    exact tnb_way (List.all_eq_true.1 ha d hd)
  have hl : (s.data.toList.map tnb).length = s.size := by simp
  rw [ctT_yes hc, ctB_yes hc]
  constructor
  · refine isn_yes ?_ ?_
    · unfold cv
      rw [Bool.and_eq_true]
      exact ⟨by show decide ((s.data.toList.map tnb).toArray.size ≤ 23) = true; rw [List.size_toArray, hl]; simpa using h23, hw⟩
    · show (s.data.toList.map tnb).toArray.size ≤ 3
      rw [List.size_toArray, hl]; exact hn
  · refine isn_yes ?_ ?_
    · unfold cv
      rw [Bool.and_eq_true]
      refine ⟨by show decide ((s.data.toList.map tnb).reverse.toArray.size ≤ 23) = true; rw [List.size_toArray, List.length_reverse, hl]; simpa using h23, ?_⟩
      show (s.data.toList.map tnb).reverse.all wayb = true
      rw [List.all_reverse]; exact hw
    · show (s.data.toList.map tnb).reverse.toArray.size ≤ 3
      rw [List.size_toArray, List.length_reverse, hl]; exact hn

set_option maxHeartbeats 8000000 in
theorem fnNeumeName_walk (a : Option Addr) (n cap : Nat) (w : World) (h : CodeAt w a n) (hc : n ≤ cap) (hcap : cap ≤ maxLen) (ht : NeuTab w) :
    Calls Tryd.prog 4 #[.slice a n cap] w fun e w' => e = .returned (.bool true) ∧ Below w.heap.size w w' := by
  have HT := Lib.hid ht
  clear ht
  by_cases hn : 1048576 < n
  · have g : (1048576 : Int) < (n : Int) := by omega
    go_enter Tryd.func4, Tryd.ntmps4
    go_wp2
    go_ret
    exact ⟨rfl, Below.refl _ _⟩
  have g : decide ((1048576 : Int) < (n : Int)) = false := by simp; omega
  go_enter Tryd.func4, Tryd.ntmps4
  go_wp2_with (fail)
  (go_at_call 20; refine (drawNeumeName_any a n cap _ h hc hcap).mono ?_; rintro e w1 ⟨s, rfl, hs5, hb1⟩)
  clear h hc hcap g hn
  have KI := Lib.hid (fun W h => neumeName_any s W h)
  have KS := Lib.hid (sNeumeName_any s (by omega))
  by_cases hi : isn s = false
  · have KI0 := KI.out
    have KS0 := KS.out
    rw [nnm_no hi] at KI0 KS0
    have KI1 := Lib.hid KI0
    have KS1 := Lib.hid KS0
    clear KI0 KS0 KI KS hi
    go_wp2_with (fail)
    (go_at_call 21; refine (KI1.out _ (HT.out.below hb1)).mono ?_; rintro e w2 ⟨rfl, hb2⟩)
    go_wp2_with (fail)
    (go_at_call 22; refine (KS1.out _).mono ?_; rintro e w3 ⟨rfl, hb3⟩)
    go_wp2
    go_ret
    exact ⟨rfl, bl_step (bl_step hb1 hb2) hb3⟩
  rw [Bool.not_eq_false] at hi
  obtain ⟨hcv, _⟩ := isn_in hi
  obtain ⟨i1, i2⟩ := isn_turn hi
  have HE1 := Lib.hid (nnm_iff hi i1)
  have HE2 := Lib.hid (nnm_iff hi i2)
  have hne : (nnm s).toList.isEmpty = false := by
    rw [ByteArray.toList_eq, nnm_yes hi]
    have := nnl_ne _ (isn_mem hi)
    simpa using this
  have hnc : ncn (nnm s) = (s, true) := by
    have := ncn_hit (s := nnm s) (isn_mem hi) (by rw [nnm_yes hi])
    rw [this, ← show s = ⟨s.data.toList.toArray⟩ from str_mk s]
  have KC := fun W h => neumeContour_any (nnm s) W h
  rw [hnc] at KC
  have HKC := Lib.hid KC
  have KT := fun W => contourTurn_any s W
  have KB := fun W => contourBack_any s (by omega) W
  rw [hcv] at KT KB
  have HKT := Lib.hid KT
  have HKB := Lib.hid KB
  have KN1 := Lib.hid (fun W h => neumeName_any (ctT s) W h)
  have KN2 := Lib.hid (fun W h => neumeName_any (ctB s) W h)
  clear KC KT KB hnc i1 i2 hcv hi
  generalize nnm (ctT s) = n1 at HE1 KN1
  generalize nnm (ctB s) = n2 at HE2 KN2
  generalize ctT s = t at HE1 KN1 HKT
  generalize ctB s = u at HE2 KN2 HKB
  generalize nnm s = o at HE1 HE2 KI KS HKC hne
  have hoo : (o.toList == o.toList) = true := by simp
  have hss : (s.toList == s.toList) = true := by simp
  have g1 := HE1.out
  have g2 := HE2.out
  have hne2 : (o.toList == []) = false := by rw [beq_eq_false_iff_ne]; intro e; rw [e] at hne; cases hne
  clear HE1 HE2
  go_wp2_with (fail)
  (go_at_call 21; refine (KI.out _ (HT.out.below hb1)).mono ?_; rintro e w2 ⟨rfl, hb2⟩)
  have c2 := bl_step hb1 hb2
  go_wp2_with (fail)
  (go_at_call 22; refine (KS.out _).mono ?_; rintro e w3 ⟨rfl, hb3⟩)
  have c3 := bl_step c2 hb3
  go_wp2_with (fail)
  (go_at_call 23; refine (HKC.out _ (HT.out.below c3)).mono ?_; rintro e w4 ⟨rfl, hb4⟩)
  have c4 := bl_step c3 hb4
  go_wp2_with (fail)
  (go_at_call 24; refine (HKT.out _).mono ?_; rintro e w5 ⟨rfl, hb5⟩)
  have c5 := bl_step c4 hb5
  go_wp2_with (fail)
  (go_at_call 18; refine (HKB.out _).mono ?_; rintro e w6 ⟨rfl, hb6⟩)
  have c6 := bl_step c5 hb6
  go_wp2_with (fail)
  (go_at_call 21; refine (KN1.out _ (HT.out.below c6)).mono ?_; rintro e w7 ⟨rfl, hb7⟩)
  have c7 := bl_step c6 hb7
  go_wp2_with (fail)
  (go_at_call 21; refine (KN2.out _ (HT.out.below c7)).mono ?_; rintro e w8 ⟨rfl, hb8⟩)
  have c8 := bl_step c7 hb8
  go_wp2
  go_ret
  exact ⟨rfl, c8⟩

noncomputable def fnNeumeName_world (os : Os) : World := { World.holding Tryd.prog os ⟨#[], #[], []⟩ with heap := ((World.holding Tryd.prog os ⟨#[], #[], []⟩).heap.modify 0 fun | .cells _ t frozen => .cells #[.string ⟨#[]⟩, .string ⟨#[112, 117, 110, 99, 116, 117, 109]⟩, .string ⟨#[117]⟩, .string ⟨#[112, 101, 115]⟩, .string ⟨#[100]⟩, .string ⟨#[99, 108, 105, 118, 105, 115]⟩, .string ⟨#[117, 100]⟩, .string ⟨#[116, 111, 114, 99, 117, 108, 117, 115]⟩, .string ⟨#[100, 117]⟩, .string ⟨#[112, 111, 114, 114, 101, 99, 116, 117, 115]⟩, .string ⟨#[117, 117]⟩, .string ⟨#[115, 99, 97, 110, 100, 105, 99, 117, 115]⟩, .string ⟨#[100, 100]⟩, .string ⟨#[99, 108, 105, 109, 97, 99, 117, 115]⟩] t frozen | o => o) }
theorem fnNeumeName_met (os : Os) : laidMet Tryd.prog Rows.fnNeumeNameRow.laid ((fnNeumeName_world os).forCall (fun _ _ => 0) ⟨#[], #[.slice none 0 0], []⟩).memory :=
  laidMet_of_run' 8 (by kernel_rfl) (by kernel_rfl)
theorem fnNeumeName_reads (os : Os) {H : Type} (enc : TypeId × Value → H) : ∃ places, DataW.whole enc Tryd.prog ((fnNeumeName_world os).forCall (fun _ _ => 0) ⟨#[], #[.slice none 0 0], []⟩).memory Tryd.f4.params.toList Rows.fnNeumeNameSpec.vars false (#[.slice none 0 0] : Array Value).toList 8 = some ([.nil], [Rows.laid_loop_example_neumes_impl_neumes], places) :=
  ⟨((DataW.whole enc Tryd.prog ((fnNeumeName_world os).forCall (fun _ _ => 0) ⟨#[], #[.slice none 0 0], []⟩).memory Tryd.f4.params.toList Rows.fnNeumeNameSpec.vars false (#[.slice none 0 0] : Array Value).toList 8).getD ([], [], [])).2.2, by kernel_rfl⟩
set_option maxRecDepth 100000 in
theorem fnNeumeName_lifted (os : Os) (started : os.Started) (H : Type) (enc : TypeId × Value → H) (F : Stop.Interp) :
    ReturnsInHanded {} Tryd.checked os 4 .any ((OpenSpec.ofChange Rows.fnNeumeNameSpec).preRow enc Tryd.prog Tryd.f4 Rows.fnNeumeNameRow.domain false Rows.fnNeumeNameRow.laid) (((OpenSpec.ofChange Rows.fnNeumeNameSpec).at F).post enc Tryd.prog Tryd.f4 false true false false) := by
  obtain ⟨places, hx⟩ := fnNeumeName_reads os enc
  refine returnsInHanded_of_row (C := Tryd.checked) (s := OpenSpec.ofChange Rows.fnNeumeNameSpec) own started (by kernel_rfl) Tryd.func4
    (witness_row_at (enc := enc) (C := Tryd.checked) false (fnNeumeName_world os) #[.slice none 0 0] rfl (by kernel_rfl) (by kernel_rfl) (by kernel_rfl)
      (OpenSpec.preRow_of_cond 8 hx (by kernel_rfl) (fun k hk => by cases hk) (by kernel_rfl) (fnNeumeName_met os))) ?_
  intro W base args ds gs before hval0 hW _ _ _ hL _ _
  have hval : ∀ (j : Nat) t v, Tryd.f4.params[j]? = some t → args[j]? = some v → Value.okWide Tryd.prog W .any base t v := hval0
  have hW' := hW
  obtain ⟨p, q, hA0, hV, rfl, _, _⟩ := hW
  have hA : DataW.TrodAll enc Tryd.prog W 0 (fun _ => true) true Tryd.f4.params.toList args.toList ds p := hA0
  rw [Tryd.params4] at hA hval
  obtain ⟨v0, vs0, d0, ds0, p0, q0, hargs, rfl, rfl, h0, r0⟩ := trodAll_cons hA
  obtain ⟨rfl, rfl, rfl⟩ := trodAll_nil r0
  obtain rfl : args = #[v0] := by cases args; simp_all
  obtain ⟨g0, rfl⟩ := vars1 hV
  obtain ⟨a0, n0, c0, rfl⟩ := okWide_slice Tryd.underlying22 (hval 0 22 v0 rfl rfl)
  have k0 := h0
  have lt0 : ∀ x ∈ p0, x.block < W.heap.size := by obtain ⟨m, hm⟩ := k0; exact DataW.trod_lt m _ _ _ hm
  have y0 := code_in h0
  clear hA0 hval0
  refine (fnNeumeName_walk a0 n0 c0 W y0.1 y0.2.1 y0.2.2 (neuTab_at hL (.head _))).mono fun e W' ⟨he, hb⟩ => ?_
  subst he
  exact ⟨_, rfl, _, _, _, [], _, _, hW', trodAll_cons_mk (shut_bool Tryd.underlying4 _) trodAll_mk0, trodAll_cons_mk (Below.trod laidOut (by kernel_rfl) (of_decide_eq_true (by kernel_rfl)) k0 hb lt0) (trodAll_mk0), hb.trodVars laidOut (by kernel_rfl) hV, hb.frame _, fun h => by cases h⟩

theorem fnNeumeName_holds : Rows.FnNeumeNameSaid :=
  OpenClaim.holds_of_cond 4 Tryd.f4 rfl rfl rfl rfl rfl rfl rfl ⟨rfl, rfl, rfl, rfl, rfl⟩ rfl rfl rfl rfl rfl (by kernel_rfl) Tryd.func4 (by kernel_rfl)
    (of_decide_eq_true (by kernel_rfl)) (by unfold Func.isWrapper; first | (rw [if_pos (by decide +kernel)]; kernel_rfl) | (rw [if_neg (by decide +kernel)]; exact ⟨rfl, rfl⟩))
    (fun os started H enc _ F => by rw [OpenClaim.pre_eq_preRow]; exact fnNeumeName_lifted os started H enc F)
theorem fnNeumeName_plain (f : FuncId) (fn : Func) (hf : Tryd.pinned.checked.prog.funcNamed "loop.example/neumes/laws.FnNeumeName" = some f) (hfn : Tryd.pinned.checked.prog.funcs[f]? = some fn) :
    false = Tryd.pinned.checked.prog.looks [] ∧ ∀ (j : Nat) t, fn.params[j]? = some t → Tryd.pinned.checked.prog.wantsStandIn t = false := by
  obtain rfl : f = 4 := Option.some.inj ((show Tryd.prog.funcNamed "loop.example/neumes/laws.FnNeumeName" = some 4 by kernel_rfl).symm.trans hf) |>.symm
  obtain rfl : fn = Tryd.f4 := (Option.some.inj (Tryd.func4.symm.trans hfn)).symm
  refine ⟨by kernel_rfl, fun j t ht => ?_⟩
  rw [Tryd.params4] at ht
  have hm := Array.mem_of_getElem? ht
  simp only [List.mem_toArray, List.mem_cons, List.not_mem_nil, or_false] at hm
  subst hm
  exact (show Tryd.prog.wantsStandIn _ = false by kernel_rfl)
/-- the card -/
theorem fnNeumeName_card : Rows.FnNeumeNameCardSaid :=
  Claim7.holds_tied_plain_at .later [] _ _ _ _ fnNeumeName_holds (fun _ h => by cases h) (by kernel_rfl) (fun _ h => by cases h) fnNeumeName_row_tie rfl ⟨rfl, rfl⟩ (by kernel_rfl) rfl fnNeumeName_plain (by kernel_rfl)

end Go.Proofs.YtjodcaeohkjlnabDoor
