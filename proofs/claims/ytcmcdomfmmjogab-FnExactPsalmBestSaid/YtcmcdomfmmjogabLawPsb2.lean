/-
  The exact law of PsalmBest: for every list of psalm tones and every text the function answers as its model, and leaves its arguments alone.
-/
import Derived.Test.YtcmcdomfmmjogabPsl4
import Derived.ChangeMaps5
import Derived.Deep.DeepRowAt
import Derived.Deep.DeepHandedRow
import Derived.Deep.RegionHeld3
import Derived.OpenVars
namespace Go.Proofs.Ytcmcdomfmmjogab
open Go.RowKit Go.ChangeShapes Go.WideShapes Go.ChangeAt Go.ChangeMaps
set_option maxRecDepth 100000
set_option linter.unusedVariables false

set_option maxHeartbeats 4000000 in
theorem Psb2_walk (a : Option Addr) (c : Nat) (ps : List Psa) (s : ByteArray) (hs0 : s.size ≤ maxLen) (w : World) (h : PLst ArgL w a ps) (hc1 : ps.length ≤ c) (hc2 : c ≤ maxLen) (hm : MaxAt w) :
    Calls Try.prog 3 #[.slice a ps.length c, .string s] w fun e w' => e = .returned (.bool true) ∧ Below w.heap.size w w' := by
  have hc3 := hc2
  unfold maxLen at hs0 hc3
  by_cases hbig : 1048576 < s.size
  · have g : (1048576 : Int) < (s.size : Int) := by omega
    clear h hm
    go_enter Try.func3, Try.ntmps3
    go_wp2
    go_ret
    exact ⟨rfl, by (repeat' (first | (with_reducible exact Below.refl _ _) | (with_reducible refine Below.alloc ?_ ?_ _) | (with_reducible refine Below.drew ?_) | (with_reducible refine Below.setCell ?_ ?_ _) | (with_reducible refine bl_step ?_ (by assumption)) | go_size))⟩
  have gb : decide ((1048576 : Int) < (s.size : Int)) = false := decide_eq_false (by omega)
  have gb2 : decide (1048576 < s.size) = false := decide_eq_false hbig
  have KZ := Lib.hid (szPsalmS_any a c ps w h hc1 hc2)
  by_cases hn : ps.length + szp ps ≤ 1048576
  case neg =>
    rw [if_neg hn] at KZ
    clear h hn hm
    go_enter Try.func3, Try.ntmps3
    go_wp2_with (fail)
    (go_at_call 5; refine (KZ.out).mono ?_; rintro e w1 ⟨rfl, hb1⟩)
    go_wp2
    go_ret
    exact ⟨rfl, hb1⟩
  rw [if_pos hn] at KZ
  obtain ⟨Z, hZ⟩ : ∃ Z : Nat, (1048576 : Int) - ((ps.length + szp ps : Nat) : Int) = (Z : Int) := ⟨1048576 - (ps.length + szp ps), by omega⟩
  rw [hZ] at KZ
  have gz : decide ((Z : Int) < 0) = false := decide_eq_false (by omega)
  have KT := Lib.hid (fun W (hb : Below w.heap.size w W) => toPsalmS_any a c ps W (argPs_below h hb) hn)
  have HM := Lib.hid (fun W (hb : Below w.heap.size w W) => hm.below hb)
  have KE := Lib.hid (fun v u W h k => eqPsalmS_yes v u ps W h k)
  have KS := Lib.hid (fun v W h => sPsalmBest_any v ps s (by omega) W h)
  have KI := Lib.hid (fun v W (hb : Below w.heap.size w W) h => psalmBest_any v ps s (by omega) W h (HM.out W hb))
  generalize pB ps s = r at KS KI
  obtain ⟨r1, r2⟩ := r
  clear h hZ hm hn
  go_enter Try.func3, Try.ntmps3
  go_wp2_with (fail)
  (go_at_call 5; refine (KZ.out).mono ?_; rintro e w1 ⟨rfl, hbw1⟩)
  go_wp2_with (fail)
  (go_at_call 7; refine (KT.out _ hbw1).mono ?_; rintro e w2 ⟨va, rfl, ra, hb2⟩)
  have hbw2 := bl_step hbw1 hb2
  clear hb2
  go_wp2_with (fail)
  (go_at_call 6; refine (KS.out _ _ ra).mono ?_; rintro e w3 ⟨rfl, hb3⟩)
  have hbw3 := bl_step hbw2 hb3
  clear hb3 ra
  go_wp2_with (fail)
  (go_at_call 7; refine (KT.out _ hbw3).mono ?_; rintro e w4 ⟨vx, rfl, rx, hb4⟩)
  have hbw4 := bl_step hbw3 hb4
  clear hb4
  go_wp2_with (fail)
  (go_at_call 8; refine (KI.out _ _ hbw4 rx).mono ?_; rintro e w5 ⟨rfl, hb5⟩)
  have hbw5 := bl_step hbw4 hb5
  have rx5 := rx.below hb5
  clear hb5 rx
  go_wp2_with (fail)
  (go_at_call 7; refine (KT.out _ hbw5).mono ?_; rintro e w6 ⟨vy, rfl, ry, hb6⟩)
  have hbw6 := bl_step hbw5 hb6
  have rx6 := rx5.below hb6
  clear hb6 rx5
  go_wp2_with (fail)
  (go_at_call 9; refine (KE.out _ _ _ rx6 ry).mono ?_; rintro e w7 ⟨rfl, hb7⟩)
  have hbw7 := bl_step hbw6 hb7
  go_wp2
  go_ret
  exact ⟨rfl, hbw7⟩

noncomputable def fnExactPsalmBest_world (os : Os) : World := { World.holding Try.prog os ⟨#[], #[], []⟩ with heap := (World.holding Try.prog os ⟨#[], #[], []⟩).heap }
theorem fnExactPsalmBest_met (os : Os) : laidMet Try.prog Rows.fnExactPsalmBestRow.laid ((fnExactPsalmBest_world os).forCall (fun _ _ => 0) ⟨#[], #[.slice none 0 0, .string ⟨#[]⟩], []⟩).memory :=
  laidMet_of_run' 8 (by kernel_rfl) (by kernel_rfl)
theorem fnExactPsalmBest_reads (os : Os) {H : Type} (enc : TypeId × Value → H) : ∃ places, DataW.whole enc Try.prog ((fnExactPsalmBest_world os).forCall (fun _ _ => 0) ⟨#[], #[.slice none 0 0, .string ⟨#[]⟩], []⟩).memory Try.f3.params.toList Rows.fnExactPsalmBestSpec.vars false (#[.slice none 0 0, .string ⟨#[]⟩] : Array Value).toList 8 = some ([.nil, .lit (.string [])], [], places) :=
  ⟨((DataW.whole enc Try.prog ((fnExactPsalmBest_world os).forCall (fun _ _ => 0) ⟨#[], #[.slice none 0 0, .string ⟨#[]⟩], []⟩).memory Try.f3.params.toList Rows.fnExactPsalmBestSpec.vars false (#[.slice none 0 0, .string ⟨#[]⟩] : Array Value).toList 8).getD ([], [], [])).2.2, by kernel_rfl⟩
set_option maxRecDepth 100000 in
theorem fnExactPsalmBest_lifted (os : Os) (started : os.Started) (H : Type) (enc : TypeId × Value → H) (F : Stop.Interp) :
    ReturnsInHanded {} Try.checked os 3 .any ((OpenSpec.ofChange Rows.fnExactPsalmBestSpec).preRow enc Try.prog Try.f3 Rows.fnExactPsalmBestRow.domain false Rows.fnExactPsalmBestRow.laid) (((OpenSpec.ofChange Rows.fnExactPsalmBestSpec).at F).post enc Try.prog Try.f3 false true false false) := by
  obtain ⟨places, hx⟩ := fnExactPsalmBest_reads os enc
  refine returnsInHanded_of_row (C := Try.checked) (s := OpenSpec.ofChange Rows.fnExactPsalmBestSpec) own started (by kernel_rfl) Try.func3
    (witness_row_at (enc := enc) (C := Try.checked) false (fnExactPsalmBest_world os) #[.slice none 0 0, .string ⟨#[]⟩] rfl (by kernel_rfl) (by kernel_rfl) (by kernel_rfl)
      (OpenSpec.preRow_of_cond 8 hx (by kernel_rfl) (fun k hk => by cases hk) (by kernel_rfl) (fnExactPsalmBest_met os))) ?_
  intro W base args ds gs before hval0 hW _ _ _ hL hSh _
  have hval : ∀ (j : Nat) t v, Try.f3.params[j]? = some t → args[j]? = some v → Value.okWide Try.prog W .any base t v := hval0
  have hW' := hW
  obtain ⟨p, q, hA0, hV, rfl, _, _⟩ := hW
  have hA : DataW.TrodAll enc Try.prog W 0 (fun _ => true) true Try.f3.params.toList args.toList ds p := hA0
  rw [Try.params3] at hA hval
  obtain ⟨v0, vs0, d0, ds0, p0, q0, hargs, rfl, rfl, h0, r0⟩ := trodAll_cons hA
  obtain ⟨v1, vs1, d1, ds1, p1, q1, rfl, rfl, rfl, h1, r1⟩ := trodAll_cons r0
  obtain ⟨rfl, rfl, rfl⟩ := trodAll_nil r1
  obtain rfl : args = #[v0, v1] := by cases args; simp_all
  obtain ⟨rfl, rfl⟩ := trodVars_none hV
  obtain ⟨a0, n0, c0, rfl⟩ := okWide_slice Try.underlying22 (hval 0 22 v0 rfl rfl)
  have k0 := h0
  have lt0 : ∀ x ∈ p0, x.block < W.heap.size := by obtain ⟨m, hm⟩ := k0; exact DataW.trod_lt m _ _ _ hm
  obtain ⟨x0, rfl, y0, z0, u0⟩ := psalms_in h0
  obtain ⟨x1, rfl, rfl, rfl, y1⟩ := open_string Try.underlying9 (hval 1 9 v1 rfl rfl) h1
  clear hA0 hval0
  refine (Psb2_walk a0 c0 x0 x1 y1 W y0 z0 u0 (Try.laysM145.s1_3 W hSh)).mono fun e W' ⟨he, hb⟩ => ?_
  subst he
  exact ⟨_, rfl, _, _, _, [], _, [], hW', trodAll_cons_mk (shut_bool Try.underlying4 _) trodAll_mk0, trodAll_cons_mk (Below.trod laidOut (by kernel_rfl) (of_decide_eq_true (by kernel_rfl)) k0 hb lt0) (trodAll_cons_mk (shut_string Try.underlying9 y1) (trodAll_mk0)), rfl, hb.frame _, fun h => by cases h⟩


end Go.Proofs.Ytcmcdomfmmjogab
