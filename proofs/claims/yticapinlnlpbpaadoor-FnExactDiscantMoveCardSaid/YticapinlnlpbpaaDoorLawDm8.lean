/-
  The exact law of DiscantMove: for every list and every number the function answers as its model, in memory of its own, and leaves its argument alone.
-/
import Derived.Test.YticapinlnlpbpaaDoorDmp
import Derived.Test.YticapinlnlpbpaaDoorDmq
import Derived.Test.YticapinlnlpbpaaDoorVk
import Derived.Test.YticapinlnlpbpaaDoorLaid
import Derived.Test.YticapinlnlpbpaaDoorOpen
import Derived.ChangeMaps5
import Derived.Deep.DeepRowAt
import Derived.Deep.DeepHandedRow
import Derived.OpenVars
import Derived.SevenTiedAt
import Derived.Test.YticapinlnlpbpaaDoorCards
import Derived.Test.YticapinlnlpbpaaDoorTie
namespace Go.Proofs.YticapinlnlpbpaaDoor
open Go.RowKit Go.ChangeShapes Go.WideShapes Go.ChangeAt
set_option maxRecDepth 100000
set_option linter.unusedVariables false

set_option maxHeartbeats 4000000 in
theorem Dm8_walk (a0 : Option Addr) (c0 : Nat) (xs : List Vc) (k : Int) (w : World) (h0 : ArgV w a0 xs) (hc0 : xs.length ≤ c0) (hcap0 : c0 ≤ maxLen) (hw1 : (Lit.int .i64 k).wf = true) (htab : StepTab w) :
    Calls Tryd.prog 6 #[.slice a0 xs.length c0, .int .i64 k] w fun e w' => e = .returned (.bool true) ∧ Below w.heap.size w w' := by
  unfold maxLen at hcap0
  by_cases hn0 : xs.length ≤ 1048576
  case neg =>
    have hbw0 : Below w.heap.size w w := Below.refl _ _
    have HS0 := Lib.hid (fun w => szVoice1_any a0 xs.length c0 (by omega) w)
    rw [if_neg hn0] at HS0
    clear h0
    go_enter Tryd.func6, Tryd.ntmps6
    go_wp2_with (fail)
    (go_at_call 12; refine (HS0.out _).mono ?_; rintro e wx ⟨rfl, rfl⟩)
    go_wp2
    go_ret
    exact ⟨rfl, hbw0⟩
  have HS0 := Lib.hid (fun w => szVoice1_any a0 xs.length c0 (by omega) w)
  rw [if_pos hn0] at HS0
  have tz0 : decide ((1048576 : Int) - (xs.length : Int) < 0) = false := decide_eq_false (by omega)
  have HT0 := Lib.hid (fun w h => toVoiceS_any a0 c0 xs w h (by omega))
  have HA0 := Lib.hid h0
  have HTAB := Lib.hid htab
  clear htab
  have KS := Lib.hid (fun v w h => sDiscantMove_any v k xs w h)
  have KI := Lib.hid (fun v w h t => discantMove_any v k xs w h t)
  unfold VBuilt2 at KS KI
  have hl : (dmL k xs).length ≤ 1048576 := by have := dmL_len k xs; omega
  generalize dmOk k xs = ok at KS KI
  obtain ⟨K0, hK0⟩ : ∃ K : Int, K = 1 + 3 * (xs.length : Int) := ⟨_, rfl⟩
  have lK0 : 1 ≤ K0 ∧ K0 ≤ 5000000 := by omega
  have nK0 : decide (K0 < 0) = false := decide_eq_false (by omega)
  have HM0 := Lib.hid (fun lo hi v w h => markVoiceS_any lo hi v xs 1 (by omega) (by omega) (by omega) w h)
  unfold VMarked at HM0
  rw [← hK0] at HM0
  generalize dmL k xs = ys at KS KI hl
  obtain ⟨KG, hKG⟩ : ∃ K : Int, K = 1 + 3 * (ys.length : Int) := ⟨_, rfl⟩
  have lKG : 0 ≤ KG ∧ KG ≤ 50000000 := by omega
  have nKG : decide (KG < 0) = false := decide_eq_false (by omega)
  have HMG := Lib.hid (fun lo hi v w h => markVoiceS_any lo hi v ys 1 (by omega) (by omega) hl w h)
  unfold VMarked at HMG
  rw [← hKG] at HMG
  have HHG := Lib.hid (fun lo hi v w h => heldVoiceS_any lo hi v 1 ys.length (by omega) (by omega) hl w h)
  rw [← hKG] at HHG
  clear h0
  clear hK0
  clear hKG
  have hbw0 : Below w.heap.size w w := Below.refl _ _
  go_enter Tryd.func6, Tryd.ntmps6
  go_wp2_with (fail)
  (go_at_call 12; refine (HS0.out _).mono ?_; rintro e wx ⟨rfl, rfl⟩)
  go_wp2_with (fail)
  (go_at_call 14; refine (HT0.out _ (HA0.out.below hbw0)).mono ?_; rintro e w1 ⟨vp0, rfl, rp0, hb1⟩)
  have z1 := hb1.size
  have hbw1 := bl_step hbw0 hb1
  clear hb1
  go_wp2_with (fail)
  (go_at_call 25; refine (KS.out _ _ rp0.view).mono ?_; rintro e w2 ⟨us, rfl, gs, hb2⟩)
  have z2 := hb2.size
  have hbw2 := bl_step hbw1 hb2
  have rp0 := rp0.below hb2 (.inl (by omega))
  clear hb2
  clear rp0
  go_wp2_with (fail)
  (go_at_call 14; refine (HT0.out _ (HA0.out.below hbw2)).mono ?_; rintro e w3 ⟨vx0, rfl, rx0, hb3⟩)
  have z3 := hb3.size
  have hbw3 := bl_step hbw2 hb3
  have gs := gs.below hb3 (.inl (by omega))
  clear hb3
  go_wp2_with (fail)
  (go_at_call 26; refine (KI.out _ _ rx0.view (HTAB.out.below hbw3)).mono ?_; rintro e w4 ⟨ui, rfl, gi, hb4⟩)
  have z4 := hb4.size
  have hbw4 := bl_step hbw3 hb4
  have gs := gs.below hb4 (.inl (by omega))
  have rx0 := rx0.below hb4 (.inl (by omega))
  clear hb4
  go_wp2_with (fail)
  (go_at_call 17; refine (eqVoiceV_any _ _ ys _ gi.view gs.view).mono ?_; rintro e w5 ⟨rfl, hb5⟩)
  have z5 := hb5.size
  have hbw5 := bl_step hbw4 hb5
  have gs := gs.below hb5 (.inl (by omega))
  have rx0 := rx0.below hb5 (.inl (by omega))
  have gi := gi.below hb5 (.inl (by omega))
  clear hb5
  go_wp2_with (fail)
  (go_at_call 14; refine (HT0.out _ (HA0.out.below hbw5)).mono ?_; rintro e w6 ⟨vq0, rfl, rq0, hb6⟩)
  have z6 := hb6.size
  have hbw6 := bl_step hbw5 hb6
  have gs := gs.below hb6 (.inl (by omega))
  have rx0 := rx0.below hb6 (.inl (by omega))
  have gi := gi.below hb6 (.inl (by omega))
  clear hb6
  go_wp2_with (fail)
  (go_at_call 17; refine (eqVoiceV_any _ _ xs _ rx0.view rq0.view).mono ?_; rintro e w7 ⟨rfl, hb7⟩)
  have z7 := hb7.size
  have hbw7 := bl_step hbw6 hb7
  have gs := gs.below hb7 (.inl (by omega))
  have rx0 := rx0.below hb7 (.inl (by omega))
  have gi := gi.below hb7 (.inl (by omega))
  have rq0 := rq0.below hb7 (.inl (by omega))
  clear hb7
  clear rq0
  go_wp2_with (fail)
  (go_at_call 18; refine (HM0.out _ _ _ _ rx0).mono ?_; rintro e w8 ⟨rfl, hq8, ht8⟩)
  have z8 := ht8.size
  have hbw8 : Below w.heap.size w w8 := hbw7.trans (ht8.below (by omega) (by omega))
  have gs := gs.turned ht8 (.inl (by omega))
  have gi := gi.turned ht8 (.inr (by omega))
  clear ht8
  clear hq8
  clear rx0
  go_wp2_with (fail)
  (go_at_call 17; refine (eqVoiceV_any _ _ ys _ gi.view gs.view).mono ?_; rintro e w9 ⟨rfl, hb9⟩)
  have z9 := hb9.size
  have hbw9 := bl_step hbw8 hb9
  have gs := gs.below hb9 (.inl (by omega))
  have gi := gi.below hb9 (.inl (by omega))
  clear hb9
  go_wp2_with (fail)
  (go_at_call 18; refine (HMG.out _ _ _ _ gi).mono ?_; rintro e w10 ⟨rfl, gq, ht10⟩)
  have z10 := ht10.size
  have hbw10 : Below w.heap.size w w10 := hbw9.trans (ht10.below (by omega) (by omega))
  have gs := gs.turned ht10 (.inl (by omega))
  clear ht10
  go_wp2_with (fail)
  (go_at_call 27; refine (HHG.out _ _ _ _ gq).mono ?_; rintro e wx ⟨rfl, rfl⟩)
  clear gi
  go_wp2_with (fail)
  (go_at_call 14; refine (HT0.out _ (HA0.out.below hbw10)).mono ?_; rintro e w11 ⟨vh0, rfl, rh0, hb11⟩)
  have z11 := hb11.size
  have hbw11 := bl_step hbw10 hb11
  have gs := gs.below hb11 (.inl (by omega))
  have gq := gq.below hb11 (.inl (by omega))
  clear hb11
  go_wp2_with (fail)
  (go_at_call 26; refine (KI.out _ _ rh0.view (HTAB.out.below hbw11)).mono ?_; rintro e w12 ⟨uh, rfl, gh, hb12⟩)
  have z12 := hb12.size
  have hbw12 := bl_step hbw11 hb12
  have gs := gs.below hb12 (.inl (by omega))
  have gq := gq.below hb12 (.inl (by omega))
  have rh0 := rh0.below hb12 (.inl (by omega))
  clear hb12
  clear rh0
  go_wp2_with (fail)
  (go_at_call 17; refine (eqVoiceV_any _ _ ys _ gh.view gs.view).mono ?_; rintro e w13 ⟨rfl, hb13⟩)
  have z13 := hb13.size
  have hbw13 := bl_step hbw12 hb13
  have gs := gs.below hb13 (.inl (by omega))
  have gq := gq.below hb13 (.inl (by omega))
  have gh := gh.below hb13 (.inl (by omega))
  clear hb13
  clear gs gh
  go_wp2_with (fail)
  (go_at_call 27; refine (HHG.out _ _ _ _ gq).mono ?_; rintro e wx ⟨rfl, rfl⟩)
  go_wp2
  go_ret
  exact ⟨rfl, hbw13⟩

noncomputable def fnExactDiscantMove_world (os : Os) : World := { World.holding Tryd.prog os ⟨#[], #[], []⟩ with heap := ((World.holding Tryd.prog os ⟨#[], #[], []⟩).heap.modify 1 fun | .cells _ t frozen => .cells #[.int .i64 0, .int .i64 2, .int .i64 4, .int .i64 5, .int .i64 7, .int .i64 9, .int .i64 10] t frozen | o => o) }
theorem fnExactDiscantMove_met (os : Os) : laidMet Tryd.prog Rows.fnExactDiscantMoveRow.laid ((fnExactDiscantMove_world os).forCall (fun _ _ => 0) ⟨#[], #[.slice none 0 0, .int .i64 0], []⟩).memory :=
  laidMet_of_run' 8 (by kernel_rfl) (by kernel_rfl)
theorem fnExactDiscantMove_reads (os : Os) {H : Type} (enc : TypeId × Value → H) : ∃ places, DataW.whole enc Tryd.prog ((fnExactDiscantMove_world os).forCall (fun _ _ => 0) ⟨#[], #[.slice none 0 0, .int .i64 0], []⟩).memory Tryd.f6.params.toList Rows.fnExactDiscantMoveSpec.vars false (#[.slice none 0 0, .int .i64 0] : Array Value).toList 8 = some ([.nil, .lit (.int .i64 0)], [Rows.laid_loop_example_neumes_impl_stepHeights], places) :=
  ⟨((DataW.whole enc Tryd.prog ((fnExactDiscantMove_world os).forCall (fun _ _ => 0) ⟨#[], #[.slice none 0 0, .int .i64 0], []⟩).memory Tryd.f6.params.toList Rows.fnExactDiscantMoveSpec.vars false (#[.slice none 0 0, .int .i64 0] : Array Value).toList 8).getD ([], [], [])).2.2, by kernel_rfl⟩
set_option maxRecDepth 100000 in
theorem fnExactDiscantMove_lifted (os : Os) (started : os.Started) (H : Type) (enc : TypeId × Value → H) (F : Stop.Interp) :
    ReturnsInHanded {} Tryd.checked os 6 .any ((OpenSpec.ofChange Rows.fnExactDiscantMoveSpec).preRow enc Tryd.prog Tryd.f6 Rows.fnExactDiscantMoveRow.domain false Rows.fnExactDiscantMoveRow.laid) (((OpenSpec.ofChange Rows.fnExactDiscantMoveSpec).at F).post enc Tryd.prog Tryd.f6 false true false false) := by
  obtain ⟨places, hx⟩ := fnExactDiscantMove_reads os enc
  refine returnsInHanded_of_row (C := Tryd.checked) (s := OpenSpec.ofChange Rows.fnExactDiscantMoveSpec) own started (by kernel_rfl) Tryd.func6
    (witness_row_at (enc := enc) (C := Tryd.checked) false (fnExactDiscantMove_world os) #[.slice none 0 0, .int .i64 0] rfl (by kernel_rfl) (by kernel_rfl) (by kernel_rfl)
      (OpenSpec.preRow_of_cond 8 hx (by kernel_rfl) (fun k hk => by cases hk) (by kernel_rfl) (fnExactDiscantMove_met os))) ?_
  intro W base args ds gs before hval0 hW _ _ _ hL _ _
  have hval : ∀ (j : Nat) t v, Tryd.f6.params[j]? = some t → args[j]? = some v → Value.okWide Tryd.prog W .any base t v := hval0
  have hW' := hW
  obtain ⟨p, q, hA0, hV, rfl, _, _⟩ := hW
  have hA : DataW.TrodAll enc Tryd.prog W 0 (fun _ => true) true Tryd.f6.params.toList args.toList ds p := hA0
  rw [Tryd.params6] at hA hval
  obtain ⟨v0, vs0, d0, ds0, p0, q0, hargs, rfl, rfl, h0, r0⟩ := trodAll_cons hA
  obtain ⟨v1, vs1, d1, ds1, p1, q1, rfl, rfl, rfl, h1, r1⟩ := trodAll_cons r0
  obtain ⟨rfl, rfl, rfl⟩ := trodAll_nil r1
  obtain rfl : args = #[v0, v1] := by cases args; simp_all
  obtain ⟨g0, rfl⟩ := vars1 hV
  obtain ⟨a0, n0, c0, rfl⟩ := okWide_slice Tryd.underlying22 (hval 0 22 v0 rfl rfl)
  have k0 := h0
  have lt0 : ∀ x ∈ p0, x.block < W.heap.size := by obtain ⟨m, hm⟩ := k0; exact DataW.trod_lt m _ _ _ hm
  obtain ⟨x0, rfl, y0, z0, u0⟩ := voices_in h0
  obtain ⟨x1, rfl, rfl, rfl, y1⟩ := open_int Tryd.underlying3 (hval 1 3 v1 rfl rfl) h1
  clear hA0 hval0
  refine (Dm8_walk a0 c0 x0 x1 W y0 z0 u0 y1 (stepTab hL)).mono fun e W' ⟨he, hb⟩ => ?_
  subst he
  exact ⟨_, rfl, _, _, _, [], _, _, hW', trodAll_cons_mk (shut_bool Tryd.underlying4 _) trodAll_mk0, trodAll_cons_mk (Below.trod laidOut (by kernel_rfl) (of_decide_eq_true (by kernel_rfl)) k0 hb lt0) (trodAll_cons_mk (shut_int Tryd.underlying3 y1) (trodAll_mk0)), hb.trodVars laidOut (by kernel_rfl) hV, hb.frame _, fun h => by cases h⟩


end Go.Proofs.YticapinlnlpbpaaDoor
