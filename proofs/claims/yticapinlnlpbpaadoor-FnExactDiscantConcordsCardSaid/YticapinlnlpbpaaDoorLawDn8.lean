/-
  The exact law of DiscantConcords: for any two lists the function answers as its model, in memory of its own, and leaves its arguments alone.
-/
import Derived.Test.YticapinlnlpbpaaDoorCnp
import Derived.Test.YticapinlnlpbpaaDoorCnm
import Derived.Test.YticapinlnlpbpaaDoorVk
import Derived.Test.YticapinlnlpbpaaDoorLaidT
import Derived.Test.YticapinlnlpbpaaDoorOi
import Derived.Test.YticapinlnlpbpaaDoorOpen
import Derived.ChangeMaps5
import Derived.Deep.DeepRowAt
import Derived.Deep.DeepHandedRow
import Derived.OpenVars
import Derived.SevenTiedAt
import Derived.Test.YticapinlnlpbpaaDoorCards
import Derived.Test.YticapinlnlpbpaaDoorTie
namespace Go.Proofs.YticapinlnlpbpaaDoor
open Go.RowKit Go.ChangeShapes Go.WideShapes Go.ChangeAt
set_option maxRecDepth 100000
set_option linter.unusedVariables false

set_option maxHeartbeats 4000000 in
theorem Dn8_walk (a0 : Option Addr) (c0 : Nat) (xs : List Vc) (a1 : Option Addr) (c1 : Nat) (zs : List Vc) (w : World) (h0 : ArgV w a0 xs) (hc0 : xs.length ≤ c0) (hcap0 : c0 ≤ maxLen) (h1 : ArgV w a1 zs) (hc1 : zs.length ≤ c1) (hcap1 : c1 ≤ maxLen) (htab : TwoTab w) :
    Calls Tryd.prog 3 #[.slice a0 xs.length c0, .slice a1 zs.length c1] w fun e w' => e = .returned (.bool true) ∧ Below w.heap.size w w' := by
  unfold maxLen at hcap0
  unfold maxLen at hcap1
  by_cases hn0 : xs.length ≤ 1048576
  case neg =>
    have hbw0 : Below w.heap.size w w := Below.refl _ _
    have HS0 := Lib.hid (fun w => szVoice1_any a0 xs.length c0 (by omega) w)
    rw [if_neg hn0] at HS0
    clear h0
    clear h1
    go_enter Tryd.func3, Tryd.ntmps3
    go_wp2_with (fail)
    (go_at_call 12; refine (HS0.out _).mono ?_; rintro e wx ⟨rfl, rfl⟩)
    go_wp2
    go_ret
    exact ⟨rfl, hbw0⟩
  obtain ⟨L1, hL1⟩ : ∃ L : Nat, (1048576 : Int) - (xs.length : Int) = (L : Int) := ⟨1048576 - xs.length, by omega⟩
  have hLL1 : L1 ≤ 1048576 := by omega
  by_cases hn1 : zs.length ≤ L1
  case neg =>
    have hbw0 : Below w.heap.size w w := Below.refl _ _
    have HS0 := Lib.hid (fun w => szVoice1_any a0 xs.length c0 (by omega) w)
    rw [if_pos hn0] at HS0
    rw [hL1] at HS0
    have tz0 : decide ((L1 : Int) < 0) = false := decide_eq_false (by omega)
    have HS1 := Lib.hid (fun w => szVoice_any a1 zs.length c1 (by omega) L1 hLL1 w)
    rw [if_neg hn1] at HS1
    clear h0
    clear h1
    clear hL1
    go_enter Tryd.func3, Tryd.ntmps3
    go_wp2_with (fail)
    (go_at_call 12; refine (HS0.out _).mono ?_; rintro e wx ⟨rfl, rfl⟩)
    go_wp2_with (fail)
    (go_at_call 12; refine (HS1.out _).mono ?_; rintro e wx ⟨rfl, rfl⟩)
    go_wp2
    go_ret
    exact ⟨rfl, hbw0⟩
  have HS0 := Lib.hid (fun w => szVoice1_any a0 xs.length c0 (by omega) w)
  rw [if_pos hn0] at HS0
  rw [hL1] at HS0
  have tz0 : decide ((L1 : Int) < 0) = false := decide_eq_false (by omega)
  have HT0 := Lib.hid (fun w h => toVoiceS_any a0 c0 xs w h (by omega))
  have HA0 := Lib.hid h0
  have HS1 := Lib.hid (fun w => szVoice_any a1 zs.length c1 (by omega) L1 hLL1 w)
  rw [if_pos hn1] at HS1
  have tz1 : decide ((L1 : Int) - (zs.length : Int) < 0) = false := decide_eq_false (by omega)
  have HT1 := Lib.hid (fun w h => toVoiceS_any a1 c1 zs w h (by omega))
  have HA1 := Lib.hid h1
  have HTAB := Lib.hid htab
  clear htab
  have KS := Lib.hid (fun v u w h k => sDiscantConcords_any v u xs zs w h k)
  have KI := Lib.hid (fun v u w h k t => discantConcords_any v u xs zs w h k t)
  unfold IbMade at KS KI
  have hl : (dcc xs zs).length ≤ 10000000 := by have := dcc_len xs zs; omega
  obtain ⟨K0, hK0⟩ : ∃ K : Int, K = 1 + 3 * (xs.length : Int) := ⟨_, rfl⟩
  have lK0 : 1 ≤ K0 ∧ K0 ≤ 5000000 := by omega
  have nK0 : decide (K0 < 0) = false := decide_eq_false (by omega)
  have HM0 := Lib.hid (fun lo hi v w h => markVoiceS_any lo hi v xs 1 (by omega) (by omega) (by omega) w h)
  unfold VMarked at HM0
  rw [← hK0] at HM0
  obtain ⟨K1, hK1⟩ : ∃ K : Int, K = K0 + 3 * (zs.length : Int) := ⟨_, rfl⟩
  have lK1 : 1 ≤ K1 ∧ K1 ≤ 5000000 := by omega
  have nK1 : decide (K1 < 0) = false := decide_eq_false (by omega)
  have HM1 := Lib.hid (fun lo hi v w h => markVoiceS_any lo hi v zs K0 (by omega) (by omega) (by omega) w h)
  unfold VMarked at HM1
  rw [← hK1] at HM1
  generalize dcc xs zs = ys at KS KI hl
  obtain ⟨KG, hKG⟩ : ∃ K : Int, K = 1 + (ys.length : Int) := ⟨_, rfl⟩
  have lKG : 0 ≤ KG ∧ KG ≤ 50000000 := by omega
  have nKG : decide (KG < 0) = false := decide_eq_false (by omega)
  have HMG := Lib.hid (fun lo hi v w h => markIntO_any lo hi v ys 1 (by omega) (by omega) hl w h)
  rw [← hKG] at HMG
  have HHG := Lib.hid (fun lo hi v w h => heldIntO_any lo hi v 1 ys.length (by omega) (by omega) hl w h)
  rw [← hKG] at HHG
  clear h0
  clear h1
  clear hK0
  clear hK1
  clear hKG
  have hbw0 : Below w.heap.size w w := Below.refl _ _
  go_enter Tryd.func3, Tryd.ntmps3
  go_wp2_with (fail)
  (go_at_call 12; refine (HS0.out _).mono ?_; rintro e wx ⟨rfl, rfl⟩)
  go_wp2_with (fail)
  (go_at_call 12; refine (HS1.out _).mono ?_; rintro e wx ⟨rfl, rfl⟩)
  clear hL1
  go_wp2_with (fail)
  (go_at_call 14; refine (HT0.out _ (HA0.out.below hbw0)).mono ?_; rintro e w1 ⟨vp0, rfl, rp0, hb1⟩)
  have z1 := hb1.size
  have hbw1 := bl_step hbw0 hb1
  clear hb1
  go_wp2_with (fail)
  (go_at_call 14; refine (HT1.out _ (HA1.out.below hbw1)).mono ?_; rintro e w2 ⟨vp1, rfl, rp1, hb2⟩)
  have z2 := hb2.size
  have hbw2 := bl_step hbw1 hb2
  have rp0 := rp0.below hb2 (.inl (by omega))
  clear hb2
  go_wp2_with (fail)
  (go_at_call 13; refine (KS.out _ _ _ rp0.view rp1.view).mono ?_; rintro e w3 ⟨us, rfl, gs, hb3⟩)
  have z3 := hb3.size
  have hbw3 := bl_step hbw2 hb3
  have rp0 := rp0.below hb3 (.inl (by omega))
  have rp1 := rp1.below hb3 (.inl (by omega))
  clear hb3
  clear rp0
  clear rp1
  go_wp2_with (fail)
  (go_at_call 14; refine (HT0.out _ (HA0.out.below hbw3)).mono ?_; rintro e w4 ⟨vx0, rfl, rx0, hb4⟩)
  have z4 := hb4.size
  have hbw4 := bl_step hbw3 hb4
  have gs := gs.below hb4 (.inl (by omega))
  clear hb4
  go_wp2_with (fail)
  (go_at_call 14; refine (HT1.out _ (HA1.out.below hbw4)).mono ?_; rintro e w5 ⟨vx1, rfl, rx1, hb5⟩)
  have z5 := hb5.size
  have hbw5 := bl_step hbw4 hb5
  have gs := gs.below hb5 (.inl (by omega))
  have rx0 := rx0.below hb5 (.inl (by omega))
  clear hb5
  go_wp2_with (fail)
  (go_at_call 15; refine (KI.out _ _ _ rx0.view rx1.view (HTAB.out.below hbw5)).mono ?_; rintro e w6 ⟨ui, rfl, gi, hb6⟩)
  have z6 := hb6.size
  have hbw6 := bl_step hbw5 hb6
  have gs := gs.below hb6 (.inl (by omega))
  have rx0 := rx0.below hb6 (.inl (by omega))
  have rx1 := rx1.below hb6 (.inl (by omega))
  clear hb6
  go_wp2_with (fail)
  (go_at_call 16; refine (eqIntV_any _ _ ys _ gi.view gs.view).mono ?_; rintro e w7 ⟨rfl, hb7⟩)
  have z7 := hb7.size
  have hbw7 := bl_step hbw6 hb7
  have gs := gs.below hb7 (.inl (by omega))
  have rx0 := rx0.below hb7 (.inl (by omega))
  have rx1 := rx1.below hb7 (.inl (by omega))
  have gi := gi.below hb7 (.inl (by omega))
  clear hb7
  go_wp2_with (fail)
  (go_at_call 14; refine (HT0.out _ (HA0.out.below hbw7)).mono ?_; rintro e w8 ⟨vq0, rfl, rq0, hb8⟩)
  have z8 := hb8.size
  have hbw8 := bl_step hbw7 hb8
  have gs := gs.below hb8 (.inl (by omega))
  have rx0 := rx0.below hb8 (.inl (by omega))
  have rx1 := rx1.below hb8 (.inl (by omega))
  have gi := gi.below hb8 (.inl (by omega))
  clear hb8
  go_wp2_with (fail)
  (go_at_call 17; refine (eqVoiceV_any _ _ xs _ rx0.view rq0.view).mono ?_; rintro e w9 ⟨rfl, hb9⟩)
  have z9 := hb9.size
  have hbw9 := bl_step hbw8 hb9
  have gs := gs.below hb9 (.inl (by omega))
  have rx0 := rx0.below hb9 (.inl (by omega))
  have rx1 := rx1.below hb9 (.inl (by omega))
  have gi := gi.below hb9 (.inl (by omega))
  have rq0 := rq0.below hb9 (.inl (by omega))
  clear hb9
  clear rq0
  go_wp2_with (fail)
  (go_at_call 14; refine (HT1.out _ (HA1.out.below hbw9)).mono ?_; rintro e w10 ⟨vq1, rfl, rq1, hb10⟩)
  have z10 := hb10.size
  have hbw10 := bl_step hbw9 hb10
  have gs := gs.below hb10 (.inl (by omega))
  have rx0 := rx0.below hb10 (.inl (by omega))
  have rx1 := rx1.below hb10 (.inl (by omega))
  have gi := gi.below hb10 (.inl (by omega))
  clear hb10
  go_wp2_with (fail)
  (go_at_call 17; refine (eqVoiceV_any _ _ zs _ rx1.view rq1.view).mono ?_; rintro e w11 ⟨rfl, hb11⟩)
  have z11 := hb11.size
  have hbw11 := bl_step hbw10 hb11
  have gs := gs.below hb11 (.inl (by omega))
  have rx0 := rx0.below hb11 (.inl (by omega))
  have rx1 := rx1.below hb11 (.inl (by omega))
  have gi := gi.below hb11 (.inl (by omega))
  have rq1 := rq1.below hb11 (.inl (by omega))
  clear hb11
  clear rq1
  go_wp2_with (fail)
  (go_at_call 18; refine (HM0.out _ _ _ _ rx0).mono ?_; rintro e w12 ⟨rfl, hq12, ht12⟩)
  have z12 := ht12.size
  have hbw12 : Below w.heap.size w w12 := hbw11.trans (ht12.below (by omega) (by omega))
  have gs := gs.turned ht12 (.inl (by omega))
  have rx1 := rx1.turned ht12 (.inr (by omega))
  have gi := gi.turned ht12 (.inr (by omega))
  clear ht12
  clear hq12
  clear rx0
  go_wp2_with (fail)
  (go_at_call 18; refine (HM1.out _ _ _ _ rx1).mono ?_; rintro e w13 ⟨rfl, hq13, ht13⟩)
  have z13 := ht13.size
  have hbw13 : Below w.heap.size w w13 := hbw12.trans (ht13.below (by omega) (by omega))
  have gs := gs.turned ht13 (.inl (by omega))
  have gi := gi.turned ht13 (.inr (by omega))
  clear ht13
  clear hq13
  clear rx1
  go_wp2_with (fail)
  (go_at_call 16; refine (eqIntV_any _ _ ys _ gi.view gs.view).mono ?_; rintro e w14 ⟨rfl, hb14⟩)
  have z14 := hb14.size
  have hbw14 := bl_step hbw13 hb14
  have gs := gs.below hb14 (.inl (by omega))
  have gi := gi.below hb14 (.inl (by omega))
  clear hb14
  go_wp2_with (fail)
  (go_at_call 19; refine (HMG.out _ _ _ _ gi).mono ?_; rintro e w15 ⟨rfl, gq, ho15⟩)
  have ht15 := ho15.turned gi
  have z15 := ht15.size
  have hbw15 : Below w.heap.size w w15 := hbw14.trans (ht15.below (by omega) (by omega))
  have gs := gs.turned ht15 (.inl (by omega))
  clear ht15 ho15
  go_wp2_with (fail)
  (go_at_call 20; refine (HHG.out _ _ _ _ gq).mono ?_; rintro e wx ⟨rfl, rfl⟩)
  clear gi
  go_wp2_with (fail)
  (go_at_call 14; refine (HT0.out _ (HA0.out.below hbw15)).mono ?_; rintro e w16 ⟨vh0, rfl, rh0, hb16⟩)
  have z16 := hb16.size
  have hbw16 := bl_step hbw15 hb16
  have gs := gs.below hb16 (.inl (by omega))
  have gq := gq.below hb16 (.inl (by omega))
  clear hb16
  go_wp2_with (fail)
  (go_at_call 14; refine (HT1.out _ (HA1.out.below hbw16)).mono ?_; rintro e w17 ⟨vh1, rfl, rh1, hb17⟩)
  have z17 := hb17.size
  have hbw17 := bl_step hbw16 hb17
  have gs := gs.below hb17 (.inl (by omega))
  have gq := gq.below hb17 (.inl (by omega))
  have rh0 := rh0.below hb17 (.inl (by omega))
  clear hb17
  go_wp2_with (fail)
  (go_at_call 15; refine (KI.out _ _ _ rh0.view rh1.view (HTAB.out.below hbw17)).mono ?_; rintro e w18 ⟨uh, rfl, gh, hb18⟩)
  have z18 := hb18.size
  have hbw18 := bl_step hbw17 hb18
  have gs := gs.below hb18 (.inl (by omega))
  have gq := gq.below hb18 (.inl (by omega))
  have rh0 := rh0.below hb18 (.inl (by omega))
  have rh1 := rh1.below hb18 (.inl (by omega))
  clear hb18
  clear rh0
  clear rh1
  go_wp2_with (fail)
  (go_at_call 16; refine (eqIntV_any _ _ ys _ gh.view gs.view).mono ?_; rintro e w19 ⟨rfl, hb19⟩)
  have z19 := hb19.size
  have hbw19 := bl_step hbw18 hb19
  have gs := gs.below hb19 (.inl (by omega))
  have gq := gq.below hb19 (.inl (by omega))
  have gh := gh.below hb19 (.inl (by omega))
  clear hb19
  clear gs gh
  go_wp2_with (fail)
  (go_at_call 20; refine (HHG.out _ _ _ _ gq).mono ?_; rintro e wx ⟨rfl, rfl⟩)
  go_wp2
  go_ret
  exact ⟨rfl, hbw19⟩

noncomputable def fnExactDiscantConcords_world (os : Os) : World := { World.holding Tryd.prog os ⟨#[], #[], []⟩ with heap := ((((((World.holding Tryd.prog os ⟨#[], #[], []⟩).heap.modify 3 fun | .cells _ t frozen => .cells #[.int .u8 0, .int .u8 1, .int .u8 28, .int .u8 2, .int .u8 29, .int .u8 14, .int .u8 24, .int .u8 3, .int .u8 30, .int .u8 22, .int .u8 20, .int .u8 15, .int .u8 25, .int .u8 17, .int .u8 4, .int .u8 8, .int .u8 31, .int .u8 27, .int .u8 13, .int .u8 23, .int .u8 21, .int .u8 19, .int .u8 16, .int .u8 7, .int .u8 26, .int .u8 12, .int .u8 18, .int .u8 6, .int .u8 11, .int .u8 5, .int .u8 10, .int .u8 9] t frozen | o => o).modify 4 fun | .cells _ t frozen => .cells #[.int .u8 0, .int .u8 1, .int .u8 56, .int .u8 2, .int .u8 57, .int .u8 49, .int .u8 28, .int .u8 3, .int .u8 61, .int .u8 58, .int .u8 42, .int .u8 50, .int .u8 38, .int .u8 29, .int .u8 17, .int .u8 4, .int .u8 62, .int .u8 47, .int .u8 59, .int .u8 36, .int .u8 45, .int .u8 43, .int .u8 51, .int .u8 22, .int .u8 53, .int .u8 39, .int .u8 33, .int .u8 30, .int .u8 24, .int .u8 18, .int .u8 12, .int .u8 5, .int .u8 63, .int .u8 55, .int .u8 48, .int .u8 27, .int .u8 60, .int .u8 41, .int .u8 37, .int .u8 16, .int .u8 46, .int .u8 35, .int .u8 44, .int .u8 21, .int .u8 52, .int .u8 32, .int .u8 23, .int .u8 11, .int .u8 54, .int .u8 26, .int .u8 40, .int .u8 15, .int .u8 34, .int .u8 20, .int .u8 31, .int .u8 10, .int .u8 25, .int .u8 14, .int .u8 19, .int .u8 9, .int .u8 13, .int .u8 8, .int .u8 7, .int .u8 6] t frozen | o => o).modify 2 fun | .cells _ t frozen => .cells #[.int .u64 1, .int .u64 10, .int .u64 100, .int .u64 1000, .int .u64 10000, .int .u64 100000, .int .u64 1000000, .int .u64 10000000, .int .u64 100000000, .int .u64 1000000000, .int .u64 10000000000, .int .u64 100000000000, .int .u64 1000000000000, .int .u64 10000000000000, .int .u64 100000000000000, .int .u64 1000000000000000, .int .u64 10000000000000000, .int .u64 100000000000000000, .int .u64 1000000000000000000, .int .u64 10000000000000000000] t frozen | o => o).modify 1 fun | .cells _ t frozen => .cells #[.int .i64 0, .int .i64 2, .int .i64 4, .int .i64 5, .int .i64 7, .int .i64 9, .int .i64 10] t frozen | o => o).modify 0 fun | .cells _ t frozen => .cells #[.int .i64 0, .int .i64 1, .int .i64 3, .int .i64 5, .int .i64 7, .int .i64 8, .int .i64 10] t frozen | o => o) }
theorem fnExactDiscantConcords_met (os : Os) : laidMet Tryd.prog Rows.fnExactDiscantConcordsRow.laid ((fnExactDiscantConcords_world os).forCall (fun _ _ => 0) ⟨#[], #[.slice none 0 0, .slice none 0 0], []⟩).memory :=
  laidMet_of_run' 8 (by kernel_rfl) (by kernel_rfl)
theorem fnExactDiscantConcords_reads (os : Os) {H : Type} (enc : TypeId × Value → H) : ∃ places, DataW.whole enc Tryd.prog ((fnExactDiscantConcords_world os).forCall (fun _ _ => 0) ⟨#[], #[.slice none 0 0, .slice none 0 0], []⟩).memory Tryd.f3.params.toList Rows.fnExactDiscantConcordsSpec.vars false (#[.slice none 0 0, .slice none 0 0] : Array Value).toList 8 = some ([.nil, .nil], [Rows.laid_loop_example_neumes_impl_stepHeights, Rows.laid_loop_example_neumes_impl_leastSemis], places) :=
  ⟨((DataW.whole enc Tryd.prog ((fnExactDiscantConcords_world os).forCall (fun _ _ => 0) ⟨#[], #[.slice none 0 0, .slice none 0 0], []⟩).memory Tryd.f3.params.toList Rows.fnExactDiscantConcordsSpec.vars false (#[.slice none 0 0, .slice none 0 0] : Array Value).toList 8).getD ([], [], [])).2.2, by kernel_rfl⟩
set_option maxRecDepth 100000 in
theorem fnExactDiscantConcords_lifted (os : Os) (started : os.Started) (H : Type) (enc : TypeId × Value → H) (F : Stop.Interp) :
    ReturnsInHanded {} Tryd.checked os 3 .any ((OpenSpec.ofChange Rows.fnExactDiscantConcordsSpec).preRow enc Tryd.prog Tryd.f3 Rows.fnExactDiscantConcordsRow.domain false Rows.fnExactDiscantConcordsRow.laid) (((OpenSpec.ofChange Rows.fnExactDiscantConcordsSpec).at F).post enc Tryd.prog Tryd.f3 false true false false) := by
  obtain ⟨places, hx⟩ := fnExactDiscantConcords_reads os enc
  refine returnsInHanded_of_row (C := Tryd.checked) (s := OpenSpec.ofChange Rows.fnExactDiscantConcordsSpec) own started (by kernel_rfl) Tryd.func3
    (witness_row_at (enc := enc) (C := Tryd.checked) false (fnExactDiscantConcords_world os) #[.slice none 0 0, .slice none 0 0] rfl (by kernel_rfl) (by kernel_rfl) (by kernel_rfl)
      (OpenSpec.preRow_of_cond 8 hx (by kernel_rfl) (fun k hk => by cases hk) (by kernel_rfl) (fnExactDiscantConcords_met os))) ?_
  intro W base args ds gs before hval0 hW _ _ _ hL _ _
  have hval : ∀ (j : Nat) t v, Tryd.f3.params[j]? = some t → args[j]? = some v → Value.okWide Tryd.prog W .any base t v := hval0
  have hW' := hW
  obtain ⟨p, q, hA0, hV, rfl, _, _⟩ := hW
  have hA : DataW.TrodAll enc Tryd.prog W 0 (fun _ => true) true Tryd.f3.params.toList args.toList ds p := hA0
  rw [Tryd.params3] at hA hval
  obtain ⟨v0, vs0, d0, ds0, p0, q0, hargs, rfl, rfl, h0, r0⟩ := trodAll_cons hA
  obtain ⟨v1, vs1, d1, ds1, p1, q1, rfl, rfl, rfl, h1, r1⟩ := trodAll_cons r0
  obtain ⟨rfl, rfl, rfl⟩ := trodAll_nil r1
  obtain rfl : args = #[v0, v1] := by cases args; simp_all
  obtain ⟨g0, g1, rfl⟩ := vars2 hV
  obtain ⟨a0, n0, c0, rfl⟩ := okWide_slice Tryd.underlying22 (hval 0 22 v0 rfl rfl)
  have k0 := h0
  have lt0 : ∀ x ∈ p0, x.block < W.heap.size := by obtain ⟨m, hm⟩ := k0; exact DataW.trod_lt m _ _ _ hm
  obtain ⟨x0, rfl, y0, z0, u0⟩ := voices_in h0
  obtain ⟨a1, n1, c1, rfl⟩ := okWide_slice Tryd.underlying22 (hval 1 22 v1 rfl rfl)
  have k1 := h1
  have lt1 : ∀ x ∈ p1, x.block < W.heap.size := by obtain ⟨m, hm⟩ := k1; exact DataW.trod_lt m _ _ _ hm
  obtain ⟨x1, rfl, y1, z1, u1⟩ := voices_in h1
  clear hA0 hval0
  refine (Dn8_walk a0 c0 x0 a1 c1 x1 W y0 z0 u0 y1 z1 u1 (twoTab_at hL (.tail _ (.tail _ (.tail _ (.head _)))) (.tail _ (.tail _ (.tail _ (.tail _ (.head _))))))).mono fun e W' ⟨he, hb⟩ => ?_
  subst he
  exact ⟨_, rfl, _, _, _, [], _, _, hW', trodAll_cons_mk (shut_bool Tryd.underlying4 _) trodAll_mk0, trodAll_cons_mk (Below.trod laidOut (by kernel_rfl) (of_decide_eq_true (by kernel_rfl)) k0 hb lt0) (trodAll_cons_mk (Below.trod laidOut (by kernel_rfl) (of_decide_eq_true (by kernel_rfl)) k1 hb lt1) (trodAll_mk0)), hb.trodVars laidOut (by kernel_rfl) hV, hb.frame _, fun h => by cases h⟩


end Go.Proofs.YticapinlnlpbpaaDoor
