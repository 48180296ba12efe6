/-
  The exact law of DiscantParallels: for any two lists the function answers as its model, and leaves its arguments alone.
-/
import Derived.Test.YticapinlnlpbpaaDoorCnp
import Derived.Test.YticapinlnlpbpaaDoorCnm
import Derived.Test.YticapinlnlpbpaaDoorVk
import Derived.Test.YticapinlnlpbpaaDoorLaidT
import Derived.Test.YticapinlnlpbpaaDoorOpen
import Derived.ChangeMaps5
import Derived.Deep.DeepRowAt
import Derived.Deep.DeepHandedRow
import Derived.OpenVars
import Derived.SevenTiedAt
import Derived.Test.YticapinlnlpbpaaDoorCards
import Derived.Test.YticapinlnlpbpaaDoorTie
namespace Go.Proofs.YticapinlnlpbpaaDoor
open Go.RowKit Go.ChangeShapes Go.WideShapes Go.ChangeAt
set_option maxRecDepth 100000
set_option linter.unusedVariables false

set_option maxHeartbeats 4000000 in
theorem Dp9_walk (a0 : Option Addr) (c0 : Nat) (xs : List Vc) (a1 : Option Addr) (c1 : Nat) (ys : List Vc) (w : World) (h0 : ArgV w a0 xs) (hc0 : xs.length ≤ c0) (hcap0 : c0 ≤ maxLen) (h1 : ArgV w a1 ys) (hc1 : ys.length ≤ c1) (hcap1 : c1 ≤ maxLen) (htab : TwoTab w) :
    Calls Tryd.prog 5 #[.slice a0 xs.length c0, .slice a1 ys.length c1] w fun e w' => e = .returned (.bool true) ∧ Below w.heap.size w w' := by
  unfold maxLen at hcap0
  unfold maxLen at hcap1
  by_cases hn0 : xs.length ≤ 1048576
  case neg =>
    have hbw0 : Below w.heap.size w w := Below.refl _ _
    have HS0 := Lib.hid (fun w => szVoice1_any a0 xs.length c0 (by omega) w)
    rw [if_neg hn0] at HS0
    clear h0
    clear h1
    go_enter Tryd.func5, Tryd.ntmps5
    go_wp2_with (fail)
    (go_at_call 12; refine (HS0.out _).mono ?_; rintro e wx ⟨rfl, rfl⟩)
    go_wp2
    go_ret
    exact ⟨rfl, hbw0⟩
  obtain ⟨L1, hL1⟩ : ∃ L : Nat, (1048576 : Int) - (xs.length : Int) = (L : Int) := ⟨1048576 - xs.length, by omega⟩
  have hLL1 : L1 ≤ 1048576 := by omega
  by_cases hn1 : ys.length ≤ L1
  case neg =>
    have hbw0 : Below w.heap.size w w := Below.refl _ _
    have HS0 := Lib.hid (fun w => szVoice1_any a0 xs.length c0 (by omega) w)
    rw [if_pos hn0] at HS0
    rw [hL1] at HS0
    have tz0 : decide ((L1 : Int) < 0) = false := decide_eq_false (by omega)
    have HS1 := Lib.hid (fun w => szVoice_any a1 ys.length c1 (by omega) L1 hLL1 w)
    rw [if_neg hn1] at HS1
    clear h0
    clear h1
    clear hL1
    go_enter Tryd.func5, Tryd.ntmps5
    go_wp2_with (fail)
    (go_at_call 12; refine (HS0.out _).mono ?_; rintro e wx ⟨rfl, rfl⟩)
    go_wp2_with (fail)
    (go_at_call 12; refine (HS1.out _).mono ?_; rintro e wx ⟨rfl, rfl⟩)
    go_wp2
    go_ret
    exact ⟨rfl, hbw0⟩
  have HS0 := Lib.hid (fun w => szVoice1_any a0 xs.length c0 (by omega) w)
  rw [if_pos hn0] at HS0
  rw [hL1] at HS0
  have tz0 : decide ((L1 : Int) < 0) = false := decide_eq_false (by omega)
  have HT0 := Lib.hid (fun w h => toVoiceS_any a0 c0 xs w h (by omega))
  have HA0 := Lib.hid h0
  have HS1 := Lib.hid (fun w => szVoice_any a1 ys.length c1 (by omega) L1 hLL1 w)
  rw [if_pos hn1] at HS1
  have tz1 : decide ((L1 : Int) - (ys.length : Int) < 0) = false := decide_eq_false (by omega)
  have HT1 := Lib.hid (fun w h => toVoiceS_any a1 c1 ys w h (by omega))
  have HA1 := Lib.hid h1
  have HTAB := Lib.hid htab
  clear htab
  have KS := Lib.hid (fun v u w h k => sDiscantParallels_any v u xs ys w h k)
  have KI := Lib.hid (fun v u w h k t => discantParallels_any v u xs ys w h k t)
  generalize dpl xs ys = b at KS KI
  clear h0
  clear h1
  have hbw0 : Below w.heap.size w w := Below.refl _ _
  go_enter Tryd.func5, Tryd.ntmps5
  go_wp2_with (fail)
  (go_at_call 12; refine (HS0.out _).mono ?_; rintro e wx ⟨rfl, rfl⟩)
  go_wp2_with (fail)
  (go_at_call 12; refine (HS1.out _).mono ?_; rintro e wx ⟨rfl, rfl⟩)
  clear hL1
  go_wp2_with (fail)
  (go_at_call 14; refine (HT0.out _ (HA0.out.below hbw0)).mono ?_; rintro e w1 ⟨vp0, rfl, rp0, hb1⟩)
  have z1 := hb1.size
  have hbw1 := bl_step hbw0 hb1
  clear hb1
  go_wp2_with (fail)
  (go_at_call 14; refine (HT1.out _ (HA1.out.below hbw1)).mono ?_; rintro e w2 ⟨vp1, rfl, rp1, hb2⟩)
  have z2 := hb2.size
  have hbw2 := bl_step hbw1 hb2
  have rp0 := rp0.below hb2 (.inl (by omega))
  clear hb2
  go_wp2_with (fail)
  (go_at_call 23; refine (KS.out _ _ _ rp0.view rp1.view).mono ?_; rintro e w3 ⟨rfl, hb3⟩)
  have z3 := hb3.size
  have hbw3 := bl_step hbw2 hb3
  have rp0 := rp0.below hb3 (.inl (by omega))
  have rp1 := rp1.below hb3 (.inl (by omega))
  clear hb3
  clear rp0
  clear rp1
  go_wp2_with (fail)
  (go_at_call 14; refine (HT0.out _ (HA0.out.below hbw3)).mono ?_; rintro e w4 ⟨vx0, rfl, rx0, hb4⟩)
  have z4 := hb4.size
  have hbw4 := bl_step hbw3 hb4
  clear hb4
  go_wp2_with (fail)
  (go_at_call 14; refine (HT1.out _ (HA1.out.below hbw4)).mono ?_; rintro e w5 ⟨vx1, rfl, rx1, hb5⟩)
  have z5 := hb5.size
  have hbw5 := bl_step hbw4 hb5
  have rx0 := rx0.below hb5 (.inl (by omega))
  clear hb5
  go_wp2_with (fail)
  (go_at_call 24; refine (KI.out _ _ _ rx0.view rx1.view (HTAB.out.below hbw5)).mono ?_; rintro e w6 ⟨rfl, hb6⟩)
  have z6 := hb6.size
  have hbw6 := bl_step hbw5 hb6
  have rx0 := rx0.below hb6 (.inl (by omega))
  have rx1 := rx1.below hb6 (.inl (by omega))
  clear hb6
  go_wp2_with (fail)
  (go_at_call 14; refine (HT0.out _ (HA0.out.below hbw6)).mono ?_; rintro e w7 ⟨vq0, rfl, rq0, hb7⟩)
  have z7 := hb7.size
  have hbw7 := bl_step hbw6 hb7
  have rx0 := rx0.below hb7 (.inl (by omega))
  have rx1 := rx1.below hb7 (.inl (by omega))
  clear hb7
  go_wp2_with (fail)
  (go_at_call 17; refine (eqVoiceV_any _ _ xs _ rx0.view rq0.view).mono ?_; rintro e w8 ⟨rfl, hb8⟩)
  have z8 := hb8.size
  have hbw8 := bl_step hbw7 hb8
  have rx0 := rx0.below hb8 (.inl (by omega))
  have rx1 := rx1.below hb8 (.inl (by omega))
  have rq0 := rq0.below hb8 (.inl (by omega))
  clear hb8
  clear rq0
  go_wp2_with (fail)
  (go_at_call 14; refine (HT1.out _ (HA1.out.below hbw8)).mono ?_; rintro e w9 ⟨vq1, rfl, rq1, hb9⟩)
  have z9 := hb9.size
  have hbw9 := bl_step hbw8 hb9
  have rx0 := rx0.below hb9 (.inl (by omega))
  have rx1 := rx1.below hb9 (.inl (by omega))
  clear hb9
  go_wp2_with (fail)
  (go_at_call 17; refine (eqVoiceV_any _ _ ys _ rx1.view rq1.view).mono ?_; rintro e w10 ⟨rfl, hb10⟩)
  have z10 := hb10.size
  have hbw10 := bl_step hbw9 hb10
  have rx0 := rx0.below hb10 (.inl (by omega))
  have rx1 := rx1.below hb10 (.inl (by omega))
  have rq1 := rq1.below hb10 (.inl (by omega))
  clear hb10
  clear rq1
  go_wp2
  go_ret
  exact ⟨rfl, hbw10⟩

noncomputable def fnExactDiscantParallels_world (os : Os) : World := { World.holding Tryd.prog os ⟨#[], #[], []⟩ with heap := ((((((World.holding Tryd.prog os ⟨#[], #[], []⟩).heap.modify 3 fun | .cells _ t frozen => .cells #[.int .u8 0, .int .u8 1, .int .u8 28, .int .u8 2, .int .u8 29, .int .u8 14, .int .u8 24, .int .u8 3, .int .u8 30, .int .u8 22, .int .u8 20, .int .u8 15, .int .u8 25, .int .u8 17, .int .u8 4, .int .u8 8, .int .u8 31, .int .u8 27, .int .u8 13, .int .u8 23, .int .u8 21, .int .u8 19, .int .u8 16, .int .u8 7, .int .u8 26, .int .u8 12, .int .u8 18, .int .u8 6, .int .u8 11, .int .u8 5, .int .u8 10, .int .u8 9] t frozen | o => o).modify 4 fun | .cells _ t frozen => .cells #[.int .u8 0, .int .u8 1, .int .u8 56, .int .u8 2, .int .u8 57, .int .u8 49, .int .u8 28, .int .u8 3, .int .u8 61, .int .u8 58, .int .u8 42, .int .u8 50, .int .u8 38, .int .u8 29, .int .u8 17, .int .u8 4, .int .u8 62, .int .u8 47, .int .u8 59, .int .u8 36, .int .u8 45, .int .u8 43, .int .u8 51, .int .u8 22, .int .u8 53, .int .u8 39, .int .u8 33, .int .u8 30, .int .u8 24, .int .u8 18, .int .u8 12, .int .u8 5, .int .u8 63, .int .u8 55, .int .u8 48, .int .u8 27, .int .u8 60, .int .u8 41, .int .u8 37, .int .u8 16, .int .u8 46, .int .u8 35, .int .u8 44, .int .u8 21, .int .u8 52, .int .u8 32, .int .u8 23, .int .u8 11, .int .u8 54, .int .u8 26, .int .u8 40, .int .u8 15, .int .u8 34, .int .u8 20, .int .u8 31, .int .u8 10, .int .u8 25, .int .u8 14, .int .u8 19, .int .u8 9, .int .u8 13, .int .u8 8, .int .u8 7, .int .u8 6] t frozen | o => o).modify 2 fun | .cells _ t frozen => .cells #[.int .u64 1, .int .u64 10, .int .u64 100, .int .u64 1000, .int .u64 10000, .int .u64 100000, .int .u64 1000000, .int .u64 10000000, .int .u64 100000000, .int .u64 1000000000, .int .u64 10000000000, .int .u64 100000000000, .int .u64 1000000000000, .int .u64 10000000000000, .int .u64 100000000000000, .int .u64 1000000000000000, .int .u64 10000000000000000, .int .u64 100000000000000000, .int .u64 1000000000000000000, .int .u64 10000000000000000000] t frozen | o => o).modify 1 fun | .cells _ t frozen => .cells #[.int .i64 0, .int .i64 2, .int .i64 4, .int .i64 5, .int .i64 7, .int .i64 9, .int .i64 10] t frozen | o => o).modify 0 fun | .cells _ t frozen => .cells #[.int .i64 0, .int .i64 1, .int .i64 3, .int .i64 5, .int .i64 7, .int .i64 8, .int .i64 10] t frozen | o => o) }
theorem fnExactDiscantParallels_met (os : Os) : laidMet Tryd.prog Rows.fnExactDiscantParallelsRow.laid ((fnExactDiscantParallels_world os).forCall (fun _ _ => 0) ⟨#[], #[.slice none 0 0, .slice none 0 0], []⟩).memory :=
  laidMet_of_run' 8 (by kernel_rfl) (by kernel_rfl)
theorem fnExactDiscantParallels_reads (os : Os) {H : Type} (enc : TypeId × Value → H) : ∃ places, DataW.whole enc Tryd.prog ((fnExactDiscantParallels_world os).forCall (fun _ _ => 0) ⟨#[], #[.slice none 0 0, .slice none 0 0], []⟩).memory Tryd.f5.params.toList Rows.fnExactDiscantParallelsSpec.vars false (#[.slice none 0 0, .slice none 0 0] : Array Value).toList 8 = some ([.nil, .nil], [Rows.laid_loop_example_neumes_impl_stepHeights, Rows.laid_loop_example_neumes_impl_leastSemis], places) :=
  ⟨((DataW.whole enc Tryd.prog ((fnExactDiscantParallels_world os).forCall (fun _ _ => 0) ⟨#[], #[.slice none 0 0, .slice none 0 0], []⟩).memory Tryd.f5.params.toList Rows.fnExactDiscantParallelsSpec.vars false (#[.slice none 0 0, .slice none 0 0] : Array Value).toList 8).getD ([], [], [])).2.2, by kernel_rfl⟩
set_option maxRecDepth 100000 in
theorem fnExactDiscantParallels_lifted (os : Os) (started : os.Started) (H : Type) (enc : TypeId × Value → H) (F : Stop.Interp) :
    ReturnsInHanded {} Tryd.checked os 5 .any ((OpenSpec.ofChange Rows.fnExactDiscantParallelsSpec).preRow enc Tryd.prog Tryd.f5 Rows.fnExactDiscantParallelsRow.domain false Rows.fnExactDiscantParallelsRow.laid) (((OpenSpec.ofChange Rows.fnExactDiscantParallelsSpec).at F).post enc Tryd.prog Tryd.f5 false true false false) := by
  obtain ⟨places, hx⟩ := fnExactDiscantParallels_reads os enc
  refine returnsInHanded_of_row (C := Tryd.checked) (s := OpenSpec.ofChange Rows.fnExactDiscantParallelsSpec) own started (by kernel_rfl) Tryd.func5
    (witness_row_at (enc := enc) (C := Tryd.checked) false (fnExactDiscantParallels_world os) #[.slice none 0 0, .slice none 0 0] rfl (by kernel_rfl) (by kernel_rfl) (by kernel_rfl)
      (OpenSpec.preRow_of_cond 8 hx (by kernel_rfl) (fun k hk => by cases hk) (by kernel_rfl) (fnExactDiscantParallels_met os))) ?_
  intro W base args ds gs before hval0 hW _ _ _ hL _ _
  have hval : ∀ (j : Nat) t v, Tryd.f5.params[j]? = some t → args[j]? = some v → Value.okWide Tryd.prog W .any base t v := hval0
  have hW' := hW
  obtain ⟨p, q, hA0, hV, rfl, _, _⟩ := hW
  have hA : DataW.TrodAll enc Tryd.prog W 0 (fun _ => true) true Tryd.f5.params.toList args.toList ds p := hA0
  rw [Tryd.params5] at hA hval
  obtain ⟨v0, vs0, d0, ds0, p0, q0, hargs, rfl, rfl, h0, r0⟩ := trodAll_cons hA
  obtain ⟨v1, vs1, d1, ds1, p1, q1, rfl, rfl, rfl, h1, r1⟩ := trodAll_cons r0
  obtain ⟨rfl, rfl, rfl⟩ := trodAll_nil r1
  obtain rfl : args = #[v0, v1] := by cases args; simp_all
  obtain ⟨g0, g1, rfl⟩ := vars2 hV
  obtain ⟨a0, n0, c0, rfl⟩ := okWide_slice Tryd.underlying22 (hval 0 22 v0 rfl rfl)
  have k0 := h0
  have lt0 : ∀ x ∈ p0, x.block < W.heap.size := by obtain ⟨m, hm⟩ := k0; exact DataW.trod_lt m _ _ _ hm
  obtain ⟨x0, rfl, y0, z0, u0⟩ := voices_in h0
  obtain ⟨a1, n1, c1, rfl⟩ := okWide_slice Tryd.underlying22 (hval 1 22 v1 rfl rfl)
  have k1 := h1
  have lt1 : ∀ x ∈ p1, x.block < W.heap.size := by obtain ⟨m, hm⟩ := k1; exact DataW.trod_lt m _ _ _ hm
  obtain ⟨x1, rfl, y1, z1, u1⟩ := voices_in h1
  clear hA0 hval0
  refine (Dp9_walk a0 c0 x0 a1 c1 x1 W y0 z0 u0 y1 z1 u1 (twoTab_at hL (.tail _ (.tail _ (.tail _ (.head _)))) (.tail _ (.tail _ (.tail _ (.tail _ (.head _))))))).mono fun e W' ⟨he, hb⟩ => ?_
  subst he
  exact ⟨_, rfl, _, _, _, [], _, _, hW', trodAll_cons_mk (shut_bool Tryd.underlying4 _) trodAll_mk0, trodAll_cons_mk (Below.trod laidOut (by kernel_rfl) (of_decide_eq_true (by kernel_rfl)) k0 hb lt0) (trodAll_cons_mk (Below.trod laidOut (by kernel_rfl) (of_decide_eq_true (by kernel_rfl)) k1 hb lt1) (trodAll_mk0)), hb.trodVars laidOut (by kernel_rfl) hV, hb.frame _, fun h => by cases h⟩


end Go.Proofs.YticapinlnlpbpaaDoor
