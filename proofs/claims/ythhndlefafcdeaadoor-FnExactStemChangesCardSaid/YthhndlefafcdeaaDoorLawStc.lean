/-
  The exact law of StemChanges: for every list of texts and every list of numbers the function answers as its model, and leaves its arguments alone.
-/
import Derived.Test.YthhndlefafcdeaaDoorSch
import Derived.Test.YthhndlefafcdeaaDoorSk
import Derived.Test.YthhndlefafcdeaaDoorOpen
import Derived.ChangeMaps5
import Derived.Deep.DeepRowAt
import Derived.Deep.DeepHandedRow
import Derived.OpenVars
import Derived.SevenTiedAt
import Derived.Test.YthhndlefafcdeaaDoorCards
import Derived.Test.YthhndlefafcdeaaDoorTie
namespace Go.Proofs.YthhndlefafcdeaaDoor
open Go.RowKit Go.ChangeShapes Go.WideShapes Go.ChangeAt
set_option maxRecDepth 100000
set_option linter.unusedVariables false

set_option maxHeartbeats 4000000 in
theorem Stc_walk (a0 : Option Addr) (c0 : Nat) (ss : List ByteArray) (a1 : Option Addr) (c1 : Nat) (st : List Int) (w : World) (hh0 : ArgS w a0 ss ∧ ∀ s ∈ ss, s.size ≤ maxLen) (hc0 : ss.length ≤ c0) (hcap0 : c0 ≤ maxLen) (h1 : ArgI w a1 st) (hc1 : st.length ≤ c1) (hcap1 : c1 ≤ maxLen) :
    Calls Tryd.prog 7 #[.slice a0 ss.length c0, .slice a1 st.length c1] w fun e w' => e = .returned (.bool true) ∧ Below w.heap.size w w' := by
  obtain ⟨h0, hz0⟩ := hh0
  unfold maxLen at hcap0
  unfold maxLen at hcap1
  by_cases hn1 : st.length ≤ 1048576
  case neg =>
    have hbw0 : Below w.heap.size w w := Below.refl _ _
    have t0 : (1048576 : Int) < (st.length : Int) := by omega
    have t1 : 1048576 < st.length := by omega
    clear h0
    clear h1
    go_enter Tryd.func7, Tryd.ntmps7
    go_wp2
    go_ret
    exact ⟨rfl, hbw0⟩
  by_cases hn0 : ss.length + szt ss ≤ 1048576
  case neg =>
    have hbw0 : Below w.heap.size w w := Below.refl _ _
    have u1 : decide (1048576 < (st.length : Int)) = false := decide_eq_false (by omega)
    have v1 : decide (1048576 < st.length) = false := decide_eq_false (by omega)
    have HS0 := Lib.hid (fun w h => szStringS_any a0 c0 ss w h hz0 hc0 (by unfold maxLen; omega))
    rw [stAns_no hn0] at HS0
    have HA0 := Lib.hid h0
    clear h0
    clear h1
    go_enter Tryd.func7, Tryd.ntmps7
    go_wp2_with (fail)
    (go_at_call 15; refine (HS0.out _ HA0.out).mono ?_; rintro e w1 ⟨rfl, hb1⟩)
    have z1 := hb1.size
    have hbw1 := bl_step hbw0 hb1
    clear hb1
    go_wp2
    go_ret
    exact ⟨rfl, hbw1⟩
  have HS0 := Lib.hid (fun w h => szStringS_any a0 c0 ss w h hz0 hc0 (by unfold maxLen; omega))
  rw [stAns_yes hn0] at HS0
  have HT0 := Lib.hid (fun w h => toStringS_any a0 c0 ss w h (by omega))
  have tz0 : decide ((1048576 : Int) - ((ss.length + szt ss : Nat) : Int) < 0) = false := decide_eq_false (by omega)
  have hy0 : ∀ s ∈ ss, s.size ≤ 4611686018427387904 := fun s hs => by have := szt_mem hs; omega
  clear hz0
  have HA0 := Lib.hid h0
  have u1 : decide (1048576 < (st.length : Int)) = false := decide_eq_false (by omega)
  have v1 : decide (1048576 < st.length) = false := decide_eq_false (by omega)
  have HT1 := Lib.hid (fun w h => toIntS_any a1 c1 st w h hn1)
  have HA1 := Lib.hid h1
  have KS := Lib.hid (fun v u w h k => (sStemChanges_any v u ss st w h k hy0).mono fun e w' ⟨a, b⟩ => (⟨a, bl_ofN b⟩ : _ ∧ Below w.heap.size w w'))
  have KI := Lib.hid (fun v u w h k => stemChanges_any v u ss st w h k hy0)
  generalize sch ss st = b at KS KI
  clear hy0
  clear h0
  clear h1
  have hbw0 : Below w.heap.size w w := Below.refl _ _
  go_enter Tryd.func7, Tryd.ntmps7
  go_wp2_with (fail)
  (go_at_call 15; refine (HS0.out _ (HA0.out.below hbw0)).mono ?_; rintro e w1 ⟨rfl, hb1⟩)
  have z1 := hb1.size
  have hbw1 := bl_step hbw0 hb1
  clear hb1
  go_wp2_with (fail)
  (go_at_call 17; refine (HT0.out _ (HA0.out.below hbw1)).mono ?_; rintro e w2 ⟨vp0, rfl, rp0, hb2⟩)
  have z2 := hb2.size
  have hbw2 := bl_step hbw1 hb2
  clear hb2
  go_wp2_with (fail)
  (go_at_call 25; refine (HT1.out _ (HA1.out.below hbw2)).mono ?_; rintro e w3 ⟨vp1, rfl, rp1, hb3⟩)
  have z3 := hb3.size
  have hbw3 := bl_step hbw2 hb3
  have rp0 := rp0.below hb3 (.inl (by omega))
  clear hb3
  go_wp2_with (fail)
  (go_at_call 28; refine (KS.out _ _ _ rp0.view rp1.view).mono ?_; rintro e w4 ⟨rfl, hb4⟩)
  have z4 := hb4.size
  have hbw4 := bl_step hbw3 hb4
  have rp0 := rp0.below hb4 (.inl (by omega))
  have rp1 := rp1.below hb4 (.inl (by omega))
  clear hb4
  clear rp0
  clear rp1
  go_wp2_with (fail)
  (go_at_call 17; refine (HT0.out _ (HA0.out.below hbw4)).mono ?_; rintro e w5 ⟨vx0, rfl, rx0, hb5⟩)
  have z5 := hb5.size
  have hbw5 := bl_step hbw4 hb5
  clear hb5
  go_wp2_with (fail)
  (go_at_call 25; refine (HT1.out _ (HA1.out.below hbw5)).mono ?_; rintro e w6 ⟨vx1, rfl, rx1, hb6⟩)
  have z6 := hb6.size
  have hbw6 := bl_step hbw5 hb6
  have rx0 := rx0.below hb6 (.inl (by omega))
  clear hb6
  go_wp2_with (fail)
  (go_at_call 29; refine (KI.out _ _ _ rx0.view rx1.view).mono ?_; rintro e w7 ⟨rfl, hb7⟩)
  have z7 := hb7.size
  have hbw7 := bl_step hbw6 hb7
  have rx0 := rx0.below hb7 (.inl (by omega))
  have rx1 := rx1.below hb7 (.inl (by omega))
  clear hb7
  go_wp2_with (fail)
  (go_at_call 17; refine (HT0.out _ (HA0.out.below hbw7)).mono ?_; rintro e w8 ⟨vq0, rfl, rq0, hb8⟩)
  have z8 := hb8.size
  have hbw8 := bl_step hbw7 hb8
  have rx0 := rx0.below hb8 (.inl (by omega))
  have rx1 := rx1.below hb8 (.inl (by omega))
  clear hb8
  go_wp2_with (fail)
  (go_at_call 19; refine (eqStringV_any _ _ ss _ rx0.view rq0.view).mono ?_; rintro e w9 ⟨rfl, hb9⟩)
  have z9 := hb9.size
  have hbw9 := bl_step hbw8 hb9
  have rx0 := rx0.below hb9 (.inl (by omega))
  have rx1 := rx1.below hb9 (.inl (by omega))
  have rq0 := rq0.below hb9 (.inl (by omega))
  clear hb9
  clear rq0
  go_wp2_with (fail)
  (go_at_call 25; refine (HT1.out _ (HA1.out.below hbw9)).mono ?_; rintro e w10 ⟨vq1, rfl, rq1, hb10⟩)
  have z10 := hb10.size
  have hbw10 := bl_step hbw9 hb10
  have rx0 := rx0.below hb10 (.inl (by omega))
  have rx1 := rx1.below hb10 (.inl (by omega))
  clear hb10
  go_wp2_with (fail)
  (go_at_call 27; refine (eqIntV_any _ _ st _ rx1.view rq1.view).mono ?_; rintro e w11 ⟨rfl, hb11⟩)
  have z11 := hb11.size
  have hbw11 := bl_step hbw10 hb11
  have rx0 := rx0.below hb11 (.inl (by omega))
  have rx1 := rx1.below hb11 (.inl (by omega))
  have rq1 := rq1.below hb11 (.inl (by omega))
  clear hb11
  clear rq1
  go_wp2
  go_ret
  exact ⟨rfl, hbw11⟩

noncomputable def fnExactStemChanges_world (os : Os) : World := { World.holding Tryd.prog os ⟨#[], #[], []⟩ with heap := (((World.holding Tryd.prog os ⟨#[], #[], []⟩).heap.modify 1 fun | .cells _ t frozen => .cells #[.int .u8 128, .int .u8 191, .int .u8 160, .int .u8 191, .int .u8 128, .int .u8 159, .int .u8 144, .int .u8 191, .int .u8 128, .int .u8 143, .int .u8 0, .int .u8 0, .int .u8 0, .int .u8 0, .int .u8 0, .int .u8 0, .int .u8 0, .int .u8 0, .int .u8 0, .int .u8 0, .int .u8 0, .int .u8 0, .int .u8 0, .int .u8 0, .int .u8 0, .int .u8 0, .int .u8 0, .int .u8 0, .int .u8 0, .int .u8 0, .int .u8 0, .int .u8 0] t frozen | o => o).modify 0 fun | .cells _ t frozen => .cells ((Go.Pinned.utf8FirstZ.map fun (n : Nat) => Value.int .u8 (n : Int)).toArray) t frozen | o => o) }
theorem fnExactStemChanges_met (os : Os) : laidMet Tryd.prog Rows.fnExactStemChangesRow.laid ((fnExactStemChanges_world os).forCall (fun _ _ => 0) ⟨#[], #[.slice none 0 0, .slice none 0 0], []⟩).memory :=
  laidMet_of_run' 8 (by kernel_rfl) (by kernel_rfl)
theorem fnExactStemChanges_reads (os : Os) {H : Type} (enc : TypeId × Value → H) : ∃ places, DataW.whole enc Tryd.prog ((fnExactStemChanges_world os).forCall (fun _ _ => 0) ⟨#[], #[.slice none 0 0, .slice none 0 0], []⟩).memory Tryd.f7.params.toList Rows.fnExactStemChangesSpec.vars false (#[.slice none 0 0, .slice none 0 0] : Array Value).toList 8 = some ([.nil, .nil], [], places) :=
  ⟨((DataW.whole enc Tryd.prog ((fnExactStemChanges_world os).forCall (fun _ _ => 0) ⟨#[], #[.slice none 0 0, .slice none 0 0], []⟩).memory Tryd.f7.params.toList Rows.fnExactStemChangesSpec.vars false (#[.slice none 0 0, .slice none 0 0] : Array Value).toList 8).getD ([], [], [])).2.2, by kernel_rfl⟩
set_option maxRecDepth 100000 in
theorem fnExactStemChanges_lifted (os : Os) (started : os.Started) (H : Type) (enc : TypeId × Value → H) (F : Stop.Interp) :
    ReturnsInHanded {} Tryd.checked os 7 .any ((OpenSpec.ofChange Rows.fnExactStemChangesSpec).preRow enc Tryd.prog Tryd.f7 Rows.fnExactStemChangesRow.domain false Rows.fnExactStemChangesRow.laid) (((OpenSpec.ofChange Rows.fnExactStemChangesSpec).at F).post enc Tryd.prog Tryd.f7 false true false false) := by
  obtain ⟨places, hx⟩ := fnExactStemChanges_reads os enc
  refine returnsInHanded_of_row (C := Tryd.checked) (s := OpenSpec.ofChange Rows.fnExactStemChangesSpec) own started (by kernel_rfl) Tryd.func7
    (witness_row_at (enc := enc) (C := Tryd.checked) false (fnExactStemChanges_world os) #[.slice none 0 0, .slice none 0 0] rfl (by kernel_rfl) (by kernel_rfl) (by kernel_rfl)
      (OpenSpec.preRow_of_cond 8 hx (by kernel_rfl) (fun k hk => by cases hk) (by kernel_rfl) (fnExactStemChanges_met os))) ?_
  intro W base args ds gs before hval0 hW _ _ _ hL _ _
  have hval : ∀ (j : Nat) t v, Tryd.f7.params[j]? = some t → args[j]? = some v → Value.okWide Tryd.prog W .any base t v := hval0
  have hW' := hW
  obtain ⟨p, q, hA0, hV, rfl, _, _⟩ := hW
  have hA : DataW.TrodAll enc Tryd.prog W 0 (fun _ => true) true Tryd.f7.params.toList args.toList ds p := hA0
  rw [Tryd.params7] at hA hval
  obtain ⟨v0, vs0, d0, ds0, p0, q0, hargs, rfl, rfl, h0, r0⟩ := trodAll_cons hA
  obtain ⟨v1, vs1, d1, ds1, p1, q1, rfl, rfl, rfl, h1, r1⟩ := trodAll_cons r0
  obtain ⟨rfl, rfl, rfl⟩ := trodAll_nil r1
  obtain rfl : args = #[v0, v1] := by cases args; simp_all
  obtain ⟨rfl, rfl⟩ := trodVars_none hV
  obtain ⟨a0, n0, c0, rfl⟩ := okWide_slice Tryd.underlying22 (hval 0 22 v0 rfl rfl)
  have k0 := h0
  have lt0 : ∀ x ∈ p0, x.block < W.heap.size := by obtain ⟨m, hm⟩ := k0; exact DataW.trod_lt m _ _ _ hm
  obtain ⟨x0, rfl, y0, z0, u0⟩ := strings_in h0
  obtain ⟨a1, n1, c1, rfl⟩ := okWide_slice Tryd.underlying31 (hval 1 31 v1 rfl rfl)
  have k1 := h1
  have lt1 : ∀ x ∈ p1, x.block < W.heap.size := by obtain ⟨m, hm⟩ := k1; exact DataW.trod_lt m _ _ _ hm
  obtain ⟨x1, rfl, y1, z1, u1⟩ := ints_in h1
  clear hA0 hval0
  refine (Stc_walk a0 c0 x0 a1 c1 x1 W y0 z0 u0 y1 z1 u1).mono fun e W' ⟨he, hb⟩ => ?_
  subst he
  exact ⟨_, rfl, _, _, _, [], _, [], hW', trodAll_cons_mk (shut_bool Tryd.underlying4 _) trodAll_mk0, trodAll_cons_mk (Below.trod laidOut (by kernel_rfl) (of_decide_eq_true (by kernel_rfl)) k0 hb lt0) (trodAll_cons_mk (Below.trod laidOut (by kernel_rfl) (of_decide_eq_true (by kernel_rfl)) k1 hb lt1) (trodAll_mk0)), rfl, hb.frame _, fun h => by cases h⟩


end Go.Proofs.YthhndlefafcdeaaDoor
