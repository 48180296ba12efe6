/-
  The exact law of StemBest: for every list of texts the function answers as its model, in memory of its own, and leaves its argument alone.
-/
import Derived.Test.YthhndlefafcdeaaDoorStb
import Derived.Test.YthhndlefafcdeaaDoorSk
import Derived.Test.YthhndlefafcdeaaDoorOpen
import Derived.ChangeMaps5
import Derived.Deep.DeepRowAt
import Derived.Deep.DeepHandedRow
import Derived.OpenVars
import Derived.SevenTiedAt
import Derived.Test.YthhndlefafcdeaaDoorCards
import Derived.Test.YthhndlefafcdeaaDoorTie
namespace Go.Proofs.YthhndlefafcdeaaDoor
open Go.RowKit Go.ChangeShapes Go.WideShapes Go.ChangeAt
set_option maxRecDepth 100000
set_option linter.unusedVariables false

set_option maxHeartbeats 4000000 in
theorem Stb_walk (a0 : Option Addr) (c0 : Nat) (ss : List ByteArray) (w : World) (hh0 : ArgS w a0 ss ∧ ∀ s ∈ ss, s.size ≤ maxLen) (hc0 : ss.length ≤ c0) (hcap0 : c0 ≤ maxLen) :
    Calls Tryd.prog 11 #[.slice a0 ss.length c0] w fun e w' => e = .returned (.bool true) ∧ Below w.heap.size w w' := by
  obtain ⟨h0, hz0⟩ := hh0
  unfold maxLen at hcap0
  by_cases hn0 : ss.length + szt ss ≤ 1048576
  case neg =>
    have hbw0 : Below w.heap.size w w := Below.refl _ _
    have HS0 := Lib.hid (fun w h => szStringS_any a0 c0 ss w h hz0 hc0 (by unfold maxLen; omega))
    rw [stAns_no hn0] at HS0
    have HA0 := Lib.hid h0
    clear h0
    go_enter Tryd.func11, Tryd.ntmps11
    go_wp2_with (fail)
    (go_at_call 15; refine (HS0.out _ HA0.out).mono ?_; rintro e w1 ⟨rfl, hb1⟩)
    have z1 := hb1.size
    have hbw1 := bl_step hbw0 hb1
    clear hb1
    go_wp2
    go_ret
    exact ⟨rfl, hbw1⟩
  have HS0 := Lib.hid (fun w h => szStringS_any a0 c0 ss w h hz0 hc0 (by unfold maxLen; omega))
  rw [stAns_yes hn0] at HS0
  have HT0 := Lib.hid (fun w h => toStringS_any a0 c0 ss w h (by omega))
  have tz0 : decide ((1048576 : Int) - ((ss.length + szt ss : Nat) : Int) < 0) = false := decide_eq_false (by omega)
  have hy0 : ∀ s ∈ ss, s.size ≤ 4611686018427387904 := fun s hs => by have := szt_mem hs; omega
  clear hz0
  have HA0 := Lib.hid h0
  have KS := Lib.hid (fun v w h => sStemBest_any v ss w h hy0)
  have KI := Lib.hid (fun v w h => stemBest_any v ss w h hy0)
  unfold SB2 at KS KI
  have hl : (sbst ss).length ≤ 10000000 := by have := sbst_len ss; omega
  generalize bval ss = ok at KS KI
  clear hy0
  obtain ⟨K0, hK0⟩ : ∃ K : Int, K = 1 + (ss.length : Int) := ⟨_, rfl⟩
  have lK0 : 1 ≤ K0 ∧ K0 ≤ 5000000 := by omega
  have nK0 : decide (K0 < 0) = false := decide_eq_false (by omega)
  have HM0 := Lib.hid (fun lo hi v w h => markStringI_any lo hi v ss 1 (by omega) (by omega) (by omega) w h)
  rw [← hK0] at HM0
  generalize sbst ss = ys at KS KI hl
  obtain ⟨KG, hKG⟩ : ∃ K : Int, K = 1 + (ys.length : Int) := ⟨_, rfl⟩
  have lKG : 0 ≤ KG ∧ KG ≤ 50000000 := by omega
  have nKG : decide (KG < 0) = false := decide_eq_false (by omega)
  have HMG := Lib.hid (fun lo hi v w h => markIntO_any lo hi v ys 1 (by omega) (by omega) hl w h)
  rw [← hKG] at HMG
  have HHG := Lib.hid (fun lo hi v w h => heldIntO_any lo hi v 1 ys.length (by omega) (by omega) hl w h)
  rw [← hKG] at HHG
  clear h0
  clear hK0
  clear hKG
  have hbw0 : Below w.heap.size w w := Below.refl _ _
  go_enter Tryd.func11, Tryd.ntmps11
  go_wp2_with (fail)
  (go_at_call 15; refine (HS0.out _ (HA0.out.below hbw0)).mono ?_; rintro e w1 ⟨rfl, hb1⟩)
  have z1 := hb1.size
  have hbw1 := bl_step hbw0 hb1
  clear hb1
  go_wp2_with (fail)
  (go_at_call 17; refine (HT0.out _ (HA0.out.below hbw1)).mono ?_; rintro e w2 ⟨vp0, rfl, rp0, hb2⟩)
  have z2 := hb2.size
  have hbw2 := bl_step hbw1 hb2
  clear hb2
  go_wp2_with (fail)
  (go_at_call 40; refine (KS.out _ _ rp0.view).mono ?_; rintro e w3 ⟨us, rfl, gs, hb3⟩)
  have z3 := hb3.size
  have hbw3 := bl_step hbw2 hb3
  have rp0 := rp0.below hb3 (.inl (by omega))
  clear hb3
  clear rp0
  go_wp2_with (fail)
  (go_at_call 17; refine (HT0.out _ (HA0.out.below hbw3)).mono ?_; rintro e w4 ⟨vx0, rfl, rx0, hb4⟩)
  have z4 := hb4.size
  have hbw4 := bl_step hbw3 hb4
  have gs := gs.below hb4 (.inl (by omega))
  clear hb4
  go_wp2_with (fail)
  (go_at_call 41; refine (KI.out _ _ rx0.view).mono ?_; rintro e w5 ⟨ui, rfl, gi, hb5⟩)
  have z5 := hb5.size
  have hbw5 := bl_step hbw4 hb5
  have gs := gs.below hb5 (.inl (by omega))
  have rx0 := rx0.below hb5 (.inl (by omega))
  clear hb5
  go_wp2_with (fail)
  (go_at_call 27; refine (eqIntV_any _ _ ys _ gi.view gs.view).mono ?_; rintro e w6 ⟨rfl, hb6⟩)
  have z6 := hb6.size
  have hbw6 := bl_step hbw5 hb6
  have gs := gs.below hb6 (.inl (by omega))
  have rx0 := rx0.below hb6 (.inl (by omega))
  have gi := gi.below hb6 (.inl (by omega))
  clear hb6
  go_wp2_with (fail)
  (go_at_call 17; refine (HT0.out _ (HA0.out.below hbw6)).mono ?_; rintro e w7 ⟨vq0, rfl, rq0, hb7⟩)
  have z7 := hb7.size
  have hbw7 := bl_step hbw6 hb7
  have gs := gs.below hb7 (.inl (by omega))
  have rx0 := rx0.below hb7 (.inl (by omega))
  have gi := gi.below hb7 (.inl (by omega))
  clear hb7
  go_wp2_with (fail)
  (go_at_call 19; refine (eqStringV_any _ _ ss _ rx0.view rq0.view).mono ?_; rintro e w8 ⟨rfl, hb8⟩)
  have z8 := hb8.size
  have hbw8 := bl_step hbw7 hb8
  have gs := gs.below hb8 (.inl (by omega))
  have rx0 := rx0.below hb8 (.inl (by omega))
  have gi := gi.below hb8 (.inl (by omega))
  have rq0 := rq0.below hb8 (.inl (by omega))
  clear hb8
  clear rq0
  go_wp2_with (fail)
  (go_at_call 34; refine (HM0.out _ _ _ _ rx0).mono ?_; rintro e w9 ⟨rfl, hq9, ho9⟩)
  have ht9 := ho9.turnedS rx0
  have z9 := ht9.size
  have hbw9 : Below w.heap.size w w9 := hbw8.trans (ht9.below (by omega) (by omega))
  have gs := gs.turned ht9 (.inl (by omega))
  have gi := gi.turned ht9 (.inr (by omega))
  clear ht9 ho9
  clear hq9
  clear rx0
  go_wp2_with (fail)
  (go_at_call 27; refine (eqIntV_any _ _ ys _ gi.view gs.view).mono ?_; rintro e w10 ⟨rfl, hb10⟩)
  have z10 := hb10.size
  have hbw10 := bl_step hbw9 hb10
  have gs := gs.below hb10 (.inl (by omega))
  have gi := gi.below hb10 (.inl (by omega))
  clear hb10
  go_wp2_with (fail)
  (go_at_call 35; refine (HMG.out _ _ _ _ gi).mono ?_; rintro e w11 ⟨rfl, gq, ho11⟩)
  have ht11 := ho11.turnedI gi
  have z11 := ht11.size
  have hbw11 : Below w.heap.size w w11 := hbw10.trans (ht11.below (by omega) (by omega))
  have gs := gs.turned ht11 (.inl (by omega))
  clear ht11 ho11
  go_wp2_with (fail)
  (go_at_call 39; refine (HHG.out _ _ _ _ gq).mono ?_; rintro e wx ⟨rfl, rfl⟩)
  clear gi
  go_wp2_with (fail)
  (go_at_call 17; refine (HT0.out _ (HA0.out.below hbw11)).mono ?_; rintro e w12 ⟨vh0, rfl, rh0, hb12⟩)
  have z12 := hb12.size
  have hbw12 := bl_step hbw11 hb12
  have gs := gs.below hb12 (.inl (by omega))
  have gq := gq.below hb12 (.inl (by omega))
  clear hb12
  go_wp2_with (fail)
  (go_at_call 41; refine (KI.out _ _ rh0.view).mono ?_; rintro e w13 ⟨uh, rfl, gh, hb13⟩)
  have z13 := hb13.size
  have hbw13 := bl_step hbw12 hb13
  have gs := gs.below hb13 (.inl (by omega))
  have gq := gq.below hb13 (.inl (by omega))
  have rh0 := rh0.below hb13 (.inl (by omega))
  clear hb13
  clear rh0
  go_wp2_with (fail)
  (go_at_call 27; refine (eqIntV_any _ _ ys _ gh.view gs.view).mono ?_; rintro e w14 ⟨rfl, hb14⟩)
  have z14 := hb14.size
  have hbw14 := bl_step hbw13 hb14
  have gs := gs.below hb14 (.inl (by omega))
  have gq := gq.below hb14 (.inl (by omega))
  have gh := gh.below hb14 (.inl (by omega))
  clear hb14
  clear gs gh
  go_wp2_with (fail)
  (go_at_call 39; refine (HHG.out _ _ _ _ gq).mono ?_; rintro e wx ⟨rfl, rfl⟩)
  go_wp2
  go_ret
  exact ⟨rfl, hbw14⟩

noncomputable def fnExactStemBest_world (os : Os) : World := { World.holding Tryd.prog os ⟨#[], #[], []⟩ with heap := (((World.holding Tryd.prog os ⟨#[], #[], []⟩).heap.modify 1 fun | .cells _ t frozen => .cells #[.int .u8 128, .int .u8 191, .int .u8 160, .int .u8 191, .int .u8 128, .int .u8 159, .int .u8 144, .int .u8 191, .int .u8 128, .int .u8 143, .int .u8 0, .int .u8 0, .int .u8 0, .int .u8 0, .int .u8 0, .int .u8 0, .int .u8 0, .int .u8 0, .int .u8 0, .int .u8 0, .int .u8 0, .int .u8 0, .int .u8 0, .int .u8 0, .int .u8 0, .int .u8 0, .int .u8 0, .int .u8 0, .int .u8 0, .int .u8 0, .int .u8 0, .int .u8 0] t frozen | o => o).modify 0 fun | .cells _ t frozen => .cells ((Go.Pinned.utf8FirstZ.map fun (n : Nat) => Value.int .u8 (n : Int)).toArray) t frozen | o => o) }
theorem fnExactStemBest_met (os : Os) : laidMet Tryd.prog Rows.fnExactStemBestRow.laid ((fnExactStemBest_world os).forCall (fun _ _ => 0) ⟨#[], #[.slice none 0 0], []⟩).memory :=
  laidMet_of_run' 8 (by kernel_rfl) (by kernel_rfl)
theorem fnExactStemBest_reads (os : Os) {H : Type} (enc : TypeId × Value → H) : ∃ places, DataW.whole enc Tryd.prog ((fnExactStemBest_world os).forCall (fun _ _ => 0) ⟨#[], #[.slice none 0 0], []⟩).memory Tryd.f11.params.toList Rows.fnExactStemBestSpec.vars false (#[.slice none 0 0] : Array Value).toList 8 = some ([.nil], [], places) :=
  ⟨((DataW.whole enc Tryd.prog ((fnExactStemBest_world os).forCall (fun _ _ => 0) ⟨#[], #[.slice none 0 0], []⟩).memory Tryd.f11.params.toList Rows.fnExactStemBestSpec.vars false (#[.slice none 0 0] : Array Value).toList 8).getD ([], [], [])).2.2, by kernel_rfl⟩
set_option maxRecDepth 100000 in
theorem fnExactStemBest_lifted (os : Os) (started : os.Started) (H : Type) (enc : TypeId × Value → H) (F : Stop.Interp) :
    ReturnsInHanded {} Tryd.checked os 11 .any ((OpenSpec.ofChange Rows.fnExactStemBestSpec).preRow enc Tryd.prog Tryd.f11 Rows.fnExactStemBestRow.domain false Rows.fnExactStemBestRow.laid) (((OpenSpec.ofChange Rows.fnExactStemBestSpec).at F).post enc Tryd.prog Tryd.f11 false true false false) := by
  obtain ⟨places, hx⟩ := fnExactStemBest_reads os enc
  refine returnsInHanded_of_row (C := Tryd.checked) (s := OpenSpec.ofChange Rows.fnExactStemBestSpec) own started (by kernel_rfl) Tryd.func11
    (witness_row_at (enc := enc) (C := Tryd.checked) false (fnExactStemBest_world os) #[.slice none 0 0] rfl (by kernel_rfl) (by kernel_rfl) (by kernel_rfl)
      (OpenSpec.preRow_of_cond 8 hx (by kernel_rfl) (fun k hk => by cases hk) (by kernel_rfl) (fnExactStemBest_met os))) ?_
  intro W base args ds gs before hval0 hW _ _ _ hL _ _
  have hval : ∀ (j : Nat) t v, Tryd.f11.params[j]? = some t → args[j]? = some v → Value.okWide Tryd.prog W .any base t v := hval0
  have hW' := hW
  obtain ⟨p, q, hA0, hV, rfl, _, _⟩ := hW
  have hA : DataW.TrodAll enc Tryd.prog W 0 (fun _ => true) true Tryd.f11.params.toList args.toList ds p := hA0
  rw [Tryd.params11] at hA hval
  obtain ⟨v0, vs0, d0, ds0, p0, q0, hargs, rfl, rfl, h0, r0⟩ := trodAll_cons hA
  obtain ⟨rfl, rfl, rfl⟩ := trodAll_nil r0
  obtain rfl : args = #[v0] := by cases args; simp_all
  obtain ⟨rfl, rfl⟩ := trodVars_none hV
  obtain ⟨a0, n0, c0, rfl⟩ := okWide_slice Tryd.underlying22 (hval 0 22 v0 rfl rfl)
  have k0 := h0
  have lt0 : ∀ x ∈ p0, x.block < W.heap.size := by obtain ⟨m, hm⟩ := k0; exact DataW.trod_lt m _ _ _ hm
  obtain ⟨x0, rfl, y0, z0, u0⟩ := strings_in h0
  clear hA0 hval0
  refine (Stb_walk a0 c0 x0 W y0 z0 u0).mono fun e W' ⟨he, hb⟩ => ?_
  subst he
  exact ⟨_, rfl, _, _, _, [], _, [], hW', trodAll_cons_mk (shut_bool Tryd.underlying4 _) trodAll_mk0, trodAll_cons_mk (Below.trod laidOut (by kernel_rfl) (of_decide_eq_true (by kernel_rfl)) k0 hb lt0) (trodAll_mk0), rfl, hb.frame _, fun h => by cases h⟩


end Go.Proofs.YthhndlefafcdeaaDoor
