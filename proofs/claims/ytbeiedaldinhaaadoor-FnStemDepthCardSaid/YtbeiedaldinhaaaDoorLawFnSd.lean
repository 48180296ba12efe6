/-
  The law FnStemDepth: for every code, depths go up one by one.
-/
import Derived.Test.YtbeiedaldinhaaaDoorSmv
import Derived.Test.YtbeiedaldinhaaaDoorDsd
import Derived.Test.YtbeiedaldinhaaaDoorOpen
import Derived.Deep.RegionWith
import Derived.ChangeMaps5
import Derived.Deep.DeepRowAt
import Derived.Deep.DeepHandedRow
import Derived.OpenVars
import Derived.SevenTiedAt
import Derived.Test.YtbeiedaldinhaaaDoorCards
import Derived.Test.YtbeiedaldinhaaaDoorTie
namespace Go.Proofs.YtbeiedaldinhaaaDoor
open Go.RowKit Go.ChangeShapes Go.WideShapes Go.ChangeAt
set_option maxRecDepth 100000
set_option linter.unusedVariables false

theorem sdp_parts {ss : List ByteArray} {st : List Int} {i : Int} (h : sdOk ss st i = true) : svl ss st = true ∧ ∃ x : Nat, i = (x : Int) ∧ x < st.length ∧ st.length = ss.length ∧ StTo st st.length := by
  unfold sdOk at h
  simp only [Bool.and_eq_true, decide_eq_true_eq] at h
  obtain ⟨⟨h1, h2⟩, h3⟩ := h
  obtain ⟨_, _, h5, _, h6⟩ := svl_in h1
  exact ⟨h1, i.toNat, by omega, by omega, h5, h6⟩

set_option maxHeartbeats 8000000 in
theorem fnStemDepth_walk (a : Option Addr) (n cap : Nat) (w : World) (h : CodeAt w a n) (hc : n ≤ cap) (hcap : cap ≤ maxLen) :
    Calls Tryd.prog 9 #[.slice a n cap] w fun e w' => e = .returned (.bool true) ∧ Below w.heap.size w w' := by
  have HD := Lib.hid (drawStemDepth_any a n cap w h hc hcap)
  clear h
  unfold maxLen at hcap
  by_cases hn : 1048576 < n
  · have g : (1048576 : Int) < (n : Int) := by omega
    go_enter Tryd.func9, Tryd.ntmps9
    go_wp2
    go_ret
    exact ⟨rfl, Below.refl _ _⟩
  have g : decide ((1048576 : Int) < (n : Int)) = false := by simp; omega
  go_enter Tryd.func9, Tryd.ntmps9
  go_wp2_with (fail)
  (go_at_call 31; refine (HD.out).mono ?_; rintro e w1 ⟨v, u, ss, zs, k, rfl, hsv, hiv, hl5, hsz, hwk, hb1⟩)
  have hsz2 : ∀ s ∈ ss, s.size ≤ 4611686018427387904 := fun s hs => by have := hsz s hs; omega
  obtain ⟨ad, c, rfl, had, hc1, hc2⟩ := hsv
  obtain ⟨au, cu, rfl, hau, hc3, hc4⟩ := hiv
  have HSV : Hid (SV w1 (.slice ad ss.length c) ss) := ⟨ad, c, rfl, had, hc1, hc2⟩
  have HIV : Hid (IV w1 (.slice au zs.length cu) zs) := ⟨au, cu, rfl, hau, hc3, hc4⟩
  have HF : Hid (∀ W (k : Int), (Lit.int .i64 k).wf = true → Below w1.heap.size w1 W → Calls Tryd.prog 28 #[.slice ad ss.length c, .slice au zs.length cu, .int .i64 k] W fun e w' => e = .returned (.int .i64 (sdp ss zs k)) ∧ Below W.heap.size W w') := fun W k h1 hb => stemDepth_any _ _ ss zs k h1 W (HSV.out.below hb) (HIV.out.below hb) hsz2
  have HWK := Lib.hid hwk
  have HB1 := Lib.hid hb1
  have HA := Lib.hid hau
  clear hwk hb1 had hau hc1 hc2 hc3 hc4
  go_wp2_with (fail)
  (go_at_call 28; refine (HF.out _ k HWK.out (Below.refl _ _)).mono ?_; rintro e w2 ⟨rfl, hb2⟩)
  have HB2 := Lib.hid hb2
  clear hb2
  go_wp2_with (fail)
  (go_at_call 32; refine (sStemDepth_any _ _ ss zs k HWK.out _ (HSV.out.below HB2.out) (HIV.out.below HB2.out) hsz2).mono ?_; rintro e w3 ⟨rfl, md, hw3⟩)
  have HB3 : Hid (Below w1.heap.size w1 w3) := by show Below _ _ _; rw [hw3]; exact bl_drewN HB2.out _
  clear hw3
  by_cases hok : sdOk ss zs k = true
  case neg =>
    have e1 := sdp_no (by simpa using hok : sdOk ss zs k = false)
    clear hok
    go_wp2
    go_ret
    exact ⟨rfl, bl_step HB1.out HB3.out⟩
  obtain ⟨hv, x, rfl, hx, hlen, hst⟩ := sdp_parts hok
  have e1 := sdp_yes hv hx
  by_cases hx0 : x = 0
  · subst hx0
    have e1 : sdp ss zs 0 = 0 := by simpa [dpf_zero] using e1
    clear hok hv hst hx hlen
    go_wp2
    go_ret
    exact ⟨rfl, bl_step HB1.out HB3.out⟩
  obtain ⟨z, hz⟩ : ∃ z, zs.getD x 0 = z := ⟨_, rfl⟩
  obtain ⟨z0, z1⟩ := hst x hx (by omega)
  rw [hz] at z0 z1
  obtain ⟨y, rfl⟩ : ∃ y : Nat, z = (y : Int) := ⟨z.toNat, by omega⟩
  have hy : y < zs.length := by omega
  have e2 := sdp_yes hv hy
  have hd := dpf_step hst hx hx0
  rw [hz, Int.toNat_natCast] at hd
  have hle := dpf_le zs x x
  obtain ⟨A0, off, hau, hA0, hcl⟩ : ∃ A off, au = some ⟨A, off, none⟩ ∧ A < w1.heap.size ∧ ∀ i, i < zs.length → w1.cell? ⟨A, off + i, none⟩ = some (.int .i64 (zs.getD i 0)) := by
    rcases HA.out with h | h
    · rw [h] at hx; simp at hx
    · exact h
  subst hau
  have c1 := hcl x hx
  rw [hz] at c1
  have f1 := (HB3.out.cell (p := ⟨A0, off + x, none⟩) hA0).trans c1
  have HWY : Hid ((Lit.int .i64 (y : Int)).wf = true) := wf_small (by omega) (by omega)
  obtain ⟨D, hD⟩ : ∃ D : Int, (dpf zs x x : Int) = D := ⟨_, rfl⟩
  have hE : (dpf zs y y : Int) = D - 1 := by omega
  rw [hD] at e1
  rw [hE] at e2
  have b1 : 1 ≤ D := by omega
  have b2 : D < (ss.length : Int) := by omega
  have b3 : D ≤ (x : Int) := by omega
  have td : decide (D < 0) = false := decide_eq_false (by omega)
  have x1 : ((x : Int) == 0) = false := by rw [beq_eq_false_iff_ne]; omega
  have x2 : (0 : Int) ≤ (x : Int) := by omega
  have x3 : (x : Int) < (zs.length : Int) := by omega
  have wd : IntKind.i64.wrap (D - 1) = D - 1 := IntWalk.i64_in _ (by omega)
  clear hok hv hst c1 hcl hz hd hle hD hE hx0 z0 z1 hlen
  go_wp2_with (fail)
  (go_at_call 28; refine (HF.out _ _ HWY.out HB3.out).mono ?_; rintro e w4 ⟨rfl, hb4⟩)
  have HB4 := Lib.hid (bl_step HB3.out hb4)
  clear hb4
  go_wp2
  go_ret
  exact ⟨rfl, bl_step HB1.out HB4.out⟩

noncomputable def fnStemDepth_world (os : Os) : World := { World.holding Tryd.prog os ⟨#[], #[], []⟩ with heap := (((World.holding Tryd.prog os ⟨#[], #[], []⟩).heap.modify 1 fun | .cells _ t frozen => .cells #[.int .u8 128, .int .u8 191, .int .u8 160, .int .u8 191, .int .u8 128, .int .u8 159, .int .u8 144, .int .u8 191, .int .u8 128, .int .u8 143, .int .u8 0, .int .u8 0, .int .u8 0, .int .u8 0, .int .u8 0, .int .u8 0, .int .u8 0, .int .u8 0, .int .u8 0, .int .u8 0, .int .u8 0, .int .u8 0, .int .u8 0, .int .u8 0, .int .u8 0, .int .u8 0, .int .u8 0, .int .u8 0, .int .u8 0, .int .u8 0, .int .u8 0, .int .u8 0] t frozen | o => o).modify 0 fun | .cells _ t frozen => .cells ((Go.Pinned.utf8FirstZ.map fun (n : Nat) => Value.int .u8 (n : Int)).toArray) t frozen | o => o) }
theorem fnStemDepth_met (os : Os) : laidMet Tryd.prog Rows.fnStemDepthRow.laid ((fnStemDepth_world os).forCall (fun _ _ => 0) ⟨#[], #[.slice none 0 0], []⟩).memory :=
  laidMet_of_run' 8 (by kernel_rfl) (by kernel_rfl)
theorem fnStemDepth_reads (os : Os) {H : Type} (enc : TypeId × Value → H) : ∃ places, DataW.whole enc Tryd.prog ((fnStemDepth_world os).forCall (fun _ _ => 0) ⟨#[], #[.slice none 0 0], []⟩).memory Tryd.f9.params.toList Rows.fnStemDepthSpec.vars false (#[.slice none 0 0] : Array Value).toList 8 = some ([.nil], [], places) :=
  ⟨((DataW.whole enc Tryd.prog ((fnStemDepth_world os).forCall (fun _ _ => 0) ⟨#[], #[.slice none 0 0], []⟩).memory Tryd.f9.params.toList Rows.fnStemDepthSpec.vars false (#[.slice none 0 0] : Array Value).toList 8).getD ([], [], [])).2.2, by kernel_rfl⟩
set_option maxRecDepth 100000 in
theorem fnStemDepth_lifted (os : Os) (started : os.Started) (H : Type) (enc : TypeId × Value → H) (F : Stop.Interp) :
    ReturnsInHanded {} Tryd.checked os 9 .any ((OpenSpec.ofChange Rows.fnStemDepthSpec).preRow enc Tryd.prog Tryd.f9 Rows.fnStemDepthRow.domain false Rows.fnStemDepthRow.laid) (((OpenSpec.ofChange Rows.fnStemDepthSpec).at F).post enc Tryd.prog Tryd.f9 false true false false) := by
  obtain ⟨places, hx⟩ := fnStemDepth_reads os enc
  refine returnsInHanded_of_row (C := Tryd.checked) (s := OpenSpec.ofChange Rows.fnStemDepthSpec) own started (by kernel_rfl) Tryd.func9
    (witness_row_at (enc := enc) (C := Tryd.checked) false (fnStemDepth_world os) #[.slice none 0 0] rfl (by kernel_rfl) (by kernel_rfl) (by kernel_rfl)
      (OpenSpec.preRow_of_cond 8 hx (by kernel_rfl) (fun k hk => by cases hk) (by kernel_rfl) (fnStemDepth_met os))) ?_
  intro W base args ds gs before hval0 hW _ _ _ hL _ _
  have hval : ∀ (j : Nat) t v, Tryd.f9.params[j]? = some t → args[j]? = some v → Value.okWide Tryd.prog W .any base t v := hval0
  have hW' := hW
  obtain ⟨p, q, hA0, hV, rfl, _, _⟩ := hW
  have hA : DataW.TrodAll enc Tryd.prog W 0 (fun _ => true) true Tryd.f9.params.toList args.toList ds p := hA0
  rw [Tryd.params9] at hA hval
  obtain ⟨v0, vs0, d0, ds0, p0, q0, hargs, rfl, rfl, h0, r0⟩ := trodAll_cons hA
  obtain ⟨rfl, rfl, rfl⟩ := trodAll_nil r0
  obtain rfl : args = #[v0] := by cases args; simp_all
  obtain ⟨rfl, rfl⟩ := trodVars_none hV
  obtain ⟨a0, n0, c0, rfl⟩ := okWide_slice Tryd.underlying22 (hval 0 22 v0 rfl rfl)
  have k0 := h0
  have lt0 : ∀ x ∈ p0, x.block < W.heap.size := by obtain ⟨m, hm⟩ := k0; exact DataW.trod_lt m _ _ _ hm
  have y0 := code_in h0
  clear hA0 hval0
  refine (fnStemDepth_walk a0 n0 c0 W y0.1 y0.2.1 y0.2.2).mono fun e W' ⟨he, hb⟩ => ?_
  subst he
  exact ⟨_, rfl, _, _, _, [], _, [], hW', trodAll_cons_mk (shut_bool Tryd.underlying4 _) trodAll_mk0, trodAll_cons_mk (Below.trod laidOut (by kernel_rfl) (of_decide_eq_true (by kernel_rfl)) k0 hb lt0) (trodAll_mk0), rfl, hb.frame _, fun h => by cases h⟩


end Go.Proofs.YtbeiedaldinhaaaDoor
