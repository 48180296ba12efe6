/-
  The law FnMelodySame: for every code, melodies that are the same are moved.
-/
import Derived.Test.YtjodcaeohkjlnaaDoorLaid
import Derived.Test.YtjodcaeohkjlnaaDoorCode
import Derived.Test.YtjodcaeohkjlnaaDoorSmT
import Derived.Test.YtjodcaeohkjlnaaDoorMmt
import Derived.Test.YtjodcaeohkjlnaaDoorMma
import Derived.Test.YtjodcaeohkjlnaaDoorSame2
import Derived.Test.YtjodcaeohkjlnaaDoorDrawMs
import Derived.Test.YtjodcaeohkjlnaaDoorFlat
import Derived.Deep.RegionHeld3
namespace Go.Proofs.YtjodcaeohkjlnaaDoor
open Go.RowKit Go.ChangeShapes Go.WideShapes Go.ChangeAt
set_option maxRecDepth 100000
set_option linter.unusedVariables false

set_option maxHeartbeats 8000000 in
theorem fnMelodySame_walk (a : Option Addr) (n cap : Nat) (w : World) (h : CodeAt w a n) (hc : n ≤ cap) (hcap : cap ≤ maxLen) (ht : StepTab w) :
    Calls Tryd.prog 13 #[.slice a n cap] w fun e w' => e = .returned (.bool true) ∧ Below w.heap.size w w' := by
  have HT := Lib.hid ht
  clear ht
  by_cases hn : 1048576 < n
  · have g : (1048576 : Int) < (n : Int) := by omega
    go_enter Tryd.func13, Tryd.ntmps13
    go_wp2
    go_ret
    exact ⟨rfl, Below.refl _ _⟩
  have g : decide ((1048576 : Int) < (n : Int)) = false := by simp; omega
  go_enter Tryd.func13, Tryd.ntmps13
  go_wp2_with (fail)
  (go_at_call 61; refine (drawMelodySame_any a n cap _ h hc hcap).mono ?_; rintro e w1 ⟨v, xs, u, ys, rfl, hr1, hs1, hx9, hy9, hb1⟩)
  clear h hc hcap g hn
  have zz := Nat.le_refl w1.heap.size
  go_wp2_with (fail)
  (go_at_call 45; refine (melodySame_any _ _ _ _ v u xs ys _ hr1 hs1 (HT.out.below hb1)).mono ?_; rintro e w2 ⟨rfl, hb2⟩)
  have hr2 := hr1.below hb2 (.inl (Nat.le_refl _))
  have hs2 := hs1.below hb2 (.inl (Nat.le_refl _))
  have bw2 := bl_step hb1 hb2
  clear hr1 hs1
  go_wp2_with (fail)
  (go_at_call 62; refine (sMelodySame_any _ _ _ _ v u xs ys _ hr2 hs2 hb2.size hb2.size).mono ?_; rintro e w3 ⟨rfl, hb3⟩)
  have bw3 := bl_step bw2 hb3
  have z2 := hb2.size
  have z3 := hb3.size
  have hr3 := hr2.below hb3 (.inl z2)
  have hs3 := hs2.below hb3 (.inl z2)
  clear hr2 hs2
  by_cases hm : msame xs ys = false
  · rw [hm]
    clear hr3 hs3
    go_wp2
    go_ret
    exact ⟨rfl, bw3⟩
  rw [Bool.not_eq_false] at hm
  rw [hm]
  obtain ⟨fx, fy, fl, f1, f2, f3, fB, f4⟩ := same_moved hm
  have K1 := Lib.hid (fun lo hi lo' hi' v u W h g ht => melodySame_any lo hi lo' hi' v u ys xs W h g ht)
  have K2 := Lib.hid (fun lo hi lo' hi' v u W h g ht => melodySame_any lo hi lo' hi' v u xs.reverse ys.reverse W h g ht)
  have K3 := Lib.hid (fun lo hi lo' hi' v u W h g ht => melodySame_any lo hi lo' hi' v u xs xs W h g ht)
  have K4 := Lib.hid (fun lo hi lo' hi' v u W h g ht => melodySame_any lo hi lo' hi' v u (mmL ((ys.getD 0 (0, false)).1 - (xs.getD 0 (0, false)).1) xs) ys W h g ht)
  have KX := Lib.hid (fun lo hi v W h => melodyBack_any lo hi v xs W h)
  have KY := Lib.hid (fun lo hi v W h => melodyBack_any lo hi v ys W h)
  have KM := Lib.hid (fun lo hi v W h ht => melodyMove_any lo hi v xs ((ys.getD 0 (0, false)).1 - (xs.getD 0 (0, false)).1) W h ht)
  rw [f1] at K1
  rw [f2] at K2
  rw [f3] at K3
  rw [f4] at K4
  rw [fB] at KM
  rw [fx, mvl_yes fx] at KX
  rw [fy, mvl_yes fy] at KY
  have HB : Hid (0 < xs.length → 0 ≤ (xs.getD 0 (0, false)).1 ∧ (xs.getD 0 (0, false)).1 ≤ 20 ∧ 0 ≤ (ys.getD 0 (0, false)).1 ∧ (ys.getD 0 (0, false)).1 ≤ 20) := fun hp => by
    have a1 := vd_in (mv_at fx hp)
    have a2 := vd_in (mv_at fy (i := 0) (by omega))
    exact ⟨a1.1, a1.2, a2.1, a2.2⟩
  generalize mmL ((ys.getD 0 (0, false)).1 - (xs.getD 0 (0, false)).1) xs = zs at K4 KM
  obtain ⟨x0, hx0⟩ : ∃ x, (xs.getD 0 (0, false)).1 = x := ⟨_, rfl⟩
  obtain ⟨y0, hy0⟩ : ∃ y, (ys.getD 0 (0, false)).1 = y := ⟨_, rfl⟩
  rw [hx0, hy0] at KM HB
  have HX0 := Lib.hid hx0
  have HY0 := Lib.hid hy0
  clear hm f1 f2 f3 f4 fB fx fy hx0 hy0
  go_wp2_with (fail)
  (go_at_call 57; refine (KX.out _ _ v _ hr3).mono ?_; rintro e w4 ⟨x, rfl, hx4, hb4⟩)
  have z4 := hb4.size
  have bw4 := bl_step bw3 hb4
  have hr4 := hr3.below hb4 (.inl (by omega))
  have hs4 := hs3.below hb4 (.inl (by omega))
  clear hr3 hs3
  go_wp2_with (fail)
  (go_at_call 57; refine (KY.out _ _ u _ hs4).mono ?_; rintro e w5 ⟨y, rfl, hy5, hb5⟩)
  have z5 := hb5.size
  have bw5 := bl_step bw4 hb5
  have hr5 := hr4.below hb5 (.inl (by omega))
  have hs5 := hs4.below hb5 (.inl (by omega))
  have hx5 := hx4.below hb5 (.inl (by omega))
  clear hr4 hs4 hx4
  go_wp2_with (fail)
  (go_at_call 45; refine (K1.out _ _ _ _ u v _ hs5 hr5 (HT.out.below bw5)).mono ?_; rintro e w6 ⟨rfl, hb6⟩)
  have z6 := hb6.size
  have bw6 := bl_step bw5 hb6
  have hr6 := hr5.below hb6 (.inl (by omega))
  have hs6 := hs5.below hb6 (.inl (by omega))
  have hx6 := hx5.below hb6 (.inl (by omega))
  have hy6 := hy5.below hb6 (.inl (by omega))
  clear hr5 hs5 hx5 hy5
  go_wp2_with (fail)
  (go_at_call 45; refine (K2.out _ _ _ _ x y _ hx6 hy6 (HT.out.below bw6)).mono ?_; rintro e w7 ⟨rfl, hb7⟩)
  have z7 := hb7.size
  have bw7 := bl_step bw6 hb7
  have hr7 := hr6.below hb7 (.inl (by omega))
  have hs7 := hs6.below hb7 (.inl (by omega))
  clear hr6 hs6 hx6 hy6
  go_wp2_with (fail)
  (go_at_call 45; refine (K3.out _ _ _ _ v v _ hr7 hr7 (HT.out.below bw7)).mono ?_; rintro e w8 ⟨rfl, hb8⟩)
  have z8 := hb8.size
  have bw8 := bl_step bw7 hb8
  have hr8 := hr7.below hb8 (.inl (by omega))
  have hs8 := hs7.below hb8 (.inl (by omega))
  clear hr7 hs7 hb2 hb3 hb4 hb5 hb6 hb7 hb8
  have HR := Lib.hid hr8
  have HS := Lib.hid hs8
  obtain ⟨n, hn⟩ : ∃ n, n = xs.length := ⟨_, rfl⟩
  rw [← hn] at HB fl
  obtain ⟨aX, cX, rfl, fX⟩ := hr8.flat hn.symm
  obtain ⟨aY, cY, rfl, fY⟩ := hs8.flat fl.symm
  clear hr8 hs8 hn fl
  by_cases hz : n = 0
  · subst hz
    clear fX fY
    go_wp2
    go_ret
    exact ⟨rfl, bw8⟩
  have hpos : 0 < n := Nat.pos_of_ne_zero hz
  obtain ⟨gX, rfl, sX, eX⟩ := fX hpos
  obtain ⟨gY, rfl, sY, eY⟩ := fY hpos
  have e1 := (eX 0 hpos).1
  have e2 := (eX 0 hpos).2
  have e3 := (eY 0 hpos).1
  have e4 := (eY 0 hpos).2
  rw [HX0.out] at e1
  rw [HY0.out] at e3
  obtain ⟨b1, b2, b3, b4⟩ := HB.out hpos
  have hz1 : ((n : Int) == 0) = false := by simp; omega
  have hz2 : (0 : Int) < (n : Int) := by omega
  have m1 : IntKind.i64.wrap (y0 - x0) = y0 - x0 := IntWalk.i64_in _ (by omega)
  simp only [Nat.zero_mul, Nat.zero_add] at e1 e2 e3 e4
  generalize (xs.getD 0 (0, false)).2 = bx at e2
  generalize (ys.getD 0 (0, false)).2 = by_ at e4
  clear eX eY fX fY hz
  go_wp2
  go_region_held3 (fun wx => wx.cell? ⟨gX, 0, none⟩ = some (.int .i64 x0) ∧ wx.cell? ⟨gY, 0, none⟩ = some (.int .i64 y0)) (go_keep)
    (first | (go_at_call 42; refine (KM.out _ _ _ _ (HR.out.below (Below.refl _ _).drew (.inr (Nat.le_refl _))) (HT.out.below bw8.drew)).mono ?_; rintro e w9 ⟨z, rfl, hz9, hb9⟩; have c9a := (hb9.cell (p := ⟨gX, 0, none⟩) sX).trans e1; have c9b := (hb9.cell (p := ⟨gY, 0, none⟩) sY).trans e3))
  have bw9 : Below w.heap.size w w9 := by first | exact bl_step bw8 hb9 | exact bl_step bw8.drew hb9 | exact bl_step (⟨bw8.os, bw8.tape, bw8.output, bw8.size, bw8.block⟩ : Below w.heap.size w _) hb9
  have bx9 : Below w8.heap.size w8 w9 := by first | exact hb9 | exact bl_step (Below.refl _ _).drew hb9 | exact bl_step (⟨rfl, rfl, rfl, Nat.le_refl _, fun _ _ => rfl⟩ : Below w8.heap.size w8 _) hb9
  go_wp2_with (fail)
  (go_at_call 45; refine (K4.out _ _ _ _ z _ _ hz9 (HS.out.below bx9 (.inr (Nat.le_refl _))) (HT.out.below bw9)).mono ?_; rintro e w10 ⟨rfl, hb10⟩)
  clear hz9 e1 e2 e3 e4 c9a c9b
  go_wp2
  go_ret
  exact ⟨rfl, bl_step bw9 hb10⟩

noncomputable def fnMelodySame_world (os : Os) : World := { World.holding Tryd.prog os ⟨#[], #[], []⟩ with heap := ((World.holding Tryd.prog os ⟨#[], #[], []⟩).heap.modify 2 fun | .cells _ t frozen => .cells #[.int .i64 0, .int .i64 2, .int .i64 4, .int .i64 5, .int .i64 7, .int .i64 9, .int .i64 10] t frozen | o => o) }
theorem fnMelodySame_met (os : Os) : laidMet Tryd.prog Rows.fnMelodySameRow.laid ((fnMelodySame_world os).forCall (fun _ _ => 0) ⟨#[], #[.slice none 0 0], []⟩).memory :=
  laidMet_of_run' 8 (by kernel_rfl) (by kernel_rfl)
theorem fnMelodySame_reads (os : Os) {H : Type} (enc : TypeId × Value → H) : ∃ places, DataW.whole enc Tryd.prog ((fnMelodySame_world os).forCall (fun _ _ => 0) ⟨#[], #[.slice none 0 0], []⟩).memory Tryd.f13.params.toList Rows.fnMelodySameSpec.vars false (#[.slice none 0 0] : Array Value).toList 8 = some ([.nil], [Rows.laid_loop_example_neumes_impl_stepHeights], places) :=
  ⟨((DataW.whole enc Tryd.prog ((fnMelodySame_world os).forCall (fun _ _ => 0) ⟨#[], #[.slice none 0 0], []⟩).memory Tryd.f13.params.toList Rows.fnMelodySameSpec.vars false (#[.slice none 0 0] : Array Value).toList 8).getD ([], [], [])).2.2, by kernel_rfl⟩
set_option maxRecDepth 100000 in
theorem fnMelodySame_lifted (os : Os) (started : os.Started) (H : Type) (enc : TypeId × Value → H) (F : Stop.Interp) :
    ReturnsInHanded {} Tryd.checked os 13 .any ((OpenSpec.ofChange Rows.fnMelodySameSpec).preRow enc Tryd.prog Tryd.f13 Rows.fnMelodySameRow.domain false Rows.fnMelodySameRow.laid) (((OpenSpec.ofChange Rows.fnMelodySameSpec).at F).post enc Tryd.prog Tryd.f13 false true false false) := by
  obtain ⟨places, hx⟩ := fnMelodySame_reads os enc
  refine returnsInHanded_of_row (C := Tryd.checked) (s := OpenSpec.ofChange Rows.fnMelodySameSpec) own started (by kernel_rfl) Tryd.func13
    (witness_row_at (enc := enc) (C := Tryd.checked) false (fnMelodySame_world os) #[.slice none 0 0] rfl (by kernel_rfl) (by kernel_rfl) (by kernel_rfl)
      (OpenSpec.preRow_of_cond 8 hx (by kernel_rfl) (fun k hk => by cases hk) (by kernel_rfl) (fnMelodySame_met os))) ?_
  intro W base args ds gs before hval0 hW _ _ _ hL _ _
  have hval : ∀ (j : Nat) t v, Tryd.f13.params[j]? = some t → args[j]? = some v → Value.okWide Tryd.prog W .any base t v := hval0
  have hW' := hW
  obtain ⟨p, q, hA0, hV, rfl, _, _⟩ := hW
  have hA : DataW.TrodAll enc Tryd.prog W 0 (fun _ => true) true Tryd.f13.params.toList args.toList ds p := hA0
  rw [Tryd.params13] at hA hval
  obtain ⟨v0, vs0, d0, ds0, p0, q0, hargs, rfl, rfl, h0, r0⟩ := trodAll_cons hA
  obtain ⟨rfl, rfl, rfl⟩ := trodAll_nil r0
  obtain rfl : args = #[v0] := by cases args; simp_all
  obtain ⟨g0, rfl⟩ := vars1 hV
  obtain ⟨a0, n0, c0, rfl⟩ := okWide_slice Tryd.underlying22 (hval 0 22 v0 rfl rfl)
  have k0 := h0
  have lt0 : ∀ x ∈ p0, x.block < W.heap.size := by obtain ⟨m, hm⟩ := k0; exact DataW.trod_lt m _ _ _ hm
  have y0 := code_in h0
  clear hA0 hval0
  refine (fnMelodySame_walk a0 n0 c0 W y0.1 y0.2.1 y0.2.2 (stepTab hL)).mono fun e W' ⟨he, hb⟩ => ?_
  subst he
  exact ⟨_, rfl, _, _, _, [], _, _, hW', trodAll_cons_mk (shut_bool Tryd.underlying4 _) trodAll_mk0, trodAll_cons_mk (Below.trod laidOut (by kernel_rfl) (of_decide_eq_true (by kernel_rfl)) k0 hb lt0) (trodAll_mk0), hb.trodVars laidOut (by kernel_rfl) hV, hb.frame _, fun h => by cases h⟩


end Go.Proofs.YtjodcaeohkjlnaaDoor
