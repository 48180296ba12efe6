/-
  The law FnMelodyMove: for every code, a moved melody is the same, and moves back.
-/
import Derived.Test.YtjodcaeohkjlnaaDoorLaid
import Derived.Test.YtjodcaeohkjlnaaDoorCode
import Derived.Test.YtjodcaeohkjlnaaDoorSmT
import Derived.Test.YtjodcaeohkjlnaaDoorMmt
import Derived.Test.YtjodcaeohkjlnaaDoorMma
import Derived.Test.YtjodcaeohkjlnaaDoorSame2
import Derived.Test.YtjodcaeohkjlnaaDoorDrawMv
import Derived.Test.YtjodcaeohkjlnaaDoorFlat
namespace Go.Proofs.YtjodcaeohkjlnaaDoor
open Go.RowKit Go.ChangeShapes Go.WideShapes Go.ChangeAt
set_option maxRecDepth 100000
set_option linter.unusedVariables false

theorem there_back {k k' : Int} {xs : List (Int × Bool)} (h : mmB k xs = true) (hk : xs = [] ∨ k' = -k) : mmB k' (mmL k xs) = true ∧ msame xs (mmL k xs) = true ∧ msame xs (mmL k' (mmL k xs)) = true ∧ (mmL k xs).length = xs.length ∧ (mmL k' (mmL k xs)).length = xs.length ∧
    ∀ i, i < xs.length → ((mmL k xs).getD i (0, false)).1 = (xs.getD i (0, false)).1 + k ∧ ((mmL k' (mmL k xs)).getD i (0, false)).1 = (xs.getD i (0, false)).1 ∧ 0 ≤ (xs.getD i (0, false)).1 ∧ (xs.getD i (0, false)).1 ≤ 20 ∧ 0 ≤ (xs.getD i (0, false)).1 + k ∧ (xs.getD i (0, false)).1 + k ≤ 20 := by
  rcases hk with rfl | rfl
  · rw [(mm_nil k).1, (mm_nil k').1, (mm_nil k').2]
    have e : msame [] [] = true := (Mvd.refl rfl).same
    exact ⟨rfl, e, e, rfl, rfl, fun i hi => by simp at hi⟩
  · obtain ⟨a, b, c, d, _, _, f⟩ := mm_there_back h
    exact ⟨a, b, c, mm_len h, d, f⟩
theorem mm_back_k {k : Int} {xs : List (Int × Bool)} (h : mmB k xs = true) (h0 : -9223372036854775808 ≤ k) (h1 : k ≤ 9223372036854775807) : xs = [] ∨ IntKind.i64.wrap (-k) = -k := by
  cases xs with
  | nil => exact .inl rfl
  | cons t r =>
    obtain ⟨_, _, _, _, _, _, f⟩ := mm_there_back h
    have := f 0 (by simp)
    exact .inr (IntWalk.i64_in _ (by omega))

set_option maxHeartbeats 8000000 in
theorem fnMelodyMove_walk (a : Option Addr) (n cap : Nat) (w : World) (h : CodeAt w a n) (hc : n ≤ cap) (hcap : cap ≤ maxLen) (ht : StepTab w) :
    Calls Tryd.prog 8 #[.slice a n cap] w fun e w' => e = .returned (.bool true) ∧ Below w.heap.size w w' := by
  have HT := Lib.hid ht
  clear ht
  by_cases hn : 1048576 < n
  · have g : (1048576 : Int) < (n : Int) := by omega
    go_enter Tryd.func8, Tryd.ntmps8
    go_wp2
    go_ret
    exact ⟨rfl, Below.refl _ _⟩
  have g : decide ((1048576 : Int) < (n : Int)) = false := by simp; omega
  go_enter Tryd.func8, Tryd.ntmps8
  go_wp2_with (fail)
  (go_at_call 41; refine (drawMelodyMove_any a n cap _ h hc hcap).mono ?_; rintro e w1 ⟨v, xs, k, rfl, hr1, hx9, hb1, k0, k1⟩)
  clear h hc hcap g hn
  go_wp2_with (fail)
  (go_at_call 42; refine (melodyMove_any _ _ v xs k _ hr1 (HT.out.below hb1)).mono ?_; rintro e w2 ⟨u, rfl, hr2, hb2⟩)
  go_wp2_with (fail)
  (go_at_call 43; refine (sMelodyMove_any _ _ v xs k _ (hr1.below hb2 (.inl (Nat.le_refl _)))).mono ?_; rintro e w3 ⟨u3, rfl, hr3, hb3⟩)
  have c3 := bl_step hb2 hb3
  have bw3 := bl_step hb1 c3
  by_cases hm : mmB k xs = false
  · rw [hm]
    go_wp2_with (fail)
    (go_at_call 44; refine (sameTones_yes _ _ _ _ u u3 _ _ (hr2.below hb3 (.inl (Nat.le_refl _))) hr3).mono ?_; rintro e w4 ⟨rfl, hb4⟩)
    go_wp2_with (fail)
    (go_at_call 44; refine (sameTones_yes _ _ _ _ u u3 _ _ (hr2.below (bl_step hb3 hb4) (.inl (Nat.le_refl _))) (hr3.below hb4 (.inl (Nat.le_refl _)))).mono ?_; rintro e w5 ⟨rfl, hb5⟩)
    go_wp2
    go_ret
    exact ⟨rfl, bl_step (bl_step bw3 hb4) hb5⟩
  rw [Bool.not_eq_false] at hm
  obtain ⟨k', hk'⟩ : ∃ k', IntKind.i64.wrap (-k) = k' := ⟨_, rfl⟩
  have hkk := mm_back_k hm k0 k1
  rw [hk'] at hkk
  obtain ⟨fB, fS1, fS2, fL1, fL2, fA⟩ := there_back hm hkk
  have hk2 : IntKind.i64.wrap (0 - k) = k' := by rw [Int.zero_sub]; exact hk'
  have KB := Lib.hid (fun lo hi v W h ht => melodyMove_any lo hi v (mmL k xs) k' W h ht)
  rw [fB] at KB
  have KS1 := Lib.hid (fun lo hi lo' hi' v u W h g ht => melodySame_any lo hi lo' hi' v u xs (mmL k xs) W h g ht)
  have KS2 := Lib.hid (fun lo hi lo' hi' v u W h g ht => melodySame_any lo hi lo' hi' v u xs (mmL k' (mmL k xs)) W h g ht)
  rw [fS1] at KS1
  rw [fS2] at KS2
  rw [hm]
  clear hm hkk fB fS1 fS2
  generalize mmL k' (mmL k xs) = zs at KB KS2 fL2 fA
  generalize mmL k xs = ys at KB KS1 fL1 fA hr2 hr3
  obtain ⟨n, hn⟩ : ∃ n, n = xs.length := ⟨_, rfl⟩
  have hn9 : n ≤ 1000 := by omega
  rw [← hn] at fL1 fL2 fA
  have HF := Lib.hid fA
  have NY := Lib.hid fL1
  have NZ := Lib.hid fL2
  have NX := Lib.hid hn.symm
  clear fA fL1 fL2 hn hx9
  go_wp2_with (fail)
  (go_at_call 44; refine (sameTones_yes _ _ _ _ u u3 _ _ (hr2.below hb3 (.inl (Nat.le_refl _))) hr3).mono ?_; rintro e w4 ⟨rfl, hb4⟩)
  have c4 := bl_step c3 hb4
  have d4 := bl_step hb3 hb4
  clear hr3
  go_wp2_with (fail)
  (go_at_call 42; refine (KB.out _ _ u _ (hr2.below d4 (.inl (Nat.le_refl _))) (HT.out.below (bl_step hb1 c4))).mono ?_; rintro e w5 ⟨x, rfl, hr5, hb5⟩)
  have c5 := bl_step c4 hb5
  have d5 := bl_step d4 hb5
  have t1 := hr1.below c5 (.inl (Nat.le_refl _))
  have t2 := hr2.below d5 (.inl (Nat.le_refl _))
  have bw5 := bl_step hb1 c5
  have z5 := hb5.size
  have HM1 := Lib.hid (fun (W : World) (hW : Below w5.heap.size w5 W) => KS1.out _ _ _ _ v u W (t1.below hW (.inr (Nat.le_refl _))) (t2.below hW (.inr (Nat.le_refl _))) (HT.out.below (bl_step bw5 hW)))
  have HM2 := Lib.hid (fun (W : World) (hW : Below w5.heap.size w5 W) => KS2.out _ _ _ _ v x W (t1.below hW (.inr (Nat.le_refl _))) (hr5.below hW (.inr (Nat.le_refl _))) (HT.out.below (bl_step bw5 hW)))
  obtain ⟨aX, cX, rfl, fX⟩ := t1.flat NX.out
  obtain ⟨aY, cY, rfl, fY⟩ := t2.flat NY.out
  obtain ⟨aZ, cZ, rfl, fZ⟩ := hr5.flat NZ.out
  have FX := Lib.hid fX
  have FY := Lib.hid fY
  have FZ := Lib.hid fZ
  clear t1 t2 hr1 hr2 hr5 fX fY fZ c3 c4 c5 d4 d5 bw3 KB KS1 KS2 NX NY NZ
  go_wp2
  go_loopw [11] (fun i wr => ∃ j : Nat, j ≤ n ∧ i = .int .i64 j ∧ Below w5.heap.size w5 wr) (fun i _ => n - (intOf i).toNat)
  case atStart => exact ⟨0, Nat.zero_le _, rfl, by first | exact Below.refl _ _ | exact ⟨rfl, rfl, rfl, Nat.le_refl _, fun _ _ _ => rfl⟩⟩
  case round =>
    obtain ⟨j, hj, rfl, hb⟩ := hrel
    by_cases hlt : j < n
    · obtain ⟨gX, rfl, sX, eX⟩ := FX.out (by omega)
      obtain ⟨gY, rfl, sY, eY⟩ := FY.out (by omega)
      obtain ⟨gZ, rfl, sZ, eZ⟩ := FZ.out (by omega)
      obtain ⟨p1, p2, p3, p4, p5, p6⟩ := HF.out j hlt
      have e1 := (hb.cell (p := ⟨gX, j * 2, none⟩) sX).trans (eX j hlt).1
      have e2 := (hb.cell (p := ⟨gX, j * 2 + 1, none⟩) sX).trans (eX j hlt).2
      have e3 := (hb.cell (p := ⟨gY, j * 2, none⟩) sY).trans (eY j hlt).1
      have e4 := (hb.cell (p := ⟨gY, j * 2 + 1, none⟩) sY).trans (eY j hlt).2
      have e5 := (hb.cell (p := ⟨gZ, j * 2, none⟩) sZ).trans (eZ j hlt).1
      have e6 := (hb.cell (p := ⟨gZ, j * 2 + 1, none⟩) sZ).trans (eZ j hlt).2
      clear eX eY eZ
      rw [p1] at e3
      rw [p2] at e5
      clear p1 p2
      generalize (xs.getD j (0, false)).1 = s at e1 e3 e5 p3 p4 p5 p6
      generalize (xs.getD j (0, false)).2 = b at e2
      generalize (ys.getD j (0, false)).2 = b' at e4
      generalize (zs.getD j (0, false)).2 = b'' at e6
      have hj0 : (0 : Int) ≤ (j : Int) := by omega
      have hj1 : (j : Int) < (n : Int) := by omega
      have m1 : IntKind.i64.wrap (s + k) = s + k := IntWalk.i64_in _ (by omega)
      go_wp2
      go_quiet (fail)
      all_goals
        go_wp2
        go_roundw
        case rel => exact ⟨j + 1, by omega, by go_num, by first | exact hb | exact hb.drew | exact ⟨hb.os, hb.tape, hb.output, hb.size, hb.block⟩⟩
        case measure => simp [intOf]; omega
    · go_wp2_with (fail)
      (go_at_call 45; refine (HM1.out _ hb).mono ?_; rintro e wy ⟨rfl, hby⟩)
      have hb' := bl_step hb hby
      go_wp2_with (fail)
      (go_at_call 45; refine (HM2.out _ hb').mono ?_; rintro e wz ⟨rfl, hbz⟩)
      go_wp2
      go_ret
      exact ⟨rfl, bl_step (bl_step bw5 hb') hbz⟩

noncomputable def fnMelodyMove_world (os : Os) : World := { World.holding Tryd.prog os ⟨#[], #[], []⟩ with heap := ((World.holding Tryd.prog os ⟨#[], #[], []⟩).heap.modify 2 fun | .cells _ t frozen => .cells #[.int .i64 0, .int .i64 2, .int .i64 4, .int .i64 5, .int .i64 7, .int .i64 9, .int .i64 10] t frozen | o => o) }
theorem fnMelodyMove_met (os : Os) : laidMet Tryd.prog Rows.fnMelodyMoveRow.laid ((fnMelodyMove_world os).forCall (fun _ _ => 0) ⟨#[], #[.slice none 0 0], []⟩).memory :=
  laidMet_of_run' 8 (by kernel_rfl) (by kernel_rfl)
theorem fnMelodyMove_reads (os : Os) {H : Type} (enc : TypeId × Value → H) : ∃ places, DataW.whole enc Tryd.prog ((fnMelodyMove_world os).forCall (fun _ _ => 0) ⟨#[], #[.slice none 0 0], []⟩).memory Tryd.f8.params.toList Rows.fnMelodyMoveSpec.vars false (#[.slice none 0 0] : Array Value).toList 8 = some ([.nil], [Rows.laid_loop_example_neumes_impl_stepHeights], places) :=
  ⟨((DataW.whole enc Tryd.prog ((fnMelodyMove_world os).forCall (fun _ _ => 0) ⟨#[], #[.slice none 0 0], []⟩).memory Tryd.f8.params.toList Rows.fnMelodyMoveSpec.vars false (#[.slice none 0 0] : Array Value).toList 8).getD ([], [], [])).2.2, by kernel_rfl⟩
set_option maxRecDepth 100000 in
theorem fnMelodyMove_lifted (os : Os) (started : os.Started) (H : Type) (enc : TypeId × Value → H) (F : Stop.Interp) :
    ReturnsInHanded {} Tryd.checked os 8 .any ((OpenSpec.ofChange Rows.fnMelodyMoveSpec).preRow enc Tryd.prog Tryd.f8 Rows.fnMelodyMoveRow.domain false Rows.fnMelodyMoveRow.laid) (((OpenSpec.ofChange Rows.fnMelodyMoveSpec).at F).post enc Tryd.prog Tryd.f8 false true false false) := by
  obtain ⟨places, hx⟩ := fnMelodyMove_reads os enc
  refine returnsInHanded_of_row (C := Tryd.checked) (s := OpenSpec.ofChange Rows.fnMelodyMoveSpec) own started (by kernel_rfl) Tryd.func8
    (witness_row_at (enc := enc) (C := Tryd.checked) false (fnMelodyMove_world os) #[.slice none 0 0] rfl (by kernel_rfl) (by kernel_rfl) (by kernel_rfl)
      (OpenSpec.preRow_of_cond 8 hx (by kernel_rfl) (fun k hk => by cases hk) (by kernel_rfl) (fnMelodyMove_met os))) ?_
  intro W base args ds gs before hval0 hW _ _ _ hL _ _
  have hval : ∀ (j : Nat) t v, Tryd.f8.params[j]? = some t → args[j]? = some v → Value.okWide Tryd.prog W .any base t v := hval0
  have hW' := hW
  obtain ⟨p, q, hA0, hV, rfl, _, _⟩ := hW
  have hA : DataW.TrodAll enc Tryd.prog W 0 (fun _ => true) true Tryd.f8.params.toList args.toList ds p := hA0
  rw [Tryd.params8] at hA hval
  obtain ⟨v0, vs0, d0, ds0, p0, q0, hargs, rfl, rfl, h0, r0⟩ := trodAll_cons hA
  obtain ⟨rfl, rfl, rfl⟩ := trodAll_nil r0
  obtain rfl : args = #[v0] := by cases args; simp_all
  obtain ⟨g0, rfl⟩ := vars1 hV
  obtain ⟨a0, n0, c0, rfl⟩ := okWide_slice Tryd.underlying22 (hval 0 22 v0 rfl rfl)
  have k0 := h0
  have lt0 : ∀ x ∈ p0, x.block < W.heap.size := by obtain ⟨m, hm⟩ := k0; exact DataW.trod_lt m _ _ _ hm
  have y0 := code_in h0
  clear hA0 hval0
  refine (fnMelodyMove_walk a0 n0 c0 W y0.1 y0.2.1 y0.2.2 (stepTab hL)).mono fun e W' ⟨he, hb⟩ => ?_
  subst he
  exact ⟨_, rfl, _, _, _, [], _, _, hW', trodAll_cons_mk (shut_bool Tryd.underlying4 _) trodAll_mk0, trodAll_cons_mk (Below.trod laidOut (by kernel_rfl) (of_decide_eq_true (by kernel_rfl)) k0 hb lt0) (trodAll_mk0), hb.trodVars laidOut (by kernel_rfl) hV, hb.frame _, fun h => by cases h⟩


end Go.Proofs.YtjodcaeohkjlnaaDoor
