/-
  The law FnMelodyMoveOctave: for every code, a melody moved by an octave keeps what is Soft.
-/
import Derived.Test.YtjodcaeohkjlnaaDoorLaid
import Derived.Test.YtjodcaeohkjlnaaDoorCode
import Derived.Test.YtjodcaeohkjlnaaDoorSmT
import Derived.Test.YtjodcaeohkjlnaaDoorMmt
import Derived.Test.YtjodcaeohkjlnaaDoorMma
import Derived.Test.YtjodcaeohkjlnaaDoorRg
import Derived.Test.YtjodcaeohkjlnaaDoorDrawMv
import Derived.Test.YtjodcaeohkjlnaaDoorFlat
namespace Go.Proofs.YtjodcaeohkjlnaaDoor
open Go.RowKit Go.ChangeShapes Go.WideShapes Go.ChangeAt
set_option maxRecDepth 100000
set_option linter.unusedVariables false

theorem rg_empty {xs : List (Int × Bool)} (hm : mv xs = true) (h : rgOk xs = false) : xs = [] := by
  cases xs with
  | nil => rfl
  | cons t r => simp [rgOk, hm] at h
theorem trow_slice' {w : World} {lo hi : Nat} {v : Value} {xs : List (Int × Bool)} (h : TRow w lo hi v xs) : ∃ a c, v = .slice a xs.length c := by
  obtain ⟨a, c, rfl, _⟩ := h.flat rfl
  exact ⟨a, c, rfl⟩
/-- has one of the first j tones another letter than B? -/
def oth (xs : List (Int × Bool)) (j : Nat) : Bool := (xs.take j).any fun t => !(t.1 % 7 == 2)
theorem oth_succ {xs : List (Int × Bool)} {j : Nat} (h : j < xs.length) : oth xs (j + 1) = (oth xs j || !((xs.getD j (0, false)).1 % 7 == 2)) := by
  unfold oth
  rw [List.take_add_one, List.getElem?_eq_getElem h, List.any_append, gd_at h]
  simp
theorem oth_in {xs : List (Int × Bool)} {j : Nat} (h : oth xs j = true) : ∃ i, i < xs.length ∧ ¬ (xs.getD i (0, false)).1 % 7 = 2 := by
  unfold oth at h
  obtain ⟨t, ht, hb⟩ := List.any_eq_true.1 h
  obtain ⟨i, hi, rfl⟩ := List.mem_iff_getElem.1 (List.mem_of_mem_take ht)
  exact ⟨i, hi, by rw [gd_at hi]; simpa using hb⟩
/-- an octave higher -/
theorem octave {xs : List (Int × Bool)} (hm : mv xs = true) (ho : rgOk xs = true) : (20 < rgH xs + 7 → mmB 7 xs = false) ∧ (rgH xs + 7 ≤ 20 → mmB 7 xs = true) := by
  obtain ⟨_, hne, hin, _, ⟨t2, m2, q2⟩⟩ := rg_facts ho
  refine ⟨fun h => ?_, fun h => ?_⟩
  · obtain ⟨i, hi, rfl⟩ := List.mem_iff_getElem.1 m2
    exact oct_no hi (by rw [gd_at hi]; omega)
  · refine oct_yes hm fun i hi => ?_
    have := (hin _ (List.getElem_mem hi)).2
    rw [gd_at hi]
    omega

set_option maxHeartbeats 8000000 in
theorem fnMelodyMoveOctave_walk (a : Option Addr) (n cap : Nat) (w : World) (h : CodeAt w a n) (hc : n ≤ cap) (hcap : cap ≤ maxLen) (ht : StepTab w) :
    Calls Tryd.prog 9 #[.slice a n cap] w fun e w' => e = .returned (.bool true) ∧ Below w.heap.size w w' := by
  have HT := Lib.hid ht
  clear ht
  by_cases hn : 1048576 < n
  · have g : (1048576 : Int) < (n : Int) := by omega
    go_enter Tryd.func9, Tryd.ntmps9
    go_wp2
    go_ret
    exact ⟨rfl, Below.refl _ _⟩
  have g : decide ((1048576 : Int) < (n : Int)) = false := by simp; omega
  go_enter Tryd.func9, Tryd.ntmps9
  go_wp2_with (fail)
  (go_at_call 41; refine (drawMelodyMove_any a n cap _ h hc hcap).mono ?_; rintro e w1 ⟨v, xs, k, rfl, hr1, hx9, hb1, k0, k1⟩)
  clear h hc hcap g hn
  go_wp2_with (fail)
  (go_at_call 42; refine (melodyMove_any _ _ v xs k _ hr1 (HT.out.below hb1)).mono ?_; rintro e w2 ⟨u, rfl, hr2, hb2⟩)
  go_wp2_with (fail)
  (go_at_call 43; refine (sMelodyMove_any _ _ v xs k _ (hr1.below hb2 (.inl (Nat.le_refl _)))).mono ?_; rintro e w3 ⟨u3, rfl, hr3, hb3⟩)
  have c3 := bl_step hb2 hb3
  have bw3 := bl_step hb1 c3
  by_cases hm : mmB k xs = false
  · rw [hm]
    go_wp2_with (fail)
    (go_at_call 44; refine (sameTones_yes _ _ _ _ u u3 _ _ (hr2.below hb3 (.inl (Nat.le_refl _))) hr3).mono ?_; rintro e w4 ⟨rfl, hb4⟩)
    go_wp2_with (fail)
    (go_at_call 44; refine (sameTones_yes _ _ _ _ u u3 _ _ (hr2.below (bl_step hb3 hb4) (.inl (Nat.le_refl _))) (hr3.below hb4 (.inl (Nat.le_refl _)))).mono ?_; rintro e w5 ⟨rfl, hb5⟩)
    go_wp2
    go_ret
    exact ⟨rfl, bl_step (bl_step bw3 hb4) hb5⟩
  rw [Bool.not_eq_false] at hm
  have hmv := mmB_mv hm
  have hlen := mm_len hm
  rw [hm]
  go_wp2_with (fail)
  (go_at_call 44; refine (sameTones_yes _ _ _ _ u u3 _ _ (hr2.below hb3 (.inl (Nat.le_refl _))) hr3).mono ?_; rintro e w4 ⟨rfl, hb4⟩)
  have c4 := bl_step c3 hb4
  have bw4 := bl_step hb1 c4
  have hr4 := hr1.below c4 (.inl (Nat.le_refl _))
  obtain ⟨aU, cU, hU⟩ := trow_slice' hr2
  rw [hlen] at hU
  subst hU
  clear hr3 hr1 hr2 hm hlen
  go_wp2_with (fail)
  (go_at_call 46; refine (melodyRange_any _ _ v xs _ hr4).mono ?_; rintro e w5 ⟨rfl, hb5⟩)
  have bw5 := bl_step bw4 hb5
  have hr5 := hr4.below hb5 (.inl (by have := c4.size; omega))
  clear hr4
  by_cases ho : rgOk xs = false
  · have hx0 := rg_empty hmv ho
    subst hx0
    obtain ⟨aX, cX, rfl⟩ := trow_slice' hr5
    rw [ho]
    clear hr5
    go_wp2
    go_ret
    exact ⟨by first | rfl | simp, by first | exact bw5 | exact bl_drewN' bw5 _⟩
  rw [Bool.not_eq_false] at ho
  obtain ⟨h7n, h7y⟩ := octave hmv ho
  obtain ⟨_, _, _, _, ⟨t2, m2, q2⟩⟩ := rg_facts ho
  have hbH : 0 ≤ rgH xs ∧ rgH xs ≤ 20 := by
    obtain ⟨i, hi, rfl⟩ := List.mem_iff_getElem.1 m2
    have := vd_in (mv_at hmv hi)
    rw [gd_at hi, q2] at this
    exact this
  have KM := Lib.hid (fun lo hi v W h ht => melodyMove_any lo hi v xs 7 W h ht)
  have HVD : Hid (∀ i, i < xs.length → vd (xs.getD i (0, false)).1 (xs.getD i (0, false)).2 = true) := fun i hi => mv_at hmv hi
  have HSF : Hid (mmB 7 xs = true → oth xs xs.length = true → ∀ i, i < xs.length → ((mmL 7 xs).getD i (0, false)).2 = (xs.getD i (0, false)).2) := fun h1 h2 i hi => by
    obtain ⟨j, hj, hb⟩ := oth_in h2
    exact oct_soft h1 hj hb i hi
  rw [ho]
  obtain ⟨H, hH⟩ : ∃ H, rgH xs = H := ⟨_, rfl⟩
  rw [hH] at h7n h7y hbH ⊢
  generalize rgL xs = Lw
  have m7 : IntKind.i64.wrap (H + 7) = H + 7 := IntWalk.i64_in _ (by omega)
  have HR := Lib.hid hr5
  clear hr5 hH m2 q2 ho
  by_cases h20 : 20 < H + 7
  · rw [h7n h20] at KM
    clear h7n h7y hmv HSF HVD
    go_wp2_with (fail)
    (go_at_call 42; refine (KM.out _ _ _ _ HR.out (HT.out.below bw5)).mono ?_; rintro e w6 ⟨x, rfl, hx6, hb6⟩)
    clear hx6
    go_wp2
    go_ret
    exact ⟨rfl, bl_step bw5 hb6⟩
  have g20 : decide (20 < H + 7) = false := by simp; omega
  have hm7 := h7y (by omega)
  have HS := Lib.hid (HSF.out hm7)
  have hlx := mm_len hm7
  rw [hm7] at KM
  have HOS : Hid (∀ j, j < xs.length → oth xs (j + 1) = (oth xs j || !((xs.getD j (0, false)).1 % 7 == 2))) := fun j hj => oth_succ hj
  have HO0 : Hid (oth xs 0 = false) := by show oth xs 0 = false; simp [oth]
  obtain ⟨n, hn⟩ : ∃ n, n = xs.length := ⟨_, rfl⟩
  have hn9 : n ≤ 1000 := by omega
  rw [← hn] at hlx HS HVD HOS
  have NX := Lib.hid hn.symm
  have NZ := Lib.hid hlx
  generalize mmL 7 xs = zs at KM HS NZ
  clear h7n h7y hmv HSF hm7 hn hlx h20 hx9
  go_wp2_with (fail)
  (go_at_call 42; refine (KM.out _ _ _ _ HR.out (HT.out.below bw5)).mono ?_; rintro e w6 ⟨x, rfl, hx6, hb6⟩)
  have bw6 := bl_step bw5 hb6
  have t1 := HR.out.below hb6 (.inr (Nat.le_refl _))
  obtain ⟨aX, cX, rfl, fX⟩ := t1.flat NX.out
  obtain ⟨aZ, cZ, rfl, fZ⟩ := hx6.flat NZ.out
  have FX := Lib.hid fX
  have FZ := Lib.hid fZ
  clear t1 fX fZ hx6 KM HR bw5 c3 c4 bw3 bw4
  have nn : ((n : Int) == (n : Int)) = true := by simp
  go_wp2
  go_loopw [14, 15] (fun o i wr => ∃ j : Nat, j ≤ n ∧ i = .int .i64 j ∧ o = .bool (oth xs j) ∧ Below w6.heap.size w6 wr) (fun _ i _ => n - (intOf i).toNat)
  case atStart => exact ⟨0, Nat.zero_le _, rfl, by rw [HO0.out], by first | exact Below.refl _ _ | exact ⟨rfl, rfl, rfl, Nat.le_refl _, fun _ _ _ => rfl⟩⟩
  case round =>
    obtain ⟨j, hj, rfl, rfl, hb⟩ := hrel
    by_cases hlt : j < n
    · obtain ⟨gX, rfl, sX, eX⟩ := FX.out (by omega)
      have e1 := (hb.cell (p := ⟨gX, j * 2, none⟩) sX).trans (eX j hlt).1
      have e2 := (hb.cell (p := ⟨gX, j * 2 + 1, none⟩) sX).trans (eX j hlt).2
      have hv := HVD.out j hlt
      have hos := HOS.out j hlt
      have hj0 : (0 : Int) ≤ (j : Int) := by omega
      have hj1 : (j : Int) < (n : Int) := by omega
      clear eX
      generalize (xs.getD j (0, false)).1 = s at e1 hv hos
      generalize (xs.getD j (0, false)).2 = b at e2 hv
      by_cases ho : oth xs j = true
      · rw [ho] at hos ⊢
        have HN : Hid (oth xs (j + 1) = true) := hos
        clear hos hv ho
        go_wp2
        go_roundw
        case rel => exact ⟨j + 1, by omega, by go_num, by rw [HN.out], hb⟩
        case measure => simp [intOf]; omega
      · rw [Bool.not_eq_true] at ho
        rw [ho, Bool.false_or] at hos
        rw [ho]
        have htl := tl_yes hv
        have hlb := ltr_b s
        by_cases h2 : s % 7 = 2
        · have q1 : (s % 7 == 2) = true := by simpa using h2
          rw [q1] at hos hlb
          have HN : Hid (oth xs (j + 1) = false) := hos
          clear hos hv ho q1 h2
          go_wp2_with (fail)
          (go_at_call 25; refine (toneLetter_any s b _).mono ?_; rintro e w7 ⟨rfl, hb7⟩)
          rw [htl]
          have hbb := bl_step hb hb7
          generalize ltr s = lt at hlb ⊢
          go_wp2
          go_roundw
          case rel => exact ⟨j + 1, by omega, by go_num, by rw [HN.out], hbb⟩
          case measure => simp [intOf]; omega
        · have q1 : (s % 7 == 2) = false := by simpa using h2
          rw [q1] at hos hlb
          have HN : Hid (oth xs (j + 1) = true) := hos
          clear hos hv ho q1 h2
          go_wp2_with (fail)
          (go_at_call 25; refine (toneLetter_any s b _).mono ?_; rintro e w7 ⟨rfl, hb7⟩)
          rw [htl]
          have hbb := bl_step hb hb7
          generalize ltr s = lt at hlb ⊢
          go_wp2
          go_roundw
          case rel => exact ⟨j + 1, by omega, by go_num, by rw [HN.out], hbb⟩
          case measure => simp [intOf]; omega
    · have hje : j = n := by omega
      subst hje
      have HX1 : Hid (oth xs j = true → ∀ i, i < j → (zs.getD i (0, false)).2 = (xs.getD i (0, false)).2) := fun h => by
        exact HS.out h
      have HB := Lib.hid hb
      generalize oth xs j = ob at HX1 ⊢
      cases ob
      · go_wp2
        go_rounds 1
        all_goals go_ret
        all_goals exact ⟨rfl, bl_step bw6 HB.out⟩
      have HEQ := Lib.hid (HX1.out rfl)
      go_wp2
      go_loopw [16] (fun i wr' => ∃ q : Nat, q ≤ j ∧ i = .int .i64 q ∧ Below w6.heap.size w6 wr') (fun i _ => j - (intOf i).toNat)
      case atStart => exact ⟨0, Nat.zero_le _, rfl, HB.out⟩
      case round =>
        obtain ⟨q, hq, rfl, hb⟩ := hrel
        by_cases hlt : q < j
        · obtain ⟨gX, rfl, sX, eX⟩ := FX.out (by omega)
          obtain ⟨gZ, rfl, sZ, eZ⟩ := FZ.out (by omega)
          have e1 := (hb.cell (p := ⟨gX, q * 2, none⟩) sX).trans (eX q hlt).1
          have e2 := (hb.cell (p := ⟨gX, q * 2 + 1, none⟩) sX).trans (eX q hlt).2
          have e3 := (hb.cell (p := ⟨gZ, q * 2, none⟩) sZ).trans (eZ q hlt).1
          have e4 := (hb.cell (p := ⟨gZ, q * 2 + 1, none⟩) sZ).trans (eZ q hlt).2
          rw [HEQ.out q hlt] at e4
          clear eX eZ
          generalize (xs.getD q (0, false)).1 = s at e1
          generalize (xs.getD q (0, false)).2 = b at e2 e4
          generalize (zs.getD q (0, false)).1 = s' at e3
          have hj0 : (0 : Int) ≤ (q : Int) := by omega
          have hj1 : (q : Int) < (j : Int) := by omega
          go_wp2
          go_quiet (fail)
          all_goals
            go_wp2
            go_roundw
            case rel => exact ⟨q + 1, by omega, by go_num, by first | exact hb | exact hb.drew | exact ⟨hb.os, hb.tape, hb.output, hb.size, hb.block⟩⟩
            case measure => simp [intOf]; omega
        · have hqe : q = j := by omega
          subst hqe
          go_wp2
          go_ret
          exact ⟨rfl, bl_step bw6 hb⟩

noncomputable def fnMelodyMoveOctave_world (os : Os) : World := { World.holding Tryd.prog os ⟨#[], #[], []⟩ with heap := ((World.holding Tryd.prog os ⟨#[], #[], []⟩).heap.modify 2 fun | .cells _ t frozen => .cells #[.int .i64 0, .int .i64 2, .int .i64 4, .int .i64 5, .int .i64 7, .int .i64 9, .int .i64 10] t frozen | o => o) }
theorem fnMelodyMoveOctave_met (os : Os) : laidMet Tryd.prog Rows.fnMelodyMoveOctaveRow.laid ((fnMelodyMoveOctave_world os).forCall (fun _ _ => 0) ⟨#[], #[.slice none 0 0], []⟩).memory :=
  laidMet_of_run' 8 (by kernel_rfl) (by kernel_rfl)
theorem fnMelodyMoveOctave_reads (os : Os) {H : Type} (enc : TypeId × Value → H) : ∃ places, DataW.whole enc Tryd.prog ((fnMelodyMoveOctave_world os).forCall (fun _ _ => 0) ⟨#[], #[.slice none 0 0], []⟩).memory Tryd.f9.params.toList Rows.fnMelodyMoveOctaveSpec.vars false (#[.slice none 0 0] : Array Value).toList 8 = some ([.nil], [Rows.laid_loop_example_neumes_impl_stepHeights], places) :=
  ⟨((DataW.whole enc Tryd.prog ((fnMelodyMoveOctave_world os).forCall (fun _ _ => 0) ⟨#[], #[.slice none 0 0], []⟩).memory Tryd.f9.params.toList Rows.fnMelodyMoveOctaveSpec.vars false (#[.slice none 0 0] : Array Value).toList 8).getD ([], [], [])).2.2, by kernel_rfl⟩
set_option maxRecDepth 100000 in
theorem fnMelodyMoveOctave_lifted (os : Os) (started : os.Started) (H : Type) (enc : TypeId × Value → H) (F : Stop.Interp) :
    ReturnsInHanded {} Tryd.checked os 9 .any ((OpenSpec.ofChange Rows.fnMelodyMoveOctaveSpec).preRow enc Tryd.prog Tryd.f9 Rows.fnMelodyMoveOctaveRow.domain false Rows.fnMelodyMoveOctaveRow.laid) (((OpenSpec.ofChange Rows.fnMelodyMoveOctaveSpec).at F).post enc Tryd.prog Tryd.f9 false true false false) := by
  obtain ⟨places, hx⟩ := fnMelodyMoveOctave_reads os enc
  refine returnsInHanded_of_row (C := Tryd.checked) (s := OpenSpec.ofChange Rows.fnMelodyMoveOctaveSpec) own started (by kernel_rfl) Tryd.func9
    (witness_row_at (enc := enc) (C := Tryd.checked) false (fnMelodyMoveOctave_world os) #[.slice none 0 0] rfl (by kernel_rfl) (by kernel_rfl) (by kernel_rfl)
      (OpenSpec.preRow_of_cond 8 hx (by kernel_rfl) (fun k hk => by cases hk) (by kernel_rfl) (fnMelodyMoveOctave_met os))) ?_
  intro W base args ds gs before hval0 hW _ _ _ hL _ _
  have hval : ∀ (j : Nat) t v, Tryd.f9.params[j]? = some t → args[j]? = some v → Value.okWide Tryd.prog W .any base t v := hval0
  have hW' := hW
  obtain ⟨p, q, hA0, hV, rfl, _, _⟩ := hW
  have hA : DataW.TrodAll enc Tryd.prog W 0 (fun _ => true) true Tryd.f9.params.toList args.toList ds p := hA0
  rw [Tryd.params9] at hA hval
  obtain ⟨v0, vs0, d0, ds0, p0, q0, hargs, rfl, rfl, h0, r0⟩ := trodAll_cons hA
  obtain ⟨rfl, rfl, rfl⟩ := trodAll_nil r0
  obtain rfl : args = #[v0] := by cases args; simp_all
  obtain ⟨g0, rfl⟩ := vars1 hV
  obtain ⟨a0, n0, c0, rfl⟩ := okWide_slice Tryd.underlying22 (hval 0 22 v0 rfl rfl)
  have k0 := h0
  have lt0 : ∀ x ∈ p0, x.block < W.heap.size := by obtain ⟨m, hm⟩ := k0; exact DataW.trod_lt m _ _ _ hm
  have y0 := code_in h0
  clear hA0 hval0
  refine (fnMelodyMoveOctave_walk a0 n0 c0 W y0.1 y0.2.1 y0.2.2 (stepTab hL)).mono fun e W' ⟨he, hb⟩ => ?_
  subst he
  exact ⟨_, rfl, _, _, _, [], _, _, hW', trodAll_cons_mk (shut_bool Tryd.underlying4 _) trodAll_mk0, trodAll_cons_mk (Below.trod laidOut (by kernel_rfl) (of_decide_eq_true (by kernel_rfl)) k0 hb lt0) (trodAll_mk0), hb.trodVars laidOut (by kernel_rfl) hV, hb.frame _, fun h => by cases h⟩


end Go.Proofs.YtjodcaeohkjlnaaDoor
