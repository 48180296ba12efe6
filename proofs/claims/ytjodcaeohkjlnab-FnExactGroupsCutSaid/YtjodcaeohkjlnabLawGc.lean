/-
  The exact law of GroupsCut: for every list of tones, every list of melismas and every number the function answers as its model, in memory of its own, and leaves its arguments alone.
-/
import Derived.Test.YtjodcaeohkjlnabGc2
import Derived.Test.YtjodcaeohkjlnabGt
import Derived.Test.YtjodcaeohkjlnabOpenT
import Derived.Test.YtjodcaeohkjlnabOpenG
namespace Go.Proofs.Ytjodcaeohkjlnab
open Go.RowKit Go.ChangeShapes Go.WideShapes Go.ChangeAt
set_option maxRecDepth 100000
set_option linter.unusedVariables false

set_option maxHeartbeats 8000000 in
theorem exGroupsCut_walk (a : Option Addr) (c : Nat) (xs : List (Int × Bool)) (a' : Option Addr) (c' : Nat) (ys : List (Int × Bool)) (k : Int) (w : World) (h : ArgT w a xs) (hc : xs.length ≤ c) (hcap : c ≤ maxLen) (h' : ArgT w a' ys) (hc' : ys.length ≤ c') (hcap' : c' ≤ maxLen) :
    Calls Try.prog 15 #[.slice a xs.length c, .slice a' ys.length c', .int .i64 k] w fun e w' => e = .returned (.bool true) ∧ Below w.heap.size w w' := by
  unfold maxLen at hcap hcap'
  by_cases hn : xs.length ≤ 1048576
  case neg =>
    have HS := Lib.hid (szToneS_any a xs.length c (by omega))
    rw [if_neg hn] at HS
    clear h h' hn
    go_enter Try.func15, Try.ntmps15
    go_wp2_with (fail)
    (go_at_call 40; refine (HS.out _).mono ?_; rintro e wx ⟨rfl, rfl⟩)
    go_wp2
    go_ret
    exact ⟨rfl, Below.refl _ _⟩
  have HS := Lib.hid (szToneS_any a xs.length c (by omega))
  rw [if_pos hn] at HS
  have HS' := Lib.hid (szMelismaS_gen a' ys.length c' (1048576 - (xs.length : Int)) (by omega) (by omega) (by omega))
  have hg : decide ((1048576 : Int) - (xs.length : Int) < 0) = false := by simp; omega
  by_cases hm : (ys.length : Int) ≤ 1048576 - (xs.length : Int)
  case neg =>
    rw [if_neg hm] at HS'
    clear h h' hm
    go_enter Try.func15, Try.ntmps15
    go_wp2_with (fail)
    (go_at_call 40; refine (HS.out _).mono ?_; rintro e wx ⟨rfl, rfl⟩)
    go_wp2_with (fail)
    (go_at_call 48; refine (HS'.out _).mono ?_; rintro e wx ⟨rfl, rfl⟩)
    go_wp2
    go_ret
    exact ⟨rfl, Below.refl _ _⟩
  rw [if_pos hm] at HS'
  have hg' : decide ((1048576 : Int) - (xs.length : Int) - (ys.length : Int) < 0) = false := by simp; omega
  have hn' : ys.length ≤ 1048576 := by omega
  have HA := Lib.hid h
  have HB := Lib.hid h'
  have KS := Lib.hid (fun lo hi lo' hi' v u w h g => sGroupsCut_any lo hi lo' hi' v u xs ys k (by omega) w h g)
  have KI := Lib.hid (fun lo hi lo' hi' v u w h g => groupsCut_any lo hi lo' hi' v u xs ys k w h g)
  have hl : (gcL xs ys k).length ≤ 1048576 := by have := gcL_len xs ys k; omega
  clear h h' hm
  generalize gcL xs ys k = zs at KS KI hl
  generalize gcB xs ys k = ok at KS KI
  have en : ((1 : Int) + 2 * (xs.length : Int) + 2 * (ys.length : Int) < 0) = False := by simp; omega
  have en2 : ((1 : Int) + 2 * (zs.length : Int) < 0) = False := by simp; omega
  go_enter Try.func15, Try.ntmps15
  go_wp2_with (fail)
  (go_at_call 40; refine (HS.out _).mono ?_; rintro e wx ⟨rfl, rfl⟩)
  go_wp2_with (fail)
  (go_at_call 48; refine (HS'.out _).mono ?_; rintro e wx ⟨rfl, rfl⟩)
  go_wp2_with (fail)
  (go_at_call 42; refine (toToneS_any a c xs _ HA.out hn).mono ?_; rintro e w1 ⟨v0, rfl, hr0, hb1⟩)
  go_wp2_with (fail)
  (go_at_call 50; refine (toMelismaS_any a' c' ys _ (HB.out.below hb1) hn').mono ?_; rintro e w2 ⟨t0, rfl, ht0, hb2⟩)
  have hbw2 := bl_step hb1 hb2
  have hr0 := hr0.below hb2 (.inl (Nat.le_refl _))
  go_wp2_with (fail)
  (go_at_call 52; refine (KS.out _ _ _ _ _ _ _ hr0 ht0).mono ?_; rintro e w3 ⟨u0, rfl, hs0, hb3⟩)
  have hbw3 := bl_step hbw2 hb3
  clear hr0 ht0
  go_wp2_with (fail)
  (go_at_call 42; refine (toToneS_any a c xs _ (HA.out.below hbw3) hn).mono ?_; rintro e w4 ⟨v1, rfl, hr1, hb4⟩)
  have hbw4 := bl_step hbw3 hb4
  have hs0 := hs0.below hb4 (.inl (Nat.le_refl _))
  go_wp2_with (fail)
  (go_at_call 50; refine (toMelismaS_any a' c' ys _ (HB.out.below hbw4) hn').mono ?_; rintro e w5 ⟨t1, rfl, ht1, hb5⟩)
  have hbw5 := bl_step hbw4 hb5
  have z4 := hb4.size; have z5 := hb5.size
  have hs0 := hs0.below hb5 (.inl (by omega))
  have hr1 := hr1.below hb5 (.inl (Nat.le_refl _))
  go_wp2_with (fail)
  (go_at_call 38; refine (KI.out _ _ _ _ _ _ _ hr1 ht1).mono ?_; rintro e w6 ⟨u1, rfl, hs1, hb6⟩)
  have hbw6 := bl_step hbw5 hb6
  have z6 := hb6.size
  have hs0 := hs0.below hb6 (.inl (by omega))
  have hr1 := hr1.below hb6 (.inl (by omega))
  have ht1 := ht1.below hb6 (.inl (by omega))
  go_wp2_with (fail)
  (go_at_call 43; refine (eqToneS_any _ _ _ _ _ _ zs _ hs1 hs0).mono ?_; rintro e w7 ⟨rfl, hb7⟩)
  have hbw7 := bl_step hbw6 hb7
  have z7 := hb7.size
  have hs0 := hs0.below hb7 (.inl (by omega))
  have hs1 := hs1.below hb7 (.inl (by omega))
  have hr1 := hr1.below hb7 (.inl (by omega))
  have ht1 := ht1.below hb7 (.inl (by omega))
  go_wp2_with (fail)
  (go_at_call 42; refine (toToneS_any a c xs _ (HA.out.below hbw7) hn).mono ?_; rintro e w8 ⟨v2, rfl, hr2, hb8⟩)
  have hbw8 := bl_step hbw7 hb8
  have z8 := hb8.size
  have hs0 := hs0.below hb8 (.inl (by omega))
  have hs1 := hs1.below hb8 (.inl (by omega))
  have hr1 := hr1.below hb8 (.inl (by omega))
  have ht1 := ht1.below hb8 (.inl (by omega))
  go_wp2_with (fail)
  (go_at_call 43; refine (eqToneS_any _ _ _ _ _ _ xs _ hr1 hr2).mono ?_; rintro e w9 ⟨rfl, hb9⟩)
  have hbw9 := bl_step hbw8 hb9
  have z9 := hb9.size
  have hs0 := hs0.below hb9 (.inl (by omega))
  have hs1 := hs1.below hb9 (.inl (by omega))
  have hr1 := hr1.below hb9 (.inl (by omega))
  have ht1 := ht1.below hb9 (.inl (by omega))
  clear hr2
  go_wp2_with (fail)
  (go_at_call 50; refine (toMelismaS_any a' c' ys _ (HB.out.below hbw9) hn').mono ?_; rintro e w10 ⟨t2, rfl, ht2, hb10⟩)
  have hbw10 := bl_step hbw9 hb10
  have z10 := hb10.size
  have hs0 := hs0.below hb10 (.inl (by omega))
  have hs1 := hs1.below hb10 (.inl (by omega))
  have hr1 := hr1.below hb10 (.inl (by omega))
  have ht1 := ht1.below hb10 (.inl (by omega))
  go_wp2_with (fail)
  (go_at_call 51; refine (eqMelismaS_any _ _ _ _ _ _ ys _ ht1 ht2).mono ?_; rintro e w11 ⟨rfl, hb11⟩)
  have hbw11 := bl_step hbw10 hb11
  have z11 := hb11.size
  have hs0 := hs0.below hb11 (.inl (by omega))
  have hs1 := hs1.below hb11 (.inl (by omega))
  have hr1 := hr1.below hb11 (.inl (by omega))
  have ht1 := ht1.below hb11 (.inl (by omega))
  clear ht2 hb1 hb2 hb3 hb4 hb5 hb6 hb7 hb8 hb9 hb10 hb11
  go_wp2_with (fail)
  (go_at_call 53; refine (markToneS_any _ _ _ _ 1 (by omega) (by omega) hn _ hr1).mono ?_; rintro e w12 ⟨rfl, hq1, hk12⟩)
  have z12 := hk12.size
  have hbw12 : Below w.heap.size w w12 := hbw11.trans (hk12.below hbw3.size (by omega))
  have hs0 := hs0.turned hk12 (.inl (by omega))
  have hs1 := hs1.turned hk12 (.inr (by omega))
  have ht1 := ht1.turned hk12 (.inr (by omega))
  clear hq1 hr1 hk12
  go_wp2_with (fail)
  (go_at_call 54; refine (markMelismaS_any _ _ _ _ (1 + 2 * (xs.length : Int)) (by omega) (by omega) hn' _ ht1).mono ?_; rintro e w13 ⟨rfl, hq2, hk13⟩)
  have z13 := hk13.size
  have hbw13 : Below w.heap.size w w13 := hbw12.trans (hk13.below hbw4.size (by omega))
  have hs0 := hs0.turned hk13 (.inl (by omega))
  have hs1 := hs1.turned hk13 (.inr (by omega))
  clear hq2 ht1 hk13
  go_wp2_with (fail)
  (go_at_call 43; refine (eqToneS_any _ _ _ _ _ _ zs _ hs1 hs0).mono ?_; rintro e w14 ⟨rfl, hb14⟩)
  have z14 := hb14.size
  have hbw14 := bl_step hbw13 hb14
  have hs0 := hs0.below hb14 (.inl (by omega))
  have hs1 := hs1.below hb14 (.inl (by omega))
  clear hb14
  go_wp2_with (fail)
  (go_at_call 53; refine (markToneS_any _ _ _ _ 1 (by omega) (by omega) hl _ hs1).mono ?_; rintro e w15 ⟨rfl, hq1, hk15⟩)
  have z15 := hk15.size
  have hbw15 : Below w.heap.size w w15 := hbw14.trans (hk15.below hbw5.size (by omega))
  have hs0 := hs0.turned hk15 (.inl (by omega))
  clear hs1 hk15
  go_wp2_with (fail)
  (go_at_call 55; refine (heldToneS_any _ _ _ 1 _ (by omega) (by omega) hl _ hq1).mono ?_; rintro e wx ⟨rfl, rfl⟩)
  go_wp2_with (fail)
  (go_at_call 42; refine (toToneS_any a c xs _ (HA.out.below hbw15) hn).mono ?_; rintro e w16 ⟨v3, rfl, hr3, hb16⟩)
  have hbw16 := bl_step hbw15 hb16
  have z16 := hb16.size
  have hs0 := hs0.below hb16 (.inl (by omega))
  have hq1 := hq1.below hb16 (.inl (by omega))
  go_wp2_with (fail)
  (go_at_call 50; refine (toMelismaS_any a' c' ys _ (HB.out.below hbw16) hn').mono ?_; rintro e w17 ⟨t3, rfl, ht3, hb17⟩)
  have hbw17 := bl_step hbw16 hb17
  have z17 := hb17.size
  have hs0 := hs0.below hb17 (.inl (by omega))
  have hq1 := hq1.below hb17 (.inl (by omega))
  have hr3 := hr3.below hb17 (.inl (Nat.le_refl _))
  go_wp2_with (fail)
  (go_at_call 38; refine (KI.out _ _ _ _ _ _ _ hr3 ht3).mono ?_; rintro e w18 ⟨u2, rfl, hs2, hb18⟩)
  have hbw18 := bl_step hbw17 hb18
  have z18 := hb18.size
  have hs0 := hs0.below hb18 (.inl (by omega))
  have hq1 := hq1.below hb18 (.inl (by omega))
  clear hr3 ht3 hb16 hb17 hb18
  go_wp2_with (fail)
  (go_at_call 43; refine (eqToneS_any _ _ _ _ _ _ zs _ hs2 hs0).mono ?_; rintro e w19 ⟨rfl, hb19⟩)
  have hbw19 := bl_step hbw18 hb19
  have hq1 := hq1.below hb19 (.inl (by omega))
  clear hs0 hs2
  go_wp2_with (fail)
  (go_at_call 55; refine (heldToneS_any _ _ _ 1 _ (by omega) (by omega) hl _ hq1).mono ?_; rintro e wx ⟨rfl, rfl⟩)
  go_wp2
  go_ret
  exact ⟨rfl, hbw19⟩

set_option maxRecDepth 100000 in
theorem fnExactGroupsCut_lifted (os : Os) (started : os.Started) (H : Type) (enc : TypeId × Value → H) :
    ReturnsInHanded {} Try.checked os 15 .any (Rows.fnExactGroupsCutSpec.pre6 enc Try.prog Try.f15 Rows.fnExactGroupsCutRow.domain false) (Rows.fnExactGroupsCutSpec.post enc Try.prog Try.f15 false true false false) := by
  refine returnsInHanded_of_change (C := Try.checked) own started (by kernel_rfl) Try.func15
    (ChangeSpec.witness6 (enc := enc) (C := Try.checked) false ⟨#[], #[.slice none 0 0, .slice none 0 0, .int .i64 0], []⟩ 8 (by kernel_rfl) (by kernel_rfl) (by kernel_rfl) (by kernel_rfl)) ?_
  intro W base args ds gs before hval0 hW _ _
  have hval : ∀ (j : Nat) t v, Try.f15.params[j]? = some t → args[j]? = some v → Value.okWide Try.prog W .any base t v := hval0
  have hW' := hW
  obtain ⟨p, q, hA0, hV, rfl, _, _⟩ := hW
  have hA : DataW.TrodAll enc Try.prog W 0 (fun _ => true) true Try.f15.params.toList args.toList ds p := hA0
  rw [Try.params15] at hA hval
  obtain ⟨v0, vs0, d0, ds0, p0, q0, hargs, rfl, rfl, h0, r0⟩ := trodAll_cons hA
  obtain ⟨v1, vs1, d1, ds1, p1, q1, rfl, rfl, rfl, h1, r1⟩ := trodAll_cons r0
  obtain ⟨v2, vs2, d2, ds2, p2, q2, rfl, rfl, rfl, h2, r2⟩ := trodAll_cons r1
  obtain ⟨rfl, rfl, rfl⟩ := trodAll_nil r2
  obtain rfl : args = #[v0, v1, v2] := by cases args; simp_all
  obtain ⟨rfl, rfl⟩ := trodVars_none hV
  obtain ⟨a0, n0, c0, rfl⟩ := okWide_slice Try.underlying52 (hval 0 52 v0 rfl rfl)
  have k0 := h0
  have lt0 : ∀ x ∈ p0, x.block < W.heap.size := by obtain ⟨m, hm⟩ := k0; exact DataW.trod_lt m _ _ _ hm
  obtain ⟨x0, rfl, y0, z0, u0⟩ := tones_in h0
  obtain ⟨a1, n1, c1, rfl⟩ := okWide_slice Try.underlying60 (hval 1 60 v1 rfl rfl)
  have k1 := h1
  have lt1 : ∀ x ∈ p1, x.block < W.heap.size := by obtain ⟨m, hm⟩ := k1; exact DataW.trod_lt m _ _ _ hm
  obtain ⟨x1, rfl, y1, z1, u1⟩ := melismas_in h1
  obtain ⟨x2, rfl, rfl, rfl, y2⟩ := open_int Try.underlying3 (hval 2 3 v2 rfl rfl) h2
  clear hA0 hval0
  refine (exGroupsCut_walk a0 c0 x0 a1 c1 x1 x2 W y0 z0 u0 y1 z1 u1).mono fun e W' ⟨he, hb⟩ => ?_
  subst he
  exact ⟨_, rfl, _, _, _, [], _, [], hW', trodAll_cons_mk (shut_bool Try.underlying4 _) trodAll_mk0, trodAll_cons_mk (Below.trod laidOut (by kernel_rfl) (of_decide_eq_true (by kernel_rfl)) k0 hb lt0) (trodAll_cons_mk (Below.trod laidOut (by kernel_rfl) (of_decide_eq_true (by kernel_rfl)) k1 hb lt1) (trodAll_cons_mk (shut_int Try.underlying3 y2) (trodAll_mk0))), rfl, hb.frame _, fun h => by cases h⟩

theorem fnExactGroupsCut_holds : Rows.FnExactGroupsCutSaid :=
  OpenClaim.holds_of_wide 15 Try.f15 rfl rfl rfl rfl rfl rfl rfl ⟨rfl, rfl, rfl, rfl, rfl⟩ rfl rfl rfl rfl rfl (by kernel_rfl) Try.func15 (by kernel_rfl)
    (of_decide_eq_true (by kernel_rfl)) (by unfold Func.isWrapper; first | (rw [if_pos (by decide +kernel)]; kernel_rfl) | (rw [if_neg (by decide +kernel)]; exact ⟨rfl, rfl⟩))
    (fun os started H enc _ => fnExactGroupsCut_lifted os started H enc)

end Go.Proofs.Ytjodcaeohkjlnab
