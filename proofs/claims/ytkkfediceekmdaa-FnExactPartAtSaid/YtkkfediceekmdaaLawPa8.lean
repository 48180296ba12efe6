/-
  The exact law of PartAt: for every list and every beat the function answers as its model, and leaves its argument alone.
-/
import Derived.Test.YtkkfediceekmdaaSp8
import Derived.Test.YtkkfediceekmdaaVk
import Derived.Test.YtkkfediceekmdaaOpen
namespace Go.Proofs.Ytkkfediceekmdaa
open Go.RowKit Go.ChangeShapes Go.WideShapes Go.ChangeAt
set_option maxRecDepth 100000
set_option linter.unusedVariables false

set_option maxHeartbeats 4000000 in
theorem Pa8_walk (a0 : Option Addr) (c0 : Nat) (xs : List Vc) (k : Int) (w : World) (h0 : ArgV w a0 xs) (hc0 : xs.length ≤ c0) (hcap0 : c0 ≤ maxLen) (hw1 : (Lit.int .i64 k).wf = true) :
    Calls Try.prog 10 #[.slice a0 xs.length c0, .int .i64 k] w fun e w' => e = .returned (.bool true) ∧ Below w.heap.size w w' := by
  unfold maxLen at hcap0
  by_cases hn0 : xs.length ≤ 1048576
  case neg =>
    have hbw0 : Below w.heap.size w w := Below.refl _ _
    have HS0 := Lib.hid (fun w => szVoice1_any a0 xs.length c0 (by omega) w)
    rw [if_neg hn0] at HS0
    clear h0
    go_enter Try.func10, Try.ntmps10
    go_wp2_with (fail)
    (go_at_call 27; refine (HS0.out _).mono ?_; rintro e wx ⟨rfl, rfl⟩)
    go_wp2
    go_ret
    exact ⟨rfl, hbw0⟩
  have HS0 := Lib.hid (fun w => szVoice1_any a0 xs.length c0 (by omega) w)
  rw [if_pos hn0] at HS0
  have tz0 : decide ((1048576 : Int) - (xs.length : Int) < 0) = false := decide_eq_false (by omega)
  have HT0 := Lib.hid (fun w h => toVoiceS_any a0 c0 xs w h (by omega))
  have HA0 := Lib.hid h0
  have KS := Lib.hid (fun v w h => sPartAt_any v xs k w h)
  have KI := Lib.hid (fun v w h => partAt_any v xs k w h)
  generalize patT xs k = t at KS KI
  generalize patOk xs k = ok at KS KI
  clear h0
  have hbw0 : Below w.heap.size w w := Below.refl _ _
  go_enter Try.func10, Try.ntmps10
  go_wp2_with (fail)
  (go_at_call 27; refine (HS0.out _).mono ?_; rintro e wx ⟨rfl, rfl⟩)
  go_wp2_with (fail)
  (go_at_call 29; refine (HT0.out _ (HA0.out.below hbw0)).mono ?_; rintro e w1 ⟨vp0, rfl, rp0, hb1⟩)
  have z1 := hb1.size
  have hbw1 := bl_step hbw0 hb1
  clear hb1
  go_wp2_with (fail)
  (go_at_call 42; refine (KS.out _ _ rp0.view).mono ?_; rintro e w2 ⟨rfl, hb2⟩)
  have z2 := hb2.size
  have hbw2 := bl_step hbw1 hb2
  have rp0 := rp0.below hb2 (.inl (by omega))
  clear hb2
  have rp0 := rp0.below ((Below.refl _ w2).alloc (Nat.le_refl _) (.cells #[.int .i64 t.1, .bool t.2] 52)) (.inl (by omega))
  have hbw2 := hbw2.alloc hbw2.size (.cells #[.int .i64 t.1, .bool t.2] 52)
  have sb2 : (w2.alloc (.cells #[.int .i64 t.1, .bool t.2] 52)).heap.size = w2.heap.size + 1 := World.size_alloc _ _
  clear rp0
  go_wp2_with (fail)
  (go_at_call 29; refine (HT0.out _ (HA0.out.below hbw2)).mono ?_; rintro e w3 ⟨vx0, rfl, rx0, hb3⟩)
  have z3 := hb3.size
  have hbw3 := bl_step hbw2 hb3
  obtain ⟨hcb3, _, _⟩ := bl hb3
  have bA0 := (hcb3 w2.heap.size 0 (by simp)).trans (box2_cell w2 _ _ _).1
  have bA1 := (hcb3 w2.heap.size 1 (by simp)).trans (box2_cell w2 _ _ _).2
  have z3 : w2.heap.size + 1 ≤ w3.heap.size := by simpa using z3
  clear hcb3
  clear hb3
  go_wp2_with (fail)
  (go_at_call 43; refine (KI.out _ _ rx0.view).mono ?_; rintro e w4 ⟨rfl, hb4⟩)
  have z4 := hb4.size
  have hbw4 := bl_step hbw3 hb4
  have rx0 := rx0.below hb4 (.inl (by omega))
  have hbk4 := hb4
  clear hb4
  obtain ⟨hcb4, _, _⟩ := bl (w1 := w4) (W := w3) hbk4
  have bA0 := (hcb4 _ 0 (by omega)).trans bA0
  have bA1 := (hcb4 _ 1 (by omega)).trans bA1
  have qA : w2.heap.size < w4.heap.size := by omega
  clear hcb4 hbk4
  have rx0 := rx0.below ((Below.refl _ w4).alloc (Nat.le_refl _) (.cells #[.int .i64 t.1, .bool t.2] 52)) (.inl (by omega))
  have hbw4 := hbw4.alloc hbw4.size (.cells #[.int .i64 t.1, .bool t.2] 52)
  have sb4 : (w4.alloc (.cells #[.int .i64 t.1, .bool t.2] 52)).heap.size = w4.heap.size + 1 := World.size_alloc _ _
  go_wp2_with (fail)
  (go_at_call 44; refine (eqTone_yes _ _ _).mono ?_; rintro e w5 ⟨rfl, hb5⟩)
  have z5 := hb5.size
  have hbw5 := bl_step hbw4 hb5
  have rx0 := rx0.below hb5 (.inl (by omega))
  clear hb5
  go_wp2_with (fail)
  (go_at_call 29; refine (HT0.out _ (HA0.out.below hbw5)).mono ?_; rintro e w6 ⟨vq0, rfl, rq0, hb6⟩)
  have z6 := hb6.size
  have hbw6 := bl_step hbw5 hb6
  have rx0 := rx0.below hb6 (.inl (by omega))
  clear hb6
  go_wp2_with (fail)
  (go_at_call 31; refine (eqVoiceV_any _ _ xs _ rx0.view rq0.view).mono ?_; rintro e w7 ⟨rfl, hb7⟩)
  have z7 := hb7.size
  have hbw7 := bl_step hbw6 hb7
  have rx0 := rx0.below hb7 (.inl (by omega))
  have rq0 := rq0.below hb7 (.inl (by omega))
  clear hb7
  clear rq0
  go_wp2
  go_ret
  exact ⟨rfl, hbw7⟩

set_option maxRecDepth 100000 in
theorem fnExactPartAt_lifted (os : Os) (started : os.Started) (H : Type) (enc : TypeId × Value → H) :
    ReturnsInHanded {} Try.checked os 10 .any (Rows.fnExactPartAtSpec.pre6 enc Try.prog Try.f10 Rows.fnExactPartAtRow.domain false) (Rows.fnExactPartAtSpec.post enc Try.prog Try.f10 false true false false) := by
  refine returnsInHanded_of_change (C := Try.checked) own started (by kernel_rfl) Try.func10
    (ChangeSpec.witness6 (enc := enc) (C := Try.checked) false ⟨#[], #[.slice none 0 0, .int .i64 0], []⟩ 8 (by kernel_rfl) (by kernel_rfl) (by kernel_rfl) (by kernel_rfl)) ?_
  intro W base args ds gs before hval0 hW _ _
  have hval : ∀ (j : Nat) t v, Try.f10.params[j]? = some t → args[j]? = some v → Value.okWide Try.prog W .any base t v := hval0
  have hW' := hW
  obtain ⟨p, q, hA0, hV, rfl, _, _⟩ := hW
  have hA : DataW.TrodAll enc Try.prog W 0 (fun _ => true) true Try.f10.params.toList args.toList ds p := hA0
  rw [Try.params10] at hA hval
  obtain ⟨v0, vs0, d0, ds0, p0, q0, hargs, rfl, rfl, h0, r0⟩ := trodAll_cons hA
  obtain ⟨v1, vs1, d1, ds1, p1, q1, rfl, rfl, rfl, h1, r1⟩ := trodAll_cons r0
  obtain ⟨rfl, rfl, rfl⟩ := trodAll_nil r1
  obtain rfl : args = #[v0, v1] := by cases args; simp_all
  obtain ⟨rfl, rfl⟩ := trodVars_none hV
  obtain ⟨a0, n0, c0, rfl⟩ := okWide_slice Try.underlying33 (hval 0 33 v0 rfl rfl)
  have k0 := h0
  have lt0 : ∀ x ∈ p0, x.block < W.heap.size := by obtain ⟨m, hm⟩ := k0; exact DataW.trod_lt m _ _ _ hm
  obtain ⟨x0, rfl, y0, z0, u0⟩ := voices_in h0
  obtain ⟨x1, rfl, rfl, rfl, y1⟩ := open_int Try.underlying3 (hval 1 3 v1 rfl rfl) h1
  clear hA0 hval0
  refine (Pa8_walk a0 c0 x0 x1 W y0 z0 u0 y1).mono fun e W' ⟨he, hb⟩ => ?_
  subst he
  exact ⟨_, rfl, _, _, _, [], _, [], hW', trodAll_cons_mk (shut_bool Try.underlying4 _) trodAll_mk0, trodAll_cons_mk (Below.trod laidOut (by kernel_rfl) (of_decide_eq_true (by kernel_rfl)) k0 hb lt0) (trodAll_cons_mk (shut_int Try.underlying3 y1) (trodAll_mk0)), rfl, hb.frame _, fun h => by cases h⟩

theorem fnExactPartAt_holds : Rows.FnExactPartAtSaid :=
  OpenClaim.holds_of_wide 10 Try.f10 rfl rfl rfl rfl rfl rfl rfl ⟨rfl, rfl, rfl, rfl, rfl⟩ rfl rfl rfl rfl rfl (by kernel_rfl) Try.func10 (by kernel_rfl)
    (of_decide_eq_true (by kernel_rfl)) (by unfold Func.isWrapper; first | (rw [if_pos (by decide +kernel)]; kernel_rfl) | (rw [if_neg (by decide +kernel)]; exact ⟨rfl, rfl⟩))
    (fun os started H enc _ => fnExactPartAt_lifted os started H enc)

end Go.Proofs.Ytkkfediceekmdaa
