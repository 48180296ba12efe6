/-
  The exact law of HexAll: for every tone the function lists the steps that its model lists, in memory of its own.
-/
import Derived.Test.YtjpkmcappefolaaHexAll2
import Derived.Test.YtjpkmcappefolaaOpen
namespace Go.Proofs.Ytjpkmcappefolaa
open Go.RowKit Go.ChangeShapes Go.WideShapes Go.ChangeAt
set_option linter.unusedVariables false

set_option maxHeartbeats 4000000 in
theorem exHexAll_walk (s : Int) (b : Bool) (w : World) :
    Calls Try.prog 13 #[.agg #[.int .i64 s, .bool b]] w fun e w' => e = .returned (.bool true) ∧ Below w.heap.size w w' := by
  have hl : (hall s b 21).length ≤ 1000000 := by have := hall_len s b 21; omega
  have HS : ∀ w, Calls Try.prog 36 #[.agg #[.int .i64 s, .bool b]] w (Built w (hall s b 21)) := sHexAll_any s b
  have HI : ∀ w, Calls Try.prog 37 #[.agg #[.int .i64 s, .bool b]] w (Built w (hall s b 21)) := fun w => by rw [hall_rall]; exact hexAll_any s b w
  have KS := Lib.hid HS
  have KI := Lib.hid HI
  clear HS HI
  generalize hall s b 21 = xs at hl KS KI
  have en : ((1 : Int) + (xs.length : Int) < 0) = False := by simp; omega
  go_enter Try.func13, Try.ntmps13
  go_wp2_with (fail)
  (go_at_call 24; refine (toTone_any _ _ _).mono ?_; rintro e w1 ⟨rfl, hb1⟩; obtain ⟨hc1, hf1, hz1⟩ := bl hb1; (try simp at hz1); (try (refine got (p := w.heap.size < w1.heap.size) ?_ ?_; (focus (go_size; done)); intro q1_w0)); (try (refine got (p := w1.cell? ⟨w.heap.size, 0, none⟩ = some (.int .i64 s)) ?_ ?_; (focus (refine (hc1 _ _ ?_).trans ?_; (focus (go_size; done)); go_simp; done)); intro c1_w0_0)); (try (refine got (p := w1.cell? ⟨w.heap.size, 1, none⟩ = some (.bool b)) ?_ ?_; (focus (refine (hc1 _ _ ?_).trans ?_; (focus (go_size; done)); go_simp; done)); intro c1_w0_1)); (try (refine got (p := ∀ o, w1.frozen? ⟨w.heap.size, o, none⟩ = false) ?_ ?_; (focus (intro o; refine (hf1 _ _ ?_).trans ?_; (focus (go_size; done)); go_simp; done)); intro f1_w0)); clear hc1 hf1)
  go_wp2_with (fail)
  (go_at_call 36; refine (KS.out _).mono ?_; rintro e w2 ⟨v0, rfl, hr0, hb2⟩; obtain ⟨hc2, hf2, hz2⟩ := bl hb2; (try simp at hz2); (try (refine got (p := w.heap.size < w2.heap.size) ?_ ?_; (focus (go_size; done)); intro q2_w0)); (try (refine got (p := w2.cell? ⟨w.heap.size, 0, none⟩ = some (.int .i64 s)) ?_ ?_; (focus (refine (hc2 _ _ ?_).trans ?_; (focus (go_size; done)); go_simp; done)); intro c2_w0_0)); (try (refine got (p := w2.cell? ⟨w.heap.size, 1, none⟩ = some (.bool b)) ?_ ?_; (focus (refine (hc2 _ _ ?_).trans ?_; (focus (go_size; done)); go_simp; done)); intro c2_w0_1)); (try (refine got (p := ∀ o, w2.frozen? ⟨w.heap.size, o, none⟩ = false) ?_ ?_; (focus (intro o; refine (hf2 _ _ ?_).trans ?_; (focus (go_size; done)); go_simp; done)); intro f2_w0)); clear hc2 hf2)
  go_wp2_with (fail)
  (go_at_call 24; refine (toTone_any _ _ _).mono ?_; rintro e w3 ⟨rfl, hb3⟩; obtain ⟨hc3, hf3, hz3⟩ := bl hb3; (try simp at hz3); (try (refine got (p := w.heap.size < w3.heap.size) ?_ ?_; (focus (go_size; done)); intro q3_w0)); (try (refine got (p := w3.cell? ⟨w.heap.size, 0, none⟩ = some (.int .i64 s)) ?_ ?_; (focus (refine (hc3 _ _ ?_).trans ?_; (focus (go_size; done)); go_simp; done)); intro c3_w0_0)); (try (refine got (p := w3.cell? ⟨w.heap.size, 1, none⟩ = some (.bool b)) ?_ ?_; (focus (refine (hc3 _ _ ?_).trans ?_; (focus (go_size; done)); go_simp; done)); intro c3_w0_1)); (try (refine got (p := ∀ o, w3.frozen? ⟨w.heap.size, o, none⟩ = false) ?_ ?_; (focus (intro o; refine (hf3 _ _ ?_).trans ?_; (focus (go_size; done)); go_simp; done)); intro f3_w0)); clear hc3 hf3)
  have hr0 := hr0.below hb3 (.inl (Nat.le_refl _))
  go_wp2_with (fail)
  (go_at_call 37; refine (KI.out _).mono ?_; rintro e w4 ⟨v1, rfl, hr1, hb4⟩; obtain ⟨hc4, hf4, hz4⟩ := bl hb4; (try simp at hz4); (try (refine got (p := w.heap.size < w4.heap.size) ?_ ?_; (focus (go_size; done)); intro q4_w0)); (try (refine got (p := w4.cell? ⟨w.heap.size, 0, none⟩ = some (.int .i64 s)) ?_ ?_; (focus (refine (hc4 _ _ ?_).trans ?_; (focus (go_size; done)); go_simp; done)); intro c4_w0_0)); (try (refine got (p := w4.cell? ⟨w.heap.size, 1, none⟩ = some (.bool b)) ?_ ?_; (focus (refine (hc4 _ _ ?_).trans ?_; (focus (go_size; done)); go_simp; done)); intro c4_w0_1)); (try (refine got (p := ∀ o, w4.frozen? ⟨w.heap.size, o, none⟩ = false) ?_ ?_; (focus (intro o; refine (hf4 _ _ ?_).trans ?_; (focus (go_size; done)); go_simp; done)); intro f4_w0)); clear hc4 hf4)
  have hr0 := hr0.below hb4 (.inl hz3)
  go_wp2_with (fail)
  (go_at_call 38; refine (eqInt_any _ _ _ _ _ _ _ _ hr1 hr0).mono ?_; rintro e w5 ⟨rfl, hb5⟩; obtain ⟨hc5, hf5, hz5⟩ := bl hb5; (try simp at hz5); (try (refine got (p := w.heap.size < w5.heap.size) ?_ ?_; (focus (go_size; done)); intro q5_w0)); (try (refine got (p := w5.cell? ⟨w.heap.size, 0, none⟩ = some (.int .i64 s)) ?_ ?_; (focus (refine (hc5 _ _ ?_).trans ?_; (focus (go_size; done)); go_simp; done)); intro c5_w0_0)); (try (refine got (p := w5.cell? ⟨w.heap.size, 1, none⟩ = some (.bool b)) ?_ ?_; (focus (refine (hc5 _ _ ?_).trans ?_; (focus (go_size; done)); go_simp; done)); intro c5_w0_1)); (try (refine got (p := ∀ o, w5.frozen? ⟨w.heap.size, o, none⟩ = false) ?_ ?_; (focus (intro o; refine (hf5 _ _ ?_).trans ?_; (focus (go_size; done)); go_simp; done)); intro f5_w0)); clear hc5 hf5)
  have hr0 := hr0.below hb5 (.inl (Nat.le_trans hz3 hz4))
  have hr1 := hr1.below hb5 (.inl (Nat.le_refl _))
  go_wp2_with (fail)
  (go_at_call 39; refine (markInt_any _ _ _ _ 1 (by omega) (by omega) hl _ hr1).mono ?_; rintro e w6 ⟨rfl, hr1', hb6⟩)
  have hr0 := hr0.below hb6 (.inl hz3)
  have l3 : w.heap.size < w3.heap.size := by omega
  have c6a : w6.cell? ⟨w.heap.size, 0, none⟩ = some (.int .i64 s) := (hb6.cell (p := ⟨w.heap.size, 0, none⟩) l3).trans c5_w0_0
  have c6b : w6.cell? ⟨w.heap.size, 1, none⟩ = some (.bool b) := (hb6.cell (p := ⟨w.heap.size, 1, none⟩) l3).trans c5_w0_1
  have l6 : w.heap.size < w6.heap.size := by have := hb6.size; omega
  have hbw : Below w.heap.size w w6 := by
    refine Below.trans (b := w5) ?_ (hb6.mono (Nat.le_of_lt l3))
    (repeat' (first | (with_reducible exact Below.refl _ _) | (with_reducible refine Below.alloc ?_ ?_ _) | (with_reducible refine Below.drew ?_) | (with_reducible refine Below.setCell ?_ ?_ _) | (with_reducible refine bl_step ?_ (by assumption)) | go_size))
  clear c1_w0_0 c1_w0_1 c2_w0_0 c2_w0_1 c3_w0_0 c3_w0_1 c4_w0_0 c4_w0_1 c5_w0_0 c5_w0_1 hb1 hb2 hb3 hb4 hb5
  go_wp2_with (fail)
  (go_at_call 40; refine (heldInt_any _ _ _ 1 _ (by omega) (by omega) hl _ hr1').mono ?_; rintro e wx ⟨rfl, rfl⟩)
  go_wp2_with (fail)
  (go_at_call 24; refine (toTone_any _ _ _).mono ?_; rintro e w8 ⟨rfl, hb8⟩; obtain ⟨hc8, hf8, hz8⟩ := bl hb8; (try simp at hz8); (try (refine got (p := w.heap.size < w8.heap.size) ?_ ?_; (focus (go_size; done)); intro q8_w0)); (try (refine got (p := w8.cell? ⟨w.heap.size, 0, none⟩ = some (.int .i64 s)) ?_ ?_; (focus (refine (hc8 _ _ ?_).trans ?_; (focus (go_size; done)); go_simp; done)); intro c8_w0_0)); (try (refine got (p := w8.cell? ⟨w.heap.size, 1, none⟩ = some (.bool b)) ?_ ?_; (focus (refine (hc8 _ _ ?_).trans ?_; (focus (go_size; done)); go_simp; done)); intro c8_w0_1)); (try (refine got (p := ∀ o, w8.frozen? ⟨w.heap.size, o, none⟩ = false) ?_ ?_; (focus (intro o; refine (hf8 _ _ ?_).trans ?_; (focus (go_size; done)); go_simp; done)); intro f8_w0)); clear hc8 hf8)
  have hr0 := hr0.below hb8 (.inl (by have := hb6.size; omega))
  have hr1' := hr1'.below hb8 (.inl (by have := hb6.size; omega))
  go_wp2_with (fail)
  (go_at_call 37; refine (KI.out _).mono ?_; rintro e w9 ⟨v2, rfl, hr2, hb9⟩; obtain ⟨hc9, hf9, hz9⟩ := bl hb9; (try simp at hz9); (try (refine got (p := w.heap.size < w9.heap.size) ?_ ?_; (focus (go_size; done)); intro q9_w0)); (try (refine got (p := w9.cell? ⟨w.heap.size, 0, none⟩ = some (.int .i64 s)) ?_ ?_; (focus (refine (hc9 _ _ ?_).trans ?_; (focus (go_size; done)); go_simp; done)); intro c9_w0_0)); (try (refine got (p := w9.cell? ⟨w.heap.size, 1, none⟩ = some (.bool b)) ?_ ?_; (focus (refine (hc9 _ _ ?_).trans ?_; (focus (go_size; done)); go_simp; done)); intro c9_w0_1)); (try (refine got (p := ∀ o, w9.frozen? ⟨w.heap.size, o, none⟩ = false) ?_ ?_; (focus (intro o; refine (hf9 _ _ ?_).trans ?_; (focus (go_size; done)); go_simp; done)); intro f9_w0)); clear hc9 hf9)
  have hr0 := hr0.below hb9 (.inl (by have := hb6.size; omega))
  have hr1' := hr1'.below hb9 (.inl (by have := hb6.size; omega))
  go_wp2_with (fail)
  (go_at_call 38; refine (eqInt_any _ _ _ _ _ _ _ _ hr2 hr0).mono ?_; rintro e w10 ⟨rfl, hb10⟩; obtain ⟨hc10, hf10, hz10⟩ := bl hb10; (try simp at hz10); (try (refine got (p := w.heap.size < w10.heap.size) ?_ ?_; (focus (go_size; done)); intro q10_w0)); (try (refine got (p := w10.cell? ⟨w.heap.size, 0, none⟩ = some (.int .i64 s)) ?_ ?_; (focus (refine (hc10 _ _ ?_).trans ?_; (focus (go_size; done)); go_simp; done)); intro c10_w0_0)); (try (refine got (p := w10.cell? ⟨w.heap.size, 1, none⟩ = some (.bool b)) ?_ ?_; (focus (refine (hc10 _ _ ?_).trans ?_; (focus (go_size; done)); go_simp; done)); intro c10_w0_1)); (try (refine got (p := ∀ o, w10.frozen? ⟨w.heap.size, o, none⟩ = false) ?_ ?_; (focus (intro o; refine (hf10 _ _ ?_).trans ?_; (focus (go_size; done)); go_simp; done)); intro f10_w0)); clear hc10 hf10)
  have hr1' := hr1'.below hb10 (.inl (by have := hb6.size; omega))
  go_wp2_with (fail)
  (go_at_call 40; refine (heldInt_any _ _ _ 1 _ (by omega) (by omega) hl _ hr1').mono ?_; rintro e wx ⟨rfl, rfl⟩)
  go_wp2
  go_ret
  exact ⟨rfl, bl_step (bl_step (bl_step hbw hb8) hb9) hb10⟩

set_option maxRecDepth 100000 in
theorem fnExactHexAll_lifted (os : Os) (started : os.Started) (H : Type) (enc : TypeId × Value → H) :
    ReturnsInHanded {} Try.checked os 13 .any (Rows.fnExactHexAllSpec.pre6 enc Try.prog Try.f13 Rows.fnExactHexAllRow.domain false) (Rows.fnExactHexAllSpec.post enc Try.prog Try.f13 false true false false) := by
  refine returnsInHanded_of_change (C := Try.checked) own started (by kernel_rfl) Try.func13
    (ChangeSpec.witness6 (enc := enc) (C := Try.checked) false ⟨#[], #[.agg #[.int .i64 0, .bool false]], []⟩ 8 (by kernel_rfl) (by kernel_rfl) (by kernel_rfl) (by kernel_rfl)) ?_
  intro W base args ds gs before hval0 hW _ _
  have hval : ∀ (j : Nat) t v, Try.f13.params[j]? = some t → args[j]? = some v → Value.okWide Try.prog W .any base t v := hval0
  have hW' := hW
  obtain ⟨p, q, hA0, hV, rfl, _, _⟩ := hW
  have hA : DataW.TrodAll enc Try.prog W 0 (fun _ => true) true Try.f13.params.toList args.toList ds p := hA0
  rw [Try.params13] at hA hval
  obtain ⟨v0, vs0, d0, ds0, p0, q0, hargs, rfl, rfl, h0, r0⟩ := trodAll_cons hA
  obtain ⟨rfl, rfl, rfl⟩ := trodAll_nil r0
  obtain rfl : args = #[v0] := by cases args; simp_all
  obtain ⟨rfl, rfl⟩ := trodVars_none hV
  obtain ⟨x0, z0, y0, rfl, rfl, rfl⟩ := open_tone (hval 0 36 v0 rfl rfl) h0
  clear hA0 hval0
  refine (exHexAll_walk x0 z0 W).mono fun e W' ⟨he, hb⟩ => ?_
  subst he
  exact ⟨_, rfl, _, _, _, [], _, [], hW', trodAll_cons_mk (shut_bool Try.underlying4 _) trodAll_mk0, trodAll_cons_mk (shut_tone y0 z0) (trodAll_mk0), rfl, hb.frame _, fun h => by cases h⟩

theorem fnExactHexAll_holds : Rows.FnExactHexAllSaid :=
  OpenClaim.holds_of_wide 13 Try.f13 rfl rfl rfl rfl rfl rfl rfl ⟨rfl, rfl, rfl, rfl, rfl⟩ rfl rfl rfl rfl rfl (by kernel_rfl) Try.func13 (by kernel_rfl)
    (of_decide_eq_true (by kernel_rfl)) (by unfold Func.isWrapper; first | (rw [if_pos (by decide +kernel)]; kernel_rfl) | (rw [if_neg (by decide +kernel)]; exact ⟨rfl, rfl⟩))
    (fun os started H enc _ => fnExactHexAll_lifted os started H enc)

end Go.Proofs.Ytjpkmcappefolaa
