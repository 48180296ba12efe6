/-
  The exact laws of HexValid, HexTone, HexSyllable and HexKind: for every step, syllable and tone the function answers as its model.
-/
import Derived.Test.YtjpkmcappefolaaHexs
import Derived.Test.YtjpkmcappefolaaOpen
namespace Go.Proofs.Ytjpkmcappefolaa
open Go.RowKit Go.ChangeShapes Go.WideShapes Go.ChangeAt
set_option linter.unusedVariables false

theorem exHexValid_walk (n : Int) (w : World) :
    Calls Try.prog 10 #[.int .i64 n] w fun e w' => e = .returned (.bool true) ∧ Below w.heap.size w w' := by
  go_enter Try.func10, Try.ntmps10
  go_wp2_with (fail)
  go_at_call 32; refine (sHexValid_any _ _).mono ?_; rintro e w1 ⟨rfl, hb1⟩; obtain ⟨hc1, hf1, hz1⟩ := bl hb1; (try simp at hz1); clear hc1 hf1
  go_wp2_with (fail)
  go_at_call 33; refine (hexValid_any _ _).mono ?_; rintro e w2 ⟨rfl, hb2⟩; obtain ⟨hc2, hf2, hz2⟩ := bl hb2; (try simp at hz2); clear hc2 hf2
  go_wp2
  go_ret
  exact ⟨rfl, by (repeat' (first | (with_reducible exact Below.refl _ _) | (with_reducible refine Below.alloc ?_ ?_ _) | (with_reducible refine Below.drew ?_) | (with_reducible refine Below.setCell ?_ ?_ _) | (with_reducible refine bl_step ?_ (by assumption)) | go_size))⟩

theorem exHexKind_walk (n : Int) (w : World) :
    Calls Try.prog 14 #[.int .i64 n] w fun e w' => e = .returned (.bool true) ∧ Below w.heap.size w w' := by
  go_enter Try.func14, Try.ntmps14
  go_wp2_with (fail)
  go_at_call 41; refine (sHexKind_any _ _).mono ?_; rintro e w1 ⟨rfl, hb1⟩; obtain ⟨hc1, hf1, hz1⟩ := bl hb1; (try simp at hz1); clear hc1 hf1
  go_wp2_with (fail)
  go_at_call 22; refine (hexKind_any _ _).mono ?_; rintro e w2 ⟨rfl, hb2⟩; obtain ⟨hc2, hf2, hz2⟩ := bl hb2; (try simp at hz2); clear hc2 hf2
  go_wp2
  go_ret
  exact ⟨rfl, by (repeat' (first | (with_reducible exact Below.refl _ _) | (with_reducible refine Below.alloc ?_ ?_ _) | (with_reducible refine Below.drew ?_) | (with_reducible refine Below.setCell ?_ ?_ _) | (with_reducible refine bl_step ?_ (by assumption)) | go_size))⟩

theorem exHexSyllable_walk (n s : Int) (b : Bool) (w : World) :
    Calls Try.prog 12 #[.int .i64 n, .agg #[.int .i64 s, .bool b]] w fun e w' => e = .returned (.bool true) ∧ Below w.heap.size w w' := by
  go_enter Try.func12, Try.ntmps12
  go_wp2_with (fail)
  go_at_call 24; refine (toTone_any _ _ _).mono ?_; rintro e w1 ⟨rfl, hb1⟩; obtain ⟨hc1, hf1, hz1⟩ := bl hb1; (try simp at hz1); (try (refine got (p := w.heap.size < w1.heap.size) ?_ ?_; (focus (go_size; done)); intro q1_w0)); (try (refine got (p := w1.cell? ⟨w.heap.size, 0, none⟩ = some (.int .i64 s)) ?_ ?_; (focus (refine (hc1 _ _ ?_).trans ?_; (focus (go_size; done)); go_simp; done)); intro c1_w0_0)); (try (refine got (p := w1.cell? ⟨w.heap.size, 1, none⟩ = some (.bool b)) ?_ ?_; (focus (refine (hc1 _ _ ?_).trans ?_; (focus (go_size; done)); go_simp; done)); intro c1_w0_1)); (try (refine got (p := ∀ o, w1.frozen? ⟨w.heap.size, o, none⟩ = false) ?_ ?_; (focus (intro o; refine (hf1 _ _ ?_).trans ?_; (focus (go_size; done)); go_simp; done)); intro f1_w0)); clear hc1 hf1
  go_wp2_with (fail)
  go_at_call 34; refine (sHexSyllable_any _ _ _ _).mono ?_; rintro e w2 ⟨rfl, hb2⟩; obtain ⟨hc2, hf2, hz2⟩ := bl hb2; (try simp at hz2); (try (refine got (p := w.heap.size < w2.heap.size) ?_ ?_; (focus (go_size; done)); intro q2_w0)); (try (refine got (p := w2.cell? ⟨w.heap.size, 0, none⟩ = some (.int .i64 s)) ?_ ?_; (focus (refine (hc2 _ _ ?_).trans ?_; (focus (go_size; done)); go_simp; done)); intro c2_w0_0)); (try (refine got (p := w2.cell? ⟨w.heap.size, 1, none⟩ = some (.bool b)) ?_ ?_; (focus (refine (hc2 _ _ ?_).trans ?_; (focus (go_size; done)); go_simp; done)); intro c2_w0_1)); (try (refine got (p := ∀ o, w2.frozen? ⟨w.heap.size, o, none⟩ = false) ?_ ?_; (focus (intro o; refine (hf2 _ _ ?_).trans ?_; (focus (go_size; done)); go_simp; done)); intro f2_w0)); clear hc2 hf2
  go_wp2_with (fail)
  go_at_call 24; refine (toTone_any _ _ _).mono ?_; rintro e w3 ⟨rfl, hb3⟩; obtain ⟨hc3, hf3, hz3⟩ := bl hb3; (try simp at hz3); (try (refine got (p := w.heap.size < w3.heap.size) ?_ ?_; (focus (go_size; done)); intro q3_w0)); (try (refine got (p := w3.cell? ⟨w.heap.size, 0, none⟩ = some (.int .i64 s)) ?_ ?_; (focus (refine (hc3 _ _ ?_).trans ?_; (focus (go_size; done)); go_simp; done)); intro c3_w0_0)); (try (refine got (p := w3.cell? ⟨w.heap.size, 1, none⟩ = some (.bool b)) ?_ ?_; (focus (refine (hc3 _ _ ?_).trans ?_; (focus (go_size; done)); go_simp; done)); intro c3_w0_1)); (try (refine got (p := ∀ o, w3.frozen? ⟨w.heap.size, o, none⟩ = false) ?_ ?_; (focus (intro o; refine (hf3 _ _ ?_).trans ?_; (focus (go_size; done)); go_simp; done)); intro f3_w0)); clear hc3 hf3
  go_wp2_with (fail)
  go_at_call 35; refine (hexSyllable_any _ _ _ _).mono ?_; rintro e w4 ⟨rfl, hb4⟩; obtain ⟨hc4, hf4, hz4⟩ := bl hb4; (try simp at hz4); (try (refine got (p := w.heap.size < w4.heap.size) ?_ ?_; (focus (go_size; done)); intro q4_w0)); (try (refine got (p := w4.cell? ⟨w.heap.size, 0, none⟩ = some (.int .i64 s)) ?_ ?_; (focus (refine (hc4 _ _ ?_).trans ?_; (focus (go_size; done)); go_simp; done)); intro c4_w0_0)); (try (refine got (p := w4.cell? ⟨w.heap.size, 1, none⟩ = some (.bool b)) ?_ ?_; (focus (refine (hc4 _ _ ?_).trans ?_; (focus (go_size; done)); go_simp; done)); intro c4_w0_1)); (try (refine got (p := ∀ o, w4.frozen? ⟨w.heap.size, o, none⟩ = false) ?_ ?_; (focus (intro o; refine (hf4 _ _ ?_).trans ?_; (focus (go_size; done)); go_simp; done)); intro f4_w0)); clear hc4 hf4
  go_wp2
  go_ret
  exact ⟨rfl, by (repeat' (first | (with_reducible exact Below.refl _ _) | (with_reducible refine Below.alloc ?_ ?_ _) | (with_reducible refine Below.drew ?_) | (with_reducible refine Below.setCell ?_ ?_ _) | (with_reducible refine bl_step ?_ (by assumption)) | go_size))⟩

theorem exHexTone_walk (n k : Int) (w : World) :
    Calls Try.prog 11 #[.int .i64 n, .int .i64 k] w fun e w' => e = .returned (.bool true) ∧ Below w.heap.size w w' := by
  have hq : teq (htS n k) (htB n k) (htS n k) (htB n k) = true := teq_yes
  go_enter Try.func11, Try.ntmps11
  go_wp2_with (fail)
  go_at_call 21; refine (sHexTone_any _ _ _).mono ?_; rintro e w1 ⟨rfl, hb1⟩; obtain ⟨hc1, hf1, hz1⟩ := bl hb1; (try simp at hz1); clear hc1 hf1
  go_wp2_with (fail)
  go_at_call 20; refine (hexTone_any _ _ _).mono ?_; rintro e w2 ⟨rfl, hb2⟩; obtain ⟨hc2, hf2, hz2⟩ := bl hb2; (try simp at hz2); (try (refine got (p := w1.heap.size < w2.heap.size) ?_ ?_; (focus (go_size; done)); intro q2_w10)); (try (refine got (p := w2.cell? ⟨w1.heap.size, 0, none⟩ = some (.int .i64 (htS n k))) ?_ ?_; (focus (refine (hc2 _ _ ?_).trans ?_; (focus (go_size; done)); go_simp; done)); intro c2_w10_0)); (try (refine got (p := w2.cell? ⟨w1.heap.size, 1, none⟩ = some (.bool (htB n k))) ?_ ?_; (focus (refine (hc2 _ _ ?_).trans ?_; (focus (go_size; done)); go_simp; done)); intro c2_w10_1)); (try (refine got (p := ∀ o, w2.frozen? ⟨w1.heap.size, o, none⟩ = false) ?_ ?_; (focus (intro o; refine (hf2 _ _ ?_).trans ?_; (focus (go_size; done)); go_simp; done)); intro f2_w10)); clear hc2 hf2
  go_wp2_with (fail)
  go_at_call 30; refine (eqTone_any _ _ _ _ _).mono ?_; rintro e w3 ⟨rfl, hb3⟩; obtain ⟨hc3, hf3, hz3⟩ := bl hb3; (try simp at hz3); (try (refine got (p := w1.heap.size < w3.heap.size) ?_ ?_; (focus (go_size; done)); intro q3_w10)); (try (refine got (p := w3.cell? ⟨w1.heap.size, 0, none⟩ = some (.int .i64 (htS n k))) ?_ ?_; (focus (refine (hc3 _ _ ?_).trans ?_; (focus (go_size; done)); go_simp; done)); intro c3_w10_0)); (try (refine got (p := w3.cell? ⟨w1.heap.size, 1, none⟩ = some (.bool (htB n k))) ?_ ?_; (focus (refine (hc3 _ _ ?_).trans ?_; (focus (go_size; done)); go_simp; done)); intro c3_w10_1)); (try (refine got (p := ∀ o, w3.frozen? ⟨w1.heap.size, o, none⟩ = false) ?_ ?_; (focus (intro o; refine (hf3 _ _ ?_).trans ?_; (focus (go_size; done)); go_simp; done)); intro f3_w10)); clear hc3 hf3
  go_wp2
  go_ret
  exact ⟨rfl, by (repeat' (first | (with_reducible exact Below.refl _ _) | (with_reducible refine Below.alloc ?_ ?_ _) | (with_reducible refine Below.drew ?_) | (with_reducible refine Below.setCell ?_ ?_ _) | (with_reducible refine bl_step ?_ (by assumption)) | go_size))⟩

set_option maxRecDepth 100000 in
theorem fnExactHexValid_lifted (os : Os) (started : os.Started) (H : Type) (enc : TypeId × Value → H) :
    ReturnsInHanded {} Try.checked os 10 .any (Rows.fnExactHexValidSpec.pre6 enc Try.prog Try.f10 Rows.fnExactHexValidRow.domain false) (Rows.fnExactHexValidSpec.post enc Try.prog Try.f10 false true false false) := by
  refine returnsInHanded_of_change (C := Try.checked) own started (by kernel_rfl) Try.func10
    (ChangeSpec.witness6 (enc := enc) (C := Try.checked) false ⟨#[], #[.int .i64 0], []⟩ 8 (by kernel_rfl) (by kernel_rfl) (by kernel_rfl) (by kernel_rfl)) ?_
  intro W base args ds gs before hval0 hW _ _
  have hval : ∀ (j : Nat) t v, Try.f10.params[j]? = some t → args[j]? = some v → Value.okWide Try.prog W .any base t v := hval0
  have hW' := hW
  obtain ⟨p, q, hA0, hV, rfl, _, _⟩ := hW
  have hA : DataW.TrodAll enc Try.prog W 0 (fun _ => true) true Try.f10.params.toList args.toList ds p := hA0
  rw [Try.params10] at hA hval
  obtain ⟨v0, vs0, d0, ds0, p0, q0, hargs, rfl, rfl, h0, r0⟩ := trodAll_cons hA
  obtain ⟨rfl, rfl, rfl⟩ := trodAll_nil r0
  obtain rfl : args = #[v0] := by cases args; simp_all
  obtain ⟨rfl, rfl⟩ := trodVars_none hV
  obtain ⟨x0, rfl, rfl, rfl, y0⟩ := open_int Try.underlying3 (hval 0 3 v0 rfl rfl) h0
  clear hA0 hval0
  simp only [List.append_nil] at hW'
  refine (exHexValid_walk x0 W).mono fun e W' ⟨he, hb⟩ => ?_
  subst he
  exact ⟨_, rfl, post_bl (pa := []) (pv := []) hW' (fun _ _ _ => trodAll_cons_mk (shut_bool Try.underlying4 _) trodAll_mk0) (fun _ _ => trodAll_cons_mk (shut_int Try.underlying3 y0) (trodAll_mk0)) (fun _ _ => rfl) rfl hb (ok_one (by kernel_rfl) rfl (okWide_bool_mk Try.underlying4 _))⟩

theorem fnExactHexValid_holds : Rows.FnExactHexValidSaid :=
  OpenClaim.holds_of_wide 10 Try.f10 rfl rfl rfl rfl rfl rfl rfl ⟨rfl, rfl, rfl, rfl, rfl⟩ rfl rfl rfl rfl rfl (by kernel_rfl) Try.func10 (by kernel_rfl)
    (of_decide_eq_true (by kernel_rfl)) (by unfold Func.isWrapper; first | (rw [if_pos (by decide +kernel)]; kernel_rfl) | (rw [if_neg (by decide +kernel)]; exact ⟨rfl, rfl⟩))
    (fun os started H enc _ => fnExactHexValid_lifted os started H enc)


set_option maxRecDepth 100000 in
theorem fnExactHexKind_lifted (os : Os) (started : os.Started) (H : Type) (enc : TypeId × Value → H) :
    ReturnsInHanded {} Try.checked os 14 .any (Rows.fnExactHexKindSpec.pre6 enc Try.prog Try.f14 Rows.fnExactHexKindRow.domain false) (Rows.fnExactHexKindSpec.post enc Try.prog Try.f14 false true false false) := by
  refine returnsInHanded_of_change (C := Try.checked) own started (by kernel_rfl) Try.func14
    (ChangeSpec.witness6 (enc := enc) (C := Try.checked) false ⟨#[], #[.int .i64 0], []⟩ 8 (by kernel_rfl) (by kernel_rfl) (by kernel_rfl) (by kernel_rfl)) ?_
  intro W base args ds gs before hval0 hW _ _
  have hval : ∀ (j : Nat) t v, Try.f14.params[j]? = some t → args[j]? = some v → Value.okWide Try.prog W .any base t v := hval0
  have hW' := hW
  obtain ⟨p, q, hA0, hV, rfl, _, _⟩ := hW
  have hA : DataW.TrodAll enc Try.prog W 0 (fun _ => true) true Try.f14.params.toList args.toList ds p := hA0
  rw [Try.params14] at hA hval
  obtain ⟨v0, vs0, d0, ds0, p0, q0, hargs, rfl, rfl, h0, r0⟩ := trodAll_cons hA
  obtain ⟨rfl, rfl, rfl⟩ := trodAll_nil r0
  obtain rfl : args = #[v0] := by cases args; simp_all
  obtain ⟨rfl, rfl⟩ := trodVars_none hV
  obtain ⟨x0, rfl, rfl, rfl, y0⟩ := open_int Try.underlying3 (hval 0 3 v0 rfl rfl) h0
  clear hA0 hval0
  simp only [List.append_nil] at hW'
  refine (exHexKind_walk x0 W).mono fun e W' ⟨he, hb⟩ => ?_
  subst he
  exact ⟨_, rfl, post_bl (pa := []) (pv := []) hW' (fun _ _ _ => trodAll_cons_mk (shut_bool Try.underlying4 _) trodAll_mk0) (fun _ _ => trodAll_cons_mk (shut_int Try.underlying3 y0) (trodAll_mk0)) (fun _ _ => rfl) rfl hb (ok_one (by kernel_rfl) rfl (okWide_bool_mk Try.underlying4 _))⟩

theorem fnExactHexKind_holds : Rows.FnExactHexKindSaid :=
  OpenClaim.holds_of_wide 14 Try.f14 rfl rfl rfl rfl rfl rfl rfl ⟨rfl, rfl, rfl, rfl, rfl⟩ rfl rfl rfl rfl rfl (by kernel_rfl) Try.func14 (by kernel_rfl)
    (of_decide_eq_true (by kernel_rfl)) (by unfold Func.isWrapper; first | (rw [if_pos (by decide +kernel)]; kernel_rfl) | (rw [if_neg (by decide +kernel)]; exact ⟨rfl, rfl⟩))
    (fun os started H enc _ => fnExactHexKind_lifted os started H enc)


set_option maxRecDepth 100000 in
theorem fnExactHexSyllable_lifted (os : Os) (started : os.Started) (H : Type) (enc : TypeId × Value → H) :
    ReturnsInHanded {} Try.checked os 12 .any (Rows.fnExactHexSyllableSpec.pre6 enc Try.prog Try.f12 Rows.fnExactHexSyllableRow.domain false) (Rows.fnExactHexSyllableSpec.post enc Try.prog Try.f12 false true false false) := by
  refine returnsInHanded_of_change (C := Try.checked) own started (by kernel_rfl) Try.func12
    (ChangeSpec.witness6 (enc := enc) (C := Try.checked) false ⟨#[], #[.int .i64 0, .agg #[.int .i64 0, .bool false]], []⟩ 8 (by kernel_rfl) (by kernel_rfl) (by kernel_rfl) (by kernel_rfl)) ?_
  intro W base args ds gs before hval0 hW _ _
  have hval : ∀ (j : Nat) t v, Try.f12.params[j]? = some t → args[j]? = some v → Value.okWide Try.prog W .any base t v := hval0
  have hW' := hW
  obtain ⟨p, q, hA0, hV, rfl, _, _⟩ := hW
  have hA : DataW.TrodAll enc Try.prog W 0 (fun _ => true) true Try.f12.params.toList args.toList ds p := hA0
  rw [Try.params12] at hA hval
  obtain ⟨v0, vs0, d0, ds0, p0, q0, hargs, rfl, rfl, h0, r0⟩ := trodAll_cons hA
  obtain ⟨v1, vs1, d1, ds1, p1, q1, rfl, rfl, rfl, h1, r1⟩ := trodAll_cons r0
  obtain ⟨rfl, rfl, rfl⟩ := trodAll_nil r1
  obtain rfl : args = #[v0, v1] := by cases args; simp_all
  obtain ⟨rfl, rfl⟩ := trodVars_none hV
  obtain ⟨x0, rfl, rfl, rfl, y0⟩ := open_int Try.underlying3 (hval 0 3 v0 rfl rfl) h0
  obtain ⟨x1, z1, y1, rfl, rfl, rfl⟩ := open_tone (hval 1 36 v1 rfl rfl) h1
  clear hA0 hval0
  simp only [List.append_nil] at hW'
  refine (exHexSyllable_walk x0 x1 z1 W).mono fun e W' ⟨he, hb⟩ => ?_
  subst he
  exact ⟨_, rfl, post_bl (pa := []) (pv := []) hW' (fun _ _ _ => trodAll_cons_mk (shut_bool Try.underlying4 _) trodAll_mk0) (fun _ _ => trodAll_cons_mk (shut_int Try.underlying3 y0) (trodAll_cons_mk (shut_tone y1 z1) (trodAll_mk0))) (fun _ _ => rfl) rfl hb (ok_one (by kernel_rfl) rfl (okWide_bool_mk Try.underlying4 _))⟩

theorem fnExactHexSyllable_holds : Rows.FnExactHexSyllableSaid :=
  OpenClaim.holds_of_wide 12 Try.f12 rfl rfl rfl rfl rfl rfl rfl ⟨rfl, rfl, rfl, rfl, rfl⟩ rfl rfl rfl rfl rfl (by kernel_rfl) Try.func12 (by kernel_rfl)
    (of_decide_eq_true (by kernel_rfl)) (by unfold Func.isWrapper; first | (rw [if_pos (by decide +kernel)]; kernel_rfl) | (rw [if_neg (by decide +kernel)]; exact ⟨rfl, rfl⟩))
    (fun os started H enc _ => fnExactHexSyllable_lifted os started H enc)


set_option maxRecDepth 100000 in
theorem fnExactHexTone_lifted (os : Os) (started : os.Started) (H : Type) (enc : TypeId × Value → H) :
    ReturnsInHanded {} Try.checked os 11 .any (Rows.fnExactHexToneSpec.pre6 enc Try.prog Try.f11 Rows.fnExactHexToneRow.domain false) (Rows.fnExactHexToneSpec.post enc Try.prog Try.f11 false true false false) := by
  refine returnsInHanded_of_change (C := Try.checked) own started (by kernel_rfl) Try.func11
    (ChangeSpec.witness6 (enc := enc) (C := Try.checked) false ⟨#[], #[.int .i64 0, .int .i64 0], []⟩ 8 (by kernel_rfl) (by kernel_rfl) (by kernel_rfl) (by kernel_rfl)) ?_
  intro W base args ds gs before hval0 hW _ _
  have hval : ∀ (j : Nat) t v, Try.f11.params[j]? = some t → args[j]? = some v → Value.okWide Try.prog W .any base t v := hval0
  have hW' := hW
  obtain ⟨p, q, hA0, hV, rfl, _, _⟩ := hW
  have hA : DataW.TrodAll enc Try.prog W 0 (fun _ => true) true Try.f11.params.toList args.toList ds p := hA0
  rw [Try.params11] at hA hval
  obtain ⟨v0, vs0, d0, ds0, p0, q0, hargs, rfl, rfl, h0, r0⟩ := trodAll_cons hA
  obtain ⟨v1, vs1, d1, ds1, p1, q1, rfl, rfl, rfl, h1, r1⟩ := trodAll_cons r0
  obtain ⟨rfl, rfl, rfl⟩ := trodAll_nil r1
  obtain rfl : args = #[v0, v1] := by cases args; simp_all
  obtain ⟨rfl, rfl⟩ := trodVars_none hV
  obtain ⟨x0, rfl, rfl, rfl, y0⟩ := open_int Try.underlying3 (hval 0 3 v0 rfl rfl) h0
  obtain ⟨x1, rfl, rfl, rfl, y1⟩ := open_int Try.underlying3 (hval 1 3 v1 rfl rfl) h1
  clear hA0 hval0
  simp only [List.append_nil] at hW'
  refine (exHexTone_walk x0 x1 W).mono fun e W' ⟨he, hb⟩ => ?_
  subst he
  exact ⟨_, rfl, post_bl (pa := []) (pv := []) hW' (fun _ _ _ => trodAll_cons_mk (shut_bool Try.underlying4 _) trodAll_mk0) (fun _ _ => trodAll_cons_mk (shut_int Try.underlying3 y0) (trodAll_cons_mk (shut_int Try.underlying3 y1) (trodAll_mk0))) (fun _ _ => rfl) rfl hb (ok_one (by kernel_rfl) rfl (okWide_bool_mk Try.underlying4 _))⟩

theorem fnExactHexTone_holds : Rows.FnExactHexToneSaid :=
  OpenClaim.holds_of_wide 11 Try.f11 rfl rfl rfl rfl rfl rfl rfl ⟨rfl, rfl, rfl, rfl, rfl⟩ rfl rfl rfl rfl rfl (by kernel_rfl) Try.func11 (by kernel_rfl)
    (of_decide_eq_true (by kernel_rfl)) (by unfold Func.isWrapper; first | (rw [if_pos (by decide +kernel)]; kernel_rfl) | (rw [if_neg (by decide +kernel)]; exact ⟨rfl, rfl⟩))
    (fun os started H enc _ => fnExactHexTone_lifted os started H enc)

end Go.Proofs.Ytjpkmcappefolaa
