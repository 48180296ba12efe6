/-
  The exact law of ToneFrom: for every text the function answers as its model.
-/
import Derived.Test.YtgehfianpahgcaaTfr
import Derived.Test.YtgehfianpahgcaaTfi
import Derived.Test.YtgehfianpahgcaaOpen
import Derived.ChangeMaps5
namespace Go.Proofs.Ytgehfianpahgcaa
open Go.RowKit Go.ChangeShapes Go.WideShapes Go.ChangeAt Go.ChangeMaps
set_option maxRecDepth 100000
set_option linter.unusedVariables false

theorem eqTone_yes' (s : Int) (b : Bool) (w : World) :
    Calls Try.prog 11 #[.agg #[.int .i64 s, .bool b], .agg #[.int .i64 s, .bool b]] w fun e w' => e = .returned (.bool true) ∧ Below w.heap.size w w' := by
  have h := eqTone_any s s b b w
  rw [teq_yes] at h
  exact h

set_option maxHeartbeats 4000000 in
theorem exToneFrom_walk (l : ByteArray) (hl : l.size ≤ maxLen) (w : World) :
    Calls Try.prog 3 #[.string l] w fun e w' => e = .returned (.bool true) ∧ Below w.heap.size w w' := by
  unfold maxLen at hl
  by_cases hn : 1048576 < l.size
  · have hn' : (1048576 : Int) < (l.size : Int) := by omega
    go_enter Try.func3, Try.ntmps3
    go_wp2
    go_ret
    exact ⟨rfl, Below.refl _ _⟩
  have hn' : decide ((1048576 : Int) < (l.size : Int)) = false := by simp; omega
  have KS := Lib.hid (sToneFrom_any l)
  have KI := Lib.hid (toneFrom_any l (by omega))
  generalize tfr l = t at KS KI
  obtain ⟨s, b, ok⟩ := t
  go_enter Try.func3, Try.ntmps3
  go_wp2_with (fail)
  (go_at_call 9; refine (KS.out _).mono ?_; rintro e w1 ⟨rfl, hb1⟩; obtain ⟨hc1, hf1, hz1⟩ := bl hb1; (try simp at hz1); clear hc1 hf1)
  go_wp2_with (fail)
  (go_at_call 10; refine (KI.out _).mono ?_; rintro e w2 ⟨rfl, hb2⟩; obtain ⟨hc2, hf2, hz2⟩ := bl hb2; (try simp at hz2); (try (refine got (p := w1.heap.size < w2.heap.size) ?_ ?_; (focus (go_size; done)); intro q2_w10)); (try (refine got (p := w2.cell? ⟨w1.heap.size, 0, none⟩ = some (.int .i64 s)) ?_ ?_; (focus (refine (hc2 _ _ ?_).trans ?_; (focus (go_size; done)); go_simp; done)); intro c2_w10_0)); (try (refine got (p := w2.cell? ⟨w1.heap.size, 1, none⟩ = some (.bool b)) ?_ ?_; (focus (refine (hc2 _ _ ?_).trans ?_; (focus (go_size; done)); go_simp; done)); intro c2_w10_1)); (try (refine got (p := ∀ o, w2.frozen? ⟨w1.heap.size, o, none⟩ = false) ?_ ?_; (focus (intro o; refine (hf2 _ _ ?_).trans ?_; (focus (go_size; done)); go_simp; done)); intro f2_w10)); clear hc2 hf2)
  go_wp2_with (fail)
  (go_at_call 11; refine (eqTone_yes' _ _ _).mono ?_; rintro e w3 ⟨rfl, hb3⟩; obtain ⟨hc3, hf3, hz3⟩ := bl hb3; (try simp at hz3); (try (refine got (p := w1.heap.size < w3.heap.size) ?_ ?_; (focus (go_size; done)); intro q3_w10)); (try (refine got (p := w3.cell? ⟨w1.heap.size, 0, none⟩ = some (.int .i64 s)) ?_ ?_; (focus (refine (hc3 _ _ ?_).trans ?_; (focus (go_size; done)); go_simp; done)); intro c3_w10_0)); (try (refine got (p := w3.cell? ⟨w1.heap.size, 1, none⟩ = some (.bool b)) ?_ ?_; (focus (refine (hc3 _ _ ?_).trans ?_; (focus (go_size; done)); go_simp; done)); intro c3_w10_1)); (try (refine got (p := ∀ o, w3.frozen? ⟨w1.heap.size, o, none⟩ = false) ?_ ?_; (focus (intro o; refine (hf3 _ _ ?_).trans ?_; (focus (go_size; done)); go_simp; done)); intro f3_w10)); clear hc3 hf3)
  go_wp2
  go_ret
  exact ⟨rfl, by (repeat' (first | (with_reducible exact Below.refl _ _) | (with_reducible refine Below.alloc ?_ ?_ _) | (with_reducible refine Below.drew ?_) | (with_reducible refine Below.setCell ?_ ?_ _) | (with_reducible refine bl_step ?_ (by assumption)) | go_size))⟩

set_option maxRecDepth 100000 in
theorem fnExactToneFrom_lifted (os : Os) (started : os.Started) (H : Type) (enc : TypeId × Value → H) :
    ReturnsInHanded {} Try.checked os 3 .any (Rows.fnExactToneFromSpec.pre6 enc Try.prog Try.f3 Rows.fnExactToneFromRow.domain false) (Rows.fnExactToneFromSpec.post enc Try.prog Try.f3 false true false false) := by
  refine returnsInHanded_of_change (C := Try.checked) own started (by kernel_rfl) Try.func3
    (ChangeSpec.witness6 (enc := enc) (C := Try.checked) false ⟨#[], #[.string ⟨#[]⟩], []⟩ 8 (by kernel_rfl) (by kernel_rfl) (by kernel_rfl) (by kernel_rfl)) ?_
  intro W base args ds gs before hval0 hW _ _
  have hval : ∀ (j : Nat) t v, Try.f3.params[j]? = some t → args[j]? = some v → Value.okWide Try.prog W .any base t v := hval0
  have hW' := hW
  obtain ⟨p, q, hA0, hV, rfl, _, _⟩ := hW
  have hA : DataW.TrodAll enc Try.prog W 0 (fun _ => true) true Try.f3.params.toList args.toList ds p := hA0
  rw [Try.params3] at hA hval
  obtain ⟨v0, vs0, d0, ds0, p0, q0, hargs, rfl, rfl, h0, r0⟩ := trodAll_cons hA
  obtain ⟨rfl, rfl, rfl⟩ := trodAll_nil r0
  obtain rfl : args = #[v0] := by cases args; simp_all
  obtain ⟨rfl, rfl⟩ := trodVars_none hV
  obtain ⟨x0, rfl, rfl, rfl, y0⟩ := open_string Try.underlying9 (hval 0 9 v0 rfl rfl) h0
  clear hA0 hval0
  refine (exToneFrom_walk x0 y0 W).mono fun e W' ⟨he, hb⟩ => ?_
  subst he
  exact ⟨_, rfl, _, _, _, [], _, [], hW', trodAll_cons_mk (shut_bool Try.underlying4 _) trodAll_mk0, trodAll_cons_mk (shut_string Try.underlying9 y0) (trodAll_mk0), rfl, hb.frame _, fun h => by cases h⟩

theorem fnExactToneFrom_holds : Rows.FnExactToneFromSaid :=
  OpenClaim.holds_of_wide 3 Try.f3 rfl rfl rfl rfl rfl rfl rfl ⟨rfl, rfl, rfl, rfl, rfl⟩ rfl rfl rfl rfl rfl (by kernel_rfl) Try.func3 (by kernel_rfl)
    (of_decide_eq_true (by kernel_rfl)) (by unfold Func.isWrapper; first | (rw [if_pos (by decide +kernel)]; kernel_rfl) | (rw [if_neg (by decide +kernel)]; exact ⟨rfl, rfl⟩))
    (fun os started H enc _ => fnExactToneFrom_lifted os started H enc)

end Go.Proofs.Ytgehfianpahgcaa
