/-
  The exact law of RhythmOrdo: for every mode and every number of tones the function answers as its model, in memory of its own.
-/
import Derived.Test.YtkkfediceekmdaaRo
import Derived.Test.YtkkfediceekmdaaOi
import Derived.Test.YtkkfediceekmdaaOpen
namespace Go.Proofs.Ytkkfediceekmdaa
open Go.RowKit Go.ChangeShapes Go.WideShapes Go.ChangeAt
set_option maxRecDepth 100000
set_option linter.unusedVariables false

set_option maxHeartbeats 4000000 in
theorem Ro_walk (m : Int) (n : Int) (w : World) (hw0 : (Lit.int .i64 m).wf = true) (hw1 : (Lit.int .i64 n).wf = true) :
    Calls Try.prog 4 #[.int .i64 m, .int .i64 n] w fun e w' => e = .returned (.bool true) ∧ Below w.heap.size w w' := by
  have KS := Lib.hid (fun w => sRhythmOrdo_any m n w)
  have KI := Lib.hid (fun w => rhythmOrdo_any m n w)
  unfold Ordo2 at KS KI
  have hl : (oLst m n).length ≤ 10000000 := by have := oLst_len (m := m) (n := n); omega
  generalize oRst m n = rr at KS KI
  generalize oOk m n = ok at KS KI
  generalize oLst m n = ys at KS KI hl
  obtain ⟨KG, hKG⟩ : ∃ K : Int, K = 1 + (ys.length : Int) := ⟨_, rfl⟩
  have lKG : 0 ≤ KG ∧ KG ≤ 50000000 := by omega
  have nKG : decide (KG < 0) = false := decide_eq_false (by omega)
  have HMG := Lib.hid (fun lo hi v w h => markIntO_any lo hi v ys 1 (by omega) (by omega) hl w h)
  rw [← hKG] at HMG
  have HHG := Lib.hid (fun lo hi v w h => heldIntO_any lo hi v 1 ys.length (by omega) (by omega) hl w h)
  rw [← hKG] at HHG
  clear hKG
  have hbw0 : Below w.heap.size w w := Below.refl _ _
  go_enter Try.func4, Try.ntmps4
  go_wp2_with (fail)
  (go_at_call 20; refine (KS.out _).mono ?_; rintro e w1 ⟨us, rfl, gs, hb1⟩)
  have z1 := hb1.size
  have hbw1 := bl_step hbw0 hb1
  clear hb1
  go_wp2_with (fail)
  (go_at_call 21; refine (KI.out _).mono ?_; rintro e w2 ⟨ui, rfl, gi, hb2⟩)
  have z2 := hb2.size
  have hbw2 := bl_step hbw1 hb2
  have gs := gs.below hb2 (.inl (by omega))
  clear hb2
  go_wp2_with (fail)
  (go_at_call 17; refine (eqIntV_any _ _ ys _ gi.view gs.view).mono ?_; rintro e w3 ⟨rfl, hb3⟩)
  have z3 := hb3.size
  have hbw3 := bl_step hbw2 hb3
  have gs := gs.below hb3 (.inl (by omega))
  have gi := gi.below hb3 (.inl (by omega))
  clear hb3
  go_wp2_with (fail)
  (go_at_call 18; refine (HMG.out _ _ _ _ gi).mono ?_; rintro e w4 ⟨rfl, gq, ho4⟩)
  have ht4 := ho4.turned gi
  have z4 := ht4.size
  have hbw4 : Below w.heap.size w w4 := hbw3.trans (ht4.below (by omega) (by omega))
  have gs := gs.turned ht4 (.inl (by omega))
  clear ht4 ho4
  go_wp2_with (fail)
  (go_at_call 19; refine (HHG.out _ _ _ _ gq).mono ?_; rintro e wx ⟨rfl, rfl⟩)
  clear gi
  go_wp2_with (fail)
  (go_at_call 21; refine (KI.out _).mono ?_; rintro e w5 ⟨uh, rfl, gh, hb5⟩)
  have z5 := hb5.size
  have hbw5 := bl_step hbw4 hb5
  have gs := gs.below hb5 (.inl (by omega))
  have gq := gq.below hb5 (.inl (by omega))
  clear hb5
  go_wp2_with (fail)
  (go_at_call 17; refine (eqIntV_any _ _ ys _ gh.view gs.view).mono ?_; rintro e w6 ⟨rfl, hb6⟩)
  have z6 := hb6.size
  have hbw6 := bl_step hbw5 hb6
  have gs := gs.below hb6 (.inl (by omega))
  have gq := gq.below hb6 (.inl (by omega))
  have gh := gh.below hb6 (.inl (by omega))
  clear hb6
  clear gs gh
  go_wp2_with (fail)
  (go_at_call 19; refine (HHG.out _ _ _ _ gq).mono ?_; rintro e wx ⟨rfl, rfl⟩)
  go_wp2
  go_ret
  exact ⟨rfl, hbw6⟩

set_option maxRecDepth 100000 in
theorem fnExactRhythmOrdo_lifted (os : Os) (started : os.Started) (H : Type) (enc : TypeId × Value → H) :
    ReturnsInHanded {} Try.checked os 4 .any (Rows.fnExactRhythmOrdoSpec.pre6 enc Try.prog Try.f4 Rows.fnExactRhythmOrdoRow.domain false) (Rows.fnExactRhythmOrdoSpec.post enc Try.prog Try.f4 false true false false) := by
  refine returnsInHanded_of_change (C := Try.checked) own started (by kernel_rfl) Try.func4
    (ChangeSpec.witness6 (enc := enc) (C := Try.checked) false ⟨#[], #[.int .i64 0, .int .i64 0], []⟩ 8 (by kernel_rfl) (by kernel_rfl) (by kernel_rfl) (by kernel_rfl)) ?_
  intro W base args ds gs before hval0 hW _ _
  have hval : ∀ (j : Nat) t v, Try.f4.params[j]? = some t → args[j]? = some v → Value.okWide Try.prog W .any base t v := hval0
  have hW' := hW
  obtain ⟨p, q, hA0, hV, rfl, _, _⟩ := hW
  have hA : DataW.TrodAll enc Try.prog W 0 (fun _ => true) true Try.f4.params.toList args.toList ds p := hA0
  rw [Try.params4] at hA hval
  obtain ⟨v0, vs0, d0, ds0, p0, q0, hargs, rfl, rfl, h0, r0⟩ := trodAll_cons hA
  obtain ⟨v1, vs1, d1, ds1, p1, q1, rfl, rfl, rfl, h1, r1⟩ := trodAll_cons r0
  obtain ⟨rfl, rfl, rfl⟩ := trodAll_nil r1
  obtain rfl : args = #[v0, v1] := by cases args; simp_all
  obtain ⟨rfl, rfl⟩ := trodVars_none hV
  obtain ⟨x0, rfl, rfl, rfl, y0⟩ := open_int Try.underlying3 (hval 0 3 v0 rfl rfl) h0
  obtain ⟨x1, rfl, rfl, rfl, y1⟩ := open_int Try.underlying3 (hval 1 3 v1 rfl rfl) h1
  clear hA0 hval0
  refine (Ro_walk x0 x1 W y0 y1).mono fun e W' ⟨he, hb⟩ => ?_
  subst he
  exact ⟨_, rfl, _, _, _, [], _, [], hW', trodAll_cons_mk (shut_bool Try.underlying4 _) trodAll_mk0, trodAll_cons_mk (shut_int Try.underlying3 y0) (trodAll_cons_mk (shut_int Try.underlying3 y1) (trodAll_mk0)), rfl, hb.frame _, fun h => by cases h⟩

theorem fnExactRhythmOrdo_holds : Rows.FnExactRhythmOrdoSaid :=
  OpenClaim.holds_of_wide 4 Try.f4 rfl rfl rfl rfl rfl rfl rfl ⟨rfl, rfl, rfl, rfl, rfl⟩ rfl rfl rfl rfl rfl (by kernel_rfl) Try.func4 (by kernel_rfl)
    (of_decide_eq_true (by kernel_rfl)) (by unfold Func.isWrapper; first | (rw [if_pos (by decide +kernel)]; kernel_rfl) | (rw [if_neg (by decide +kernel)]; exact ⟨rfl, rfl⟩))
    (fun os started H enc _ => fnExactRhythmOrdo_lifted os started H enc)

end Go.Proofs.Ytkkfediceekmdaa
