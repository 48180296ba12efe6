/-
  The exact law of ContourLeast: for every text the function answers as its model, in memory of its own.
-/
import Derived.Test.YtjodcaeohkjlnabCd2
import Derived.Test.YtjodcaeohkjlnabCe
import Derived.Test.YtjodcaeohkjlnabOpen
import Derived.ChangeMaps5
namespace Go.Proofs.Ytjodcaeohkjlnab
open Go.RowKit Go.ChangeShapes Go.WideShapes Go.ChangeAt Go.ChangeMaps
set_option maxRecDepth 100000
set_option linter.unusedVariables false

theorem cls_len (s : ByteArray) : (cls s).length ≤ 24 := by
  by_cases h : cv s = true
  · rw [cls_yes h]
    have := (cv_in h).1
    simp
    omega
  · rw [cls_no (by simpa using h)]; simp

set_option maxHeartbeats 4000000 in
theorem exContourLeast_walk (s : ByteArray) (hs : s.size ≤ maxLen) (w : World) :
    Calls Try.prog 13 #[.string s] w fun e w' => e = .returned (.bool true) ∧ Below w.heap.size w w' := by
  unfold maxLen at hs
  by_cases hn : 1048576 < s.size
  · have g : (1048576 : Int) < (s.size : Int) := by omega
    go_enter Try.func13, Try.ntmps13
    go_wp2
    go_ret
    exact ⟨rfl, Below.refl _ _⟩
  have g : decide ((1048576 : Int) < (s.size : Int)) = false := by simp; omega
  have KS := Lib.hid (fun W => sContourLeast_any s (by omega) W)
  have KI := Lib.hid (fun W => contourLeast_any s (by omega) W)
  have hl24 := cls_len s
  have hl : (cls s).length ≤ 1000000 := by omega
  generalize cls s = ys at KS KI hl24 hl
  generalize cv s = ok at KS KI
  have en2 : ((1 : Int) + (ys.length : Int) < 0) = False := by simp; omega
  go_enter Try.func13, Try.ntmps13
  go_wp2_with (fail)
  (go_at_call 27; refine (KS.out _).mono ?_; rintro e w1 ⟨u0, rfl, hs0, hb1⟩)
  go_wp2_with (fail)
  (go_at_call 26; refine (KI.out _).mono ?_; rintro e w2 ⟨u1, rfl, hs1, hb2⟩)
  have hbw2 := bl_step hb1 hb2
  have z1 := hb1.size; have z2 := hb2.size
  have hs0 := hs0.below hb2 (.inl (Nat.le_refl _))
  go_wp2_with (fail)
  (go_at_call 45; refine (eqInt_any _ _ _ _ _ _ ys _ hs1 hs0).mono ?_; rintro e w3 ⟨rfl, hb3⟩)
  have hbw3 := bl_step hbw2 hb3
  have z3 := hb3.size
  have hs0 := hs0.below hb3 (.inl (by omega))
  have hs1 := hs1.below hb3 (.inl (Nat.le_refl _))
  go_wp2_with (fail)
  (go_at_call 46; refine (markInt_any _ _ _ _ 1 (by omega) (by omega) hl _ hs1).mono ?_; rintro e w4 ⟨rfl, hq1, ht4⟩)
  have z4 := ht4.size
  have hbw4 : Below w.heap.size w w4 := hbw3.trans (ht4.mono (by omega))
  have hs0 := hs0.below ht4 (.inl (by omega))
  clear hs1 ht4
  go_wp2_with (fail)
  (go_at_call 47; refine (heldInt_any _ _ _ 1 _ (by omega) (by omega) hl _ hq1).mono ?_; rintro e wx ⟨rfl, rfl⟩)
  go_wp2_with (fail)
  (go_at_call 26; refine (KI.out _).mono ?_; rintro e w5 ⟨u2, rfl, hs2, hb5⟩)
  have hbw5 := bl_step hbw4 hb5
  have z5 := hb5.size
  have hs0 := hs0.below hb5 (.inl (by omega))
  have hq1 := hq1.below hb5 (.inl (by omega))
  go_wp2_with (fail)
  (go_at_call 45; refine (eqInt_any _ _ _ _ _ _ ys _ hs2 hs0).mono ?_; rintro e w6 ⟨rfl, hb6⟩)
  have hbw6 := bl_step hbw5 hb6
  have hq1 := hq1.below hb6 (.inl (by omega))
  clear hs0 hs2
  go_wp2_with (fail)
  (go_at_call 47; refine (heldInt_any _ _ _ 1 _ (by omega) (by omega) hl _ hq1).mono ?_; rintro e wx ⟨rfl, rfl⟩)
  go_wp2
  go_ret
  exact ⟨rfl, hbw6⟩

set_option maxRecDepth 100000 in
theorem fnExactContourLeast_lifted (os : Os) (started : os.Started) (H : Type) (enc : TypeId × Value → H) :
    ReturnsInHanded {} Try.checked os 13 .any (Rows.fnExactContourLeastSpec.pre6 enc Try.prog Try.f13 Rows.fnExactContourLeastRow.domain false) (Rows.fnExactContourLeastSpec.post enc Try.prog Try.f13 false true false false) := by
  refine returnsInHanded_of_change (C := Try.checked) own started (by kernel_rfl) Try.func13
    (ChangeSpec.witness6 (enc := enc) (C := Try.checked) false ⟨#[], #[.string ⟨#[]⟩], []⟩ 8 (by kernel_rfl) (by kernel_rfl) (by kernel_rfl) (by kernel_rfl)) ?_
  intro W base args ds gs before hval0 hW _ _
  have hval : ∀ (j : Nat) t v, Try.f13.params[j]? = some t → args[j]? = some v → Value.okWide Try.prog W .any base t v := hval0
  have hW' := hW
  obtain ⟨p, q, hA0, hV, rfl, _, _⟩ := hW
  have hA : DataW.TrodAll enc Try.prog W 0 (fun _ => true) true Try.f13.params.toList args.toList ds p := hA0
  rw [Try.params13] at hA hval
  obtain ⟨v0, vs0, d0, ds0, p0, q0, hargs, rfl, rfl, h0, r0⟩ := trodAll_cons hA
  obtain ⟨rfl, rfl, rfl⟩ := trodAll_nil r0
  obtain rfl : args = #[v0] := by cases args; simp_all
  obtain ⟨rfl, rfl⟩ := trodVars_none hV
  obtain ⟨x0, rfl, rfl, rfl, y0⟩ := open_string Try.underlying9 (hval 0 9 v0 rfl rfl) h0
  clear hA0 hval0
  refine (exContourLeast_walk x0 y0 W).mono fun e W' ⟨he, hb⟩ => ?_
  subst he
  exact ⟨_, rfl, _, _, _, [], _, [], hW', trodAll_cons_mk (shut_bool Try.underlying4 _) trodAll_mk0, trodAll_cons_mk (shut_string Try.underlying9 y0) (trodAll_mk0), rfl, hb.frame _, fun h => by cases h⟩

theorem fnExactContourLeast_holds : Rows.FnExactContourLeastSaid :=
  OpenClaim.holds_of_wide 13 Try.f13 rfl rfl rfl rfl rfl rfl rfl ⟨rfl, rfl, rfl, rfl, rfl⟩ rfl rfl rfl rfl rfl (by kernel_rfl) Try.func13 (by kernel_rfl)
    (of_decide_eq_true (by kernel_rfl)) (by unfold Func.isWrapper; first | (rw [if_pos (by decide +kernel)]; kernel_rfl) | (rw [if_neg (by decide +kernel)]; exact ⟨rfl, rfl⟩))
    (fun os started H enc _ => fnExactContourLeast_lifted os started H enc)

end Go.Proofs.Ytjodcaeohkjlnab
