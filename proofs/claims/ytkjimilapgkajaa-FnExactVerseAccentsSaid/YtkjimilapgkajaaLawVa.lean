/-
  The exact law of VerseAccents: for every text the function answers as its model, in memory of its own.
-/
import Derived.Test.YtkjimilapgkajaaVy
import Derived.Test.YtkjimilapgkajaaTurn
import Derived.Test.YtkjimilapgkajaaOpen
import Derived.ChangeMaps5
import Derived.Deep.DeepRowAt
import Derived.Deep.DeepHandedRow
namespace Go.Proofs.Ytkjimilapgkajaa
open Go.RowKit Go.ChangeShapes Go.WideShapes Go.ChangeAt Go.ChangeMaps
set_option maxRecDepth 100000
set_option linter.unusedVariables false

set_option maxHeartbeats 4000000 in
theorem exVerseAccents_walk (s : ByteArray) (hs : s.size ≤ maxLen) (w : World) (hm : MaxAt w) :
    Calls Try.prog 6 #[.string s] w fun e w' => e = .returned (.bool true) ∧ Below w.heap.size w w' := by
  unfold maxLen at hs
  by_cases hn : 1048576 < s.size
  · have g : (1048576 : Int) < (s.size : Int) := by omega
    go_enter Try.func6, Try.ntmps6
    go_wp2
    go_ret
    exact ⟨rfl, Below.refl _ _⟩
  have g : decide ((1048576 : Int) < (s.size : Int)) = false := by simp; omega
  have HM : Hid (∀ W, Below w.heap.size w W → MaxAt W) := fun W hb => hm.below hb
  have KS := Lib.hid (fun W => sVerseAccents_any s (by omega) W)
  have KI := Lib.hid (fun W h => verseAccents_any s (by omega) W h)
  have hl : (vacc s).length ≤ 1000000 := by have := vacc_len s; omega
  clear hm
  generalize vacc s = ys at KS KI hl
  have en : ((1 : Int) + (ys.length : Int) < 0) = False := by simp; omega
  go_enter Try.func6, Try.ntmps6
  go_wp2_with (fail)
  (go_at_call 31; refine (KS.out _).mono ?_; rintro e w2 ⟨u0, rfl, hs0, hb2⟩)
  go_wp2_with (fail)
  (go_at_call 32; refine (KI.out _ (HM.out _ hb2)).mono ?_; rintro e w4 ⟨u1, rfl, hs1, hb4⟩)
  have hbw4 := bl_step hb2 hb4
  have hs0 := hs0.below hb4 (.inl (Nat.le_refl _))
  go_wp2_with (fail)
  (go_at_call 33; refine (eqInt_any _ _ _ _ _ _ ys _ hs1 hs0).mono ?_; rintro e w5 ⟨rfl, hb5⟩)
  have hbw5 := bl_step hbw4 hb5
  have z2 := hb2.size; have z4 := hb4.size; have z5 := hb5.size
  have hs0 := hs0.below hb5 (.inl z4)
  have hs1 := hs1.below hb5 (.inl (Nat.le_refl _))
  clear hb4 hb5
  go_wp2_with (fail)
  (go_at_call 34; refine (markInt_any _ _ _ _ 1 (by omega) (by omega) hl _ hs1).mono ?_; rintro e w10 ⟨rfl, hq1, ht10⟩)
  have z10 := ht10.size
  have hbw10 : Below w.heap.size w w10 := hbw5.trans (ht10.mono z2)
  have hs0 := hs0.below ht10 (.inl (by omega))
  clear hs1 ht10
  go_wp2_with (fail)
  (go_at_call 35; refine (heldInt_any _ _ _ 1 _ (by omega) (by omega) hl _ hq1).mono ?_; rintro e wx ⟨rfl, rfl⟩)
  go_wp2_with (fail)
  (go_at_call 32; refine (KI.out _ (HM.out _ hbw10)).mono ?_; rintro e w12 ⟨u2, rfl, hs2, hb12⟩)
  have hbw12 := bl_step hbw10 hb12
  have z12 := hb12.size
  have hs0 := hs0.below hb12 (.inl (by omega))
  have hq1 := hq1.below hb12 (.inl (by omega))
  clear hb12
  go_wp2_with (fail)
  (go_at_call 33; refine (eqInt_any _ _ _ _ _ _ ys _ hs2 hs0).mono ?_; rintro e w13 ⟨rfl, hb13⟩)
  have hbw13 := bl_step hbw12 hb13
  have hq1 := hq1.below hb13 (.inl (by omega))
  clear hs0 hs2
  go_wp2_with (fail)
  (go_at_call 35; refine (heldInt_any _ _ _ 1 _ (by omega) (by omega) hl _ hq1).mono ?_; rintro e wx ⟨rfl, rfl⟩)
  go_wp2
  go_ret
  exact ⟨rfl, hbw13⟩

noncomputable def fnExactVerseAccents_world (os : Os) : World := { World.holding Try.prog os ⟨#[], #[], []⟩ with heap := (World.holding Try.prog os ⟨#[], #[], []⟩).heap }
theorem fnExactVerseAccents_met (os : Os) : laidMet Try.prog Rows.fnExactVerseAccentsRow.laid ((fnExactVerseAccents_world os).forCall (fun _ _ => 0) ⟨#[], #[.string ⟨#[]⟩], []⟩).memory :=
  laidMet_of_run' 8 (by kernel_rfl) (by kernel_rfl)
theorem fnExactVerseAccents_reads (os : Os) {H : Type} (enc : TypeId × Value → H) : ∃ places, DataW.whole enc Try.prog ((fnExactVerseAccents_world os).forCall (fun _ _ => 0) ⟨#[], #[.string ⟨#[]⟩], []⟩).memory Try.f6.params.toList Rows.fnExactVerseAccentsSpec.vars false (#[.string ⟨#[]⟩] : Array Value).toList 8 = some ([.lit (.string [])], [], places) :=
  ⟨((DataW.whole enc Try.prog ((fnExactVerseAccents_world os).forCall (fun _ _ => 0) ⟨#[], #[.string ⟨#[]⟩], []⟩).memory Try.f6.params.toList Rows.fnExactVerseAccentsSpec.vars false (#[.string ⟨#[]⟩] : Array Value).toList 8).getD ([], [], [])).2.2, by kernel_rfl⟩
set_option maxRecDepth 100000 in
theorem fnExactVerseAccents_lifted (os : Os) (started : os.Started) (H : Type) (enc : TypeId × Value → H) (F : Stop.Interp) :
    ReturnsInHanded {} Try.checked os 6 .any ((OpenSpec.ofChange Rows.fnExactVerseAccentsSpec).preRow enc Try.prog Try.f6 Rows.fnExactVerseAccentsRow.domain false Rows.fnExactVerseAccentsRow.laid) (((OpenSpec.ofChange Rows.fnExactVerseAccentsSpec).at F).post enc Try.prog Try.f6 false true false false) := by
  obtain ⟨places, hx⟩ := fnExactVerseAccents_reads os enc
  refine returnsInHanded_of_row (C := Try.checked) (s := OpenSpec.ofChange Rows.fnExactVerseAccentsSpec) own started (by kernel_rfl) Try.func6
    (witness_row_at (enc := enc) (C := Try.checked) false (fnExactVerseAccents_world os) #[.string ⟨#[]⟩] rfl (by kernel_rfl) (by kernel_rfl) (by kernel_rfl)
      (OpenSpec.preRow_of_cond 8 hx (by kernel_rfl) (fun k hk => by cases hk) (by kernel_rfl) (fnExactVerseAccents_met os))) ?_
  intro W base args ds gs before hval0 hW _ _ _ hL hSh _
  have hval : ∀ (j : Nat) t v, Try.f6.params[j]? = some t → args[j]? = some v → Value.okWide Try.prog W .any base t v := hval0
  have hW' := hW
  obtain ⟨p, q, hA0, hV, rfl, _, _⟩ := hW
  have hA : DataW.TrodAll enc Try.prog W 0 (fun _ => true) true Try.f6.params.toList args.toList ds p := hA0
  rw [Try.params6] at hA hval
  obtain ⟨v0, vs0, d0, ds0, p0, q0, hargs, rfl, rfl, h0, r0⟩ := trodAll_cons hA
  obtain ⟨rfl, rfl, rfl⟩ := trodAll_nil r0
  obtain rfl : args = #[v0] := by cases args; simp_all
  obtain ⟨rfl, rfl⟩ := trodVars_none hV
  obtain ⟨x0, rfl, rfl, rfl, y0⟩ := open_string Try.underlying9 (hval 0 9 v0 rfl rfl) h0
  clear hA0 hval0
  refine (exVerseAccents_walk x0 y0 W (Try.laysM145.s1_3 W hSh)).mono fun e W' ⟨he, hb⟩ => ?_
  subst he
  exact ⟨_, rfl, _, _, _, [], _, [], hW', trodAll_cons_mk (shut_bool Try.underlying4 _) trodAll_mk0, trodAll_cons_mk (shut_string Try.underlying9 y0) (trodAll_mk0), rfl, hb.frame _, fun h => by cases h⟩


end Go.Proofs.Ytkjimilapgkajaa
