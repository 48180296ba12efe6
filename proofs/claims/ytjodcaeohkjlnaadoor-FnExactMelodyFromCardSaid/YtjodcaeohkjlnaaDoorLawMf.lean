/-
  The exact law of MelodyFrom: for every text the function answers as its model, in memory of its own.
-/
import Derived.Test.YtjodcaeohkjlnaaDoorImf
import Derived.Test.YtjodcaeohkjlnaaDoorTurn
import Derived.Test.YtjodcaeohkjlnaaDoorTL3
import Derived.Test.YtjodcaeohkjlnaaDoorOpen
import Derived.Test.YtjodcaeohkjlnaaDoorCards
import Derived.Test.YtjodcaeohkjlnaaDoorTie
import Derived.Deep.DeepHandedRow
import Derived.OpenVars
import Derived.ChangeMaps5
namespace Go.Proofs.YtjodcaeohkjlnaaDoor
open Go.RowKit Go.ChangeShapes Go.WideShapes Go.ChangeAt Go.ChangeMaps
set_option maxRecDepth 100000
set_option linter.unusedVariables false

set_option maxHeartbeats 4000000 in
theorem exMelodyFrom_walk (s : ByteArray) (w : World) (hm : ∃ m : Int, w.cell? ⟨3, 0, none⟩ = some (.int .i64 m)) :
    Calls Tryd.prog 18 #[.string s] w fun e w' => e = .returned (.bool true) ∧ Below w.heap.size w w' := by
  by_cases hn : s.size ≤ 1048576
  · have hg : decide ((1048576 : Int) < (s.size : Int)) = false := by simp; omega
    obtain ⟨m, hm⟩ := hm
    have HM : Hid (∀ W, Below w.heap.size w W → W.cell? ⟨3, 0, none⟩ = some (.int .i64 m)) := fun W hb => (hb.cell (p := ⟨3, 0, none⟩) (World.block_lt_of_cell? w _ hm)).trans hm
    have KS := Lib.hid (fun w => sMelodyFrom_any s hn w)
    have KI := Lib.hid (fun w h => melodyFrom_any s hn m w h)
    have hl : (mfL s).length ≤ 1048576 := by have := mfL_len s; omega
    clear hm
    generalize mfL s = ys at KS KI hl
    generalize mfB s = ok at KS KI
    have en : ((1 : Int) + 2 * (ys.length : Int) < 0) = False := by simp; omega
    go_enter Tryd.func18, Tryd.ntmps18
    go_wp2_with (fail)
    (go_at_call 59; refine (KS.out _).mono ?_; rintro e w2 ⟨u0, rfl, hs0, hb2⟩)
    go_wp2_with (fail)
    (go_at_call 56; refine (KI.out _ (HM.out _ hb2)).mono ?_; rintro e w4 ⟨u1, rfl, hs1, hb4⟩)
    have hbw4 := bl_step hb2 hb4
    have hs0 := hs0.below hb4 (.inl (Nat.le_refl _))
    go_wp2_with (fail)
    (go_at_call 71; refine (eqToneS_any _ _ _ _ _ _ ys _ hs1 hs0).mono ?_; rintro e w5 ⟨rfl, hb5⟩)
    have hbw5 := bl_step hbw4 hb5
    have z2 := hb2.size; have z4 := hb4.size; have z5 := hb5.size
    have hs0 := hs0.below hb5 (.inl z4)
    have hs1 := hs1.below hb5 (.inl (Nat.le_refl _))
    clear hb4 hb5
    go_wp2_with (fail)
    (go_at_call 72; refine (markToneS_any _ _ _ _ 1 (by omega) (by omega) hl _ hs1).mono ?_; rintro e w10 ⟨rfl, hq1, ht10⟩)
    have z10 := ht10.size
    have hbw10 : Below w.heap.size w w10 := hbw5.trans (ht10.below z2 (by omega))
    have hs0 := hs0.turned ht10 (.inl (by omega))
    clear hs1 ht10
    go_wp2_with (fail)
    (go_at_call 73; refine (heldToneS_any _ _ _ 1 _ (by omega) (by omega) hl _ hq1).mono ?_; rintro e wx ⟨rfl, rfl⟩)
    go_wp2_with (fail)
    (go_at_call 56; refine (KI.out _ (HM.out _ hbw10)).mono ?_; rintro e w12 ⟨u2, rfl, hs2, hb12⟩)
    have hbw12 := bl_step hbw10 hb12
    have z12 := hb12.size
    have hs0 := hs0.below hb12 (.inl (by omega))
    have hq1 := hq1.below hb12 (.inl (by omega))
    clear hb12
    go_wp2_with (fail)
    (go_at_call 71; refine (eqToneS_any _ _ _ _ _ _ ys _ hs2 hs0).mono ?_; rintro e w13 ⟨rfl, hb13⟩)
    have hbw13 := bl_step hbw12 hb13
    have hq1 := hq1.below hb13 (.inl (by omega))
    clear hs0 hs2
    go_wp2_with (fail)
    (go_at_call 73; refine (heldToneS_any _ _ _ 1 _ (by omega) (by omega) hl _ hq1).mono ?_; rintro e wx ⟨rfl, rfl⟩)
    go_wp2
    go_ret
    exact ⟨rfl, hbw13⟩
  · have hg : (1048576 : Int) < (s.size : Int) := by omega
    clear hn hm
    go_enter Tryd.func18, Tryd.ntmps18
    go_wp2
    go_ret
    exact ⟨rfl, Below.refl _ _⟩

noncomputable def fnExactMelodyFrom_world (os : Os) : World := { World.holding Tryd.prog os ⟨#[], #[], []⟩ with heap := (((World.holding Tryd.prog os ⟨#[], #[], []⟩).heap.modify 6 fun | .cells _ t frozen => .cells #[.int .u8 128, .int .u8 191, .int .u8 160, .int .u8 191, .int .u8 128, .int .u8 159, .int .u8 144, .int .u8 191, .int .u8 128, .int .u8 143, .int .u8 0, .int .u8 0, .int .u8 0, .int .u8 0, .int .u8 0, .int .u8 0, .int .u8 0, .int .u8 0, .int .u8 0, .int .u8 0, .int .u8 0, .int .u8 0, .int .u8 0, .int .u8 0, .int .u8 0, .int .u8 0, .int .u8 0, .int .u8 0, .int .u8 0, .int .u8 0, .int .u8 0, .int .u8 0] t frozen | o => o).modify 5 fun | .cells _ t frozen => .cells ((Go.Pinned.utf8FirstZ.map fun (n : Nat) => Value.int .u8 (n : Int)).toArray) t frozen | o => o) }
theorem fnExactMelodyFrom_met (os : Os) : laidMet Tryd.prog Rows.fnExactMelodyFromRow.laid ((fnExactMelodyFrom_world os).forCall (fun _ _ => 0) ⟨#[], #[.string ⟨#[]⟩], []⟩).memory :=
  laidMet_of_run' 8 (by kernel_rfl) (by kernel_rfl)
theorem fnExactMelodyFrom_reads (os : Os) {H : Type} (enc : TypeId × Value → H) : ∃ places, DataW.whole enc Tryd.prog ((fnExactMelodyFrom_world os).forCall (fun _ _ => 0) ⟨#[], #[.string ⟨#[]⟩], []⟩).memory Tryd.f18.params.toList Rows.fnExactMelodyFromSpec.vars false (#[.string ⟨#[]⟩] : Array Value).toList 8 = some ([.lit (.string [])], [], places) :=
  ⟨((DataW.whole enc Tryd.prog ((fnExactMelodyFrom_world os).forCall (fun _ _ => 0) ⟨#[], #[.string ⟨#[]⟩], []⟩).memory Tryd.f18.params.toList Rows.fnExactMelodyFromSpec.vars false (#[.string ⟨#[]⟩] : Array Value).toList 8).getD ([], [], [])).2.2, by kernel_rfl⟩
set_option maxRecDepth 100000 in
theorem fnExactMelodyFrom_lifted (os : Os) (started : os.Started) (H : Type) (enc : TypeId × Value → H) (F : Stop.Interp) :
    ReturnsInHanded {} Tryd.checked os 18 .any ((OpenSpec.ofChange Rows.fnExactMelodyFromSpec).preRow enc Tryd.prog Tryd.f18 Rows.fnExactMelodyFromRow.domain false Rows.fnExactMelodyFromRow.laid) (((OpenSpec.ofChange Rows.fnExactMelodyFromSpec).at F).post enc Tryd.prog Tryd.f18 false true false false) := by
  obtain ⟨places, hx⟩ := fnExactMelodyFrom_reads os enc
  refine returnsInHanded_of_row (C := Tryd.checked) (s := OpenSpec.ofChange Rows.fnExactMelodyFromSpec) own started (by kernel_rfl) Tryd.func18
    (witness_row_at (enc := enc) (C := Tryd.checked) false (fnExactMelodyFrom_world os) #[.string ⟨#[]⟩] rfl (by kernel_rfl) (by kernel_rfl) (by kernel_rfl)
      (OpenSpec.preRow_of_cond 8 hx (by kernel_rfl) (fun k hk => by cases hk) (by kernel_rfl) (fnExactMelodyFrom_met os))) ?_
  intro W base args ds gs before hval0 hW _ _ _ hL hSh _
  have hval : ∀ (j : Nat) t v, Tryd.f18.params[j]? = some t → args[j]? = some v → Value.okWide Tryd.prog W .any base t v := hval0
  have hW' := hW
  obtain ⟨p, q, hA0, hV, rfl, _, _⟩ := hW
  have hA : DataW.TrodAll enc Tryd.prog W 0 (fun _ => true) true Tryd.f18.params.toList args.toList ds p := hA0
  rw [Tryd.params18] at hA hval
  obtain ⟨v0, vs0, d0, ds0, p0, q0, hargs, rfl, rfl, h0, r0⟩ := trodAll_cons hA
  obtain ⟨rfl, rfl, rfl⟩ := trodAll_nil r0
  obtain rfl : args = #[v0] := by cases args; simp_all
  obtain ⟨rfl, rfl⟩ := trodVars_none hV
  obtain ⟨x0, rfl, rfl, rfl, y0⟩ := open_string Tryd.underlying9 (hval 0 9 v0 rfl rfl) h0
  clear hA0 hval0
  refine (exMelodyFrom_walk x0 W (Tryd.laysM146.s1_3 W hSh)).mono fun e W' ⟨he, hb⟩ => ?_
  subst he
  exact ⟨_, rfl, _, _, _, [], _, [], hW', trodAll_cons_mk (shut_bool Tryd.underlying4 _) trodAll_mk0, trodAll_cons_mk (shut_string Tryd.underlying9 y0) (trodAll_mk0), rfl, hb.frame _, fun h => by cases h⟩


end Go.Proofs.YtjodcaeohkjlnaaDoor
