/-
  The law FnVerse: for every code, a verse has two halves.
-/
import Derived.Test.YtkjimilapgkajaaVq
import Derived.Test.YtkjimilapgkajaaDrawV
import Derived.Test.YtkjimilapgkajaaCode
import Derived.Test.YtkjimilapgkajaaOpen
import Derived.ChangeMaps5
import Derived.Deep.DeepRowAt
import Derived.Deep.DeepHandedRow
namespace Go.Proofs.Ytkjimilapgkajaa
open Go.RowKit Go.ChangeShapes Go.WideShapes Go.ChangeAt Go.ChangeMaps
set_option maxRecDepth 100000
set_option linter.unusedVariables false

set_option maxHeartbeats 8000000 in
theorem fnVerse_walk (a : Option Addr) (n cap : Nat) (w : World) (h : CodeAt w a n) (hc : n ≤ cap) (hcap : cap ≤ maxLen) (hm : MaxAt w) :
    Calls Try.prog 16 #[.slice a n cap] w fun e w' => e = .returned (.bool true) ∧ Below w.heap.size w w' := by
  by_cases hn : 1048576 < n
  · have g : (1048576 : Int) < (n : Int) := by omega
    go_enter Try.func16, Try.ntmps16
    go_wp2
    go_ret
    exact ⟨rfl, Below.refl _ _⟩
  have g : decide ((1048576 : Int) < (n : Int)) = false := by simp; omega
  have HM : Hid (∀ W, Below w.heap.size w W → MaxAt W) := fun W hb => hm.below hb
  clear hm
  go_enter Try.func16, Try.ntmps16
  go_wp2_with (fail)
  (go_at_call 66; refine (drawVerseSyllables_any a n cap _ h hc hcap).mono ?_; rintro e w1 ⟨s, rfl, hs9, hb1⟩)
  clear h hc hcap g hn
  have KI := Lib.hid (fun W h => verseSyllables_any s (by omega) W h)
  have KS := Lib.hid (fun W => sVerseSyllables_any s (by omega) W)
  cases hv : vvl s.data.toList
  · rw [vsyl_no hv] at KI KS
    clear hv
    go_wp2_with (fail)
    (go_at_call 28; refine (KI.out _ (HM.out _ hb1)).mono ?_; rintro e w2 ⟨rfl, hb2⟩)
    go_wp2_with (fail)
    (go_at_call 27; refine (KS.out _).mono ?_; rintro e w3 ⟨rfl, hb3⟩)
    go_wp2
    go_ret
    exact ⟨rfl, bl_step (bl_step hb1 hb2) hb3⟩
  have h20 := vhalf_size' s
  have q1 := vq1 hv
  have q2 := vq2 hv
  have q3 := vq3 hv
  have KH := Lib.hid (fun W h => verseHalves_any s (by omega) W h)
  rw [hv] at KH
  rw [← q2] at KI KS
  have e0 := vsyl_size s hv
  rw [← q2] at e0
  have KT := Lib.hid (fun W h => verseSyllables_any (vSnd s ++ ⟨#[124]⟩ ++ vFst s) (by rw [ByteArray.size_append, ByteArray.size_append]; have : (⟨#[124]⟩ : ByteArray).size = 1 := rfl; omega) W h)
  have KC := Lib.hid (fun W h => verseValid_any (vFst s ++ vSnd s) (by rw [ByteArray.size_append]; omega) W h)
  rw [q3] at KC
  clear q2 q3 hv
  generalize vFst s = x at *
  generalize vSnd s = y at *
  have hx1 : (⟨#[124]⟩ : ByteArray).size = 1 := rfl
  have s1 : (x ++ (⟨#[124]⟩ : ByteArray)).size = x.size + 1 := by rw [ByteArray.size_append, hx1]
  have s2 : (y ++ (⟨#[124]⟩ : ByteArray)).size = y.size + 1 := by rw [ByteArray.size_append, hx1]
  have a1 : ∀ W : World, (Op.stringOp .add x ⟨#[124]⟩).run Try.prog W = .ok (.string (x ++ ⟨#[124]⟩)) W := fun W => run_string_add_sum W _ _ (by omega)
  have a2 : ∀ W : World, (Op.stringOp .add (x ++ ⟨#[124]⟩) y).run Try.prog W = .ok (.string s) W := fun W => by
    have := run_string_add_sum (P := Try.prog) W (x ++ ⟨#[124]⟩) y (by omega)
    rwa [q1] at this
  have a3 : ∀ W : World, (Op.stringOp .add y ⟨#[124]⟩).run Try.prog W = .ok (.string (y ++ ⟨#[124]⟩)) W := fun W => run_string_add_sum W _ _ (by omega)
  have a4 : ∀ W : World, (Op.stringOp .add (y ++ ⟨#[124]⟩) x).run Try.prog W = .ok (.string (y ++ ⟨#[124]⟩ ++ x)) W := fun W => run_string_add_sum W _ _ (by omega)
  have a5 : ∀ W : World, (Op.stringOp .add x y).run Try.prog W = .ok (.string (x ++ y)) W := fun W => run_string_add_sum W _ _ (by omega)
  have hss : (s.toList == s.toList) = true := by simp
  generalize y ++ (⟨#[124]⟩ : ByteArray) ++ x = t at *
  generalize x ++ y = c at *
  generalize x ++ (⟨#[124]⟩ : ByteArray) = xb at *
  generalize y ++ (⟨#[124]⟩ : ByteArray) = yb at *
  generalize vsyl t = z at *
  subst e0
  have z0 : (0 : Int) ≤ (x.size : Int) + (y.size : Int) := by omega
  have z1 : (x.size : Int) + (y.size : Int) ≤ 20 := by omega
  clear q1 s1 s2 hx1
  go_wp2_with (fail)
  (go_at_call 28; refine (KI.out _ (HM.out _ hb1)).mono ?_; rintro e w2 ⟨rfl, hb2⟩)
  go_wp2_with (fail)
  (go_at_call 27; refine (KS.out _).mono ?_; rintro e w3 ⟨rfl, hb3⟩)
  have bw3 := bl_step (bl_step hb1 hb2) hb3
  go_wp2_with (fail)
  (go_at_call 30; refine (KH.out _ (HM.out _ bw3)).mono ?_; rintro e w4 ⟨rfl, hb4⟩)
  have bw4 := bl_step bw3 hb4
  go_wp2_with (fail)
  (go_at_call 28; refine (KT.out _ (HM.out _ bw4)).mono ?_; rintro e w5 ⟨rfl, hb5⟩)
  have bw5 := bl_step bw4 hb5
  go_wp2_with (fail)
  (go_at_call 26; refine (KC.out _ (HM.out _ bw5)).mono ?_; rintro e w6 ⟨rfl, hb6⟩)
  go_wp2
  go_ret
  exact ⟨rfl, bl_step bw5 hb6⟩

noncomputable def fnVerse_world (os : Os) : World := { World.holding Try.prog os ⟨#[], #[], []⟩ with heap := (World.holding Try.prog os ⟨#[], #[], []⟩).heap }
theorem fnVerse_met (os : Os) : laidMet Try.prog Rows.fnVerseRow.laid ((fnVerse_world os).forCall (fun _ _ => 0) ⟨#[], #[.slice none 0 0], []⟩).memory :=
  laidMet_of_run' 8 (by kernel_rfl) (by kernel_rfl)
theorem fnVerse_reads (os : Os) {H : Type} (enc : TypeId × Value → H) : ∃ places, DataW.whole enc Try.prog ((fnVerse_world os).forCall (fun _ _ => 0) ⟨#[], #[.slice none 0 0], []⟩).memory Try.f16.params.toList Rows.fnVerseSpec.vars false (#[.slice none 0 0] : Array Value).toList 8 = some ([.nil], [], places) :=
  ⟨((DataW.whole enc Try.prog ((fnVerse_world os).forCall (fun _ _ => 0) ⟨#[], #[.slice none 0 0], []⟩).memory Try.f16.params.toList Rows.fnVerseSpec.vars false (#[.slice none 0 0] : Array Value).toList 8).getD ([], [], [])).2.2, by kernel_rfl⟩
set_option maxRecDepth 100000 in
theorem fnVerse_lifted (os : Os) (started : os.Started) (H : Type) (enc : TypeId × Value → H) (F : Stop.Interp) :
    ReturnsInHanded {} Try.checked os 16 .any ((OpenSpec.ofChange Rows.fnVerseSpec).preRow enc Try.prog Try.f16 Rows.fnVerseRow.domain false Rows.fnVerseRow.laid) (((OpenSpec.ofChange Rows.fnVerseSpec).at F).post enc Try.prog Try.f16 false true false false) := by
  obtain ⟨places, hx⟩ := fnVerse_reads os enc
  refine returnsInHanded_of_row (C := Try.checked) (s := OpenSpec.ofChange Rows.fnVerseSpec) own started (by kernel_rfl) Try.func16
    (witness_row_at (enc := enc) (C := Try.checked) false (fnVerse_world os) #[.slice none 0 0] rfl (by kernel_rfl) (by kernel_rfl) (by kernel_rfl)
      (OpenSpec.preRow_of_cond 8 hx (by kernel_rfl) (fun k hk => by cases hk) (by kernel_rfl) (fnVerse_met os))) ?_
  intro W base args ds gs before hval0 hW _ _ _ hL hSh _
  have hval : ∀ (j : Nat) t v, Try.f16.params[j]? = some t → args[j]? = some v → Value.okWide Try.prog W .any base t v := hval0
  have hW' := hW
  obtain ⟨p, q, hA0, hV, rfl, _, _⟩ := hW
  have hA : DataW.TrodAll enc Try.prog W 0 (fun _ => true) true Try.f16.params.toList args.toList ds p := hA0
  rw [Try.params16] at hA hval
  obtain ⟨v0, vs0, d0, ds0, p0, q0, hargs, rfl, rfl, h0, r0⟩ := trodAll_cons hA
  obtain ⟨rfl, rfl, rfl⟩ := trodAll_nil r0
  obtain rfl : args = #[v0] := by cases args; simp_all
  obtain ⟨rfl, rfl⟩ := trodVars_none hV
  obtain ⟨a0, n0, c0, rfl⟩ := okWide_slice Try.underlying66 (hval 0 66 v0 rfl rfl)
  have k0 := h0
  have lt0 : ∀ x ∈ p0, x.block < W.heap.size := by obtain ⟨m, hm⟩ := k0; exact DataW.trod_lt m _ _ _ hm
  have y0 := code_in h0
  clear hA0 hval0
  refine (fnVerse_walk a0 n0 c0 W y0.1 y0.2.1 y0.2.2 (Try.laysM145.s1_3 W hSh)).mono fun e W' ⟨he, hb⟩ => ?_
  subst he
  exact ⟨_, rfl, _, _, _, [], _, [], hW', trodAll_cons_mk (shut_bool Try.underlying4 _) trodAll_mk0, trodAll_cons_mk (Below.trod laidOut (by kernel_rfl) (of_decide_eq_true (by kernel_rfl)) k0 hb lt0) (trodAll_mk0), rfl, hb.frame _, fun h => by cases h⟩


end Go.Proofs.Ytkjimilapgkajaa
