/-
  The law FnVerseGap: for every code, a gap lies in one half.
-/
import Derived.Test.YtkjimilapgkajaaVg2
import Derived.Test.YtkjimilapgkajaaVz
import Derived.Test.YtkjimilapgkajaaDrawV
import Derived.Test.YtkjimilapgkajaaCode
import Derived.Test.YtkjimilapgkajaaOpen
import Derived.ChangeMaps5
import Derived.Deep.DeepRowAt
import Derived.Deep.DeepHandedRow
namespace Go.Proofs.Ytkjimilapgkajaa
open Go.RowKit Go.ChangeShapes Go.WideShapes Go.ChangeAt Go.ChangeMaps
set_option maxRecDepth 100000
set_option linter.unusedVariables false

set_option maxHeartbeats 16000000 in
theorem fnVerseGap_walk (a : Option Addr) (n cap : Nat) (w : World) (h : CodeAt w a n) (hc : n ≤ cap) (hcap : cap ≤ maxLen) (hm : MaxAt w) :
    Calls Try.prog 18 #[.slice a n cap] w fun e w' => e = .returned (.bool true) ∧ Below w.heap.size w w' := by
  by_cases hn : 1048576 < n
  · have g : (1048576 : Int) < (n : Int) := by omega
    go_enter Try.func18, Try.ntmps18
    go_wp2
    go_ret
    exact ⟨rfl, Below.refl _ _⟩
  have g : decide ((1048576 : Int) < (n : Int)) = false := by simp; omega
  have HM : Hid (∀ W, Below w.heap.size w W → MaxAt W) := fun W hb => hm.below hb
  clear hm
  go_enter Try.func18, Try.ntmps18
  go_wp2_with (fail)
  (go_at_call 69; refine (drawVerseGap_any a n cap _ h hc hcap).mono ?_; rintro e w1 ⟨s, rfl, hs9, hb1⟩)
  clear h hc hcap g hn
  have KI := Lib.hid (fun W h => verseGap_any s (by omega) W h)
  have KS := Lib.hid (fun W => sVerseGap_any s (by omega) W)
  cases hv : vvl s.data.toList
  · rw [vgap_no hv] at KI KS
    clear hv
    go_wp2_with (fail)
    (go_at_call 37; refine (KI.out _ (HM.out _ hb1)).mono ?_; rintro e w2 ⟨rfl, hb2⟩)
    go_wp2_with (fail)
    (go_at_call 36; refine (KS.out _).mono ?_; rintro e w3 ⟨rfl, hb3⟩)
    go_wp2
    go_ret
    exact ⟨rfl, bl_step (bl_step hb1 hb2) hb3⟩
  obtain ⟨G, hG, hex, hey, hmx, hnx⟩ := gap_facts hv
  have h20 := vhalf_size' s
  have KE := Lib.hid (fun W h => verseEnds_any s (by omega) W h)
  rw [(vE_yes hv).1, (vE_yes hv).2] at KE
  have KH := Lib.hid (fun W h => verseHalves_any s (by omega) W h)
  rw [hv] at KH KE
  have hs1 : (⟨#[120]⟩ : ByteArray).size = 1 := rfl
  have hsz : (s ++ ⟨#[120]⟩).size = s.size + (⟨#[120]⟩ : ByteArray).size := ByteArray.size_append
  have hadd : ∀ W : World, (Op.stringOp .add s ⟨#[120]⟩).run Try.prog W = .ok (.string (s ++ ⟨#[120]⟩)) W := fun W => run_string_add_sum W _ _ (by omega)
  have KN := Lib.hid (fun W h => verseGap_any (s ++ ⟨#[120]⟩) (by omega) W h)
  rw [hG] at KI KS
  clear hv hG
  generalize vgap (s ++ ⟨#[120]⟩) = nx at *
  generalize s ++ (⟨#[120]⟩ : ByteArray) = s2 at *
  generalize hex' : enx (vFst s) = ex at *
  generalize hey' : enx (vSnd s) = ey at *
  generalize vFst s = x at *
  generalize vSnd s = y at *
  clear hex' hey'
  have c1 : decide (ex ≤ (G : Int)) = true := by simpa using hex
  have c2 : decide (ey ≤ (G : Int)) = true := by simpa using hey
  have c3 : (G : Int) ≤ max (x.size : Int) (y.size : Int) := by omega
  have g0 : (0 : Int) ≤ (G : Int) := by omega
  go_wp2_with (fail)
  (go_at_call 37; refine (KI.out _ (HM.out _ hb1)).mono ?_; rintro e w2 ⟨rfl, hb2⟩)
  go_wp2_with (fail)
  (go_at_call 36; refine (KS.out _).mono ?_; rintro e w3 ⟨rfl, hb3⟩)
  have bw3 := Lib.hid (bl_step (bl_step hb1 hb2) hb3)
  clear hb1 hb2 hb3
  go_wp2_with (fail)
  (go_at_call 39; refine (KE.out _ (HM.out _ bw3.out)).mono ?_; rintro e w4 ⟨rfl, hb4⟩)
  have bw4 := Lib.hid (bl_step bw3.out hb4)
  clear hb4
  go_wp2_with (fail)
  (go_at_call 30; refine (KH.out _ (HM.out _ bw4.out)).mono ?_; rintro e w5 ⟨rfl, hb5⟩)
  have bw5 := Lib.hid (bl_step bw4.out hb5)
  clear hb5
  go_wp2_with (fail)
  (go_at_call 37; refine (KN.out _ (HM.out _ bw5.out)).mono ?_; rintro e w6 ⟨rfl, hb6⟩)
  have bw6 := Lib.hid (bl_step bw5.out hb6)
  clear hb6
  have s1 : IntKind.i64.wrap ((G : Int) + 1) = (G : Int) + 1 := IntWalk.i64_in _ (by omega)
  have s2' : IntKind.i64.wrap ((x.size : Int) + (y.size : Int)) = (x.size : Int) + (y.size : Int) := IntWalk.i64_in _ (by omega)
  rcases hnx with ⟨rfl, q⟩ | rfl | rfl
  · have q1 : ((x.size : Int) + (y.size : Int) == 20) = true := by rw [beq_iff_eq]; omega
    go_wp2
    go_ret
    exact ⟨rfl, bw6.out⟩
  · have q0 : ((G : Int) == -1) = false := by rw [beq_eq_false_iff_ne]; omega
    go_wp2
    go_ret
    exact ⟨rfl, bw6.out⟩
  · have q0 : ((G : Int) + 1 == -1) = false := by rw [beq_eq_false_iff_ne]; omega
    have q1 : ((G : Int) + 1 == (G : Int)) = false := by rw [beq_eq_false_iff_ne]; omega
    go_wp2
    go_ret
    exact ⟨rfl, bw6.out⟩

noncomputable def fnVerseGap_world (os : Os) : World := { World.holding Try.prog os ⟨#[], #[], []⟩ with heap := (World.holding Try.prog os ⟨#[], #[], []⟩).heap }
theorem fnVerseGap_met (os : Os) : laidMet Try.prog Rows.fnVerseGapRow.laid ((fnVerseGap_world os).forCall (fun _ _ => 0) ⟨#[], #[.slice none 0 0], []⟩).memory :=
  laidMet_of_run' 8 (by kernel_rfl) (by kernel_rfl)
theorem fnVerseGap_reads (os : Os) {H : Type} (enc : TypeId × Value → H) : ∃ places, DataW.whole enc Try.prog ((fnVerseGap_world os).forCall (fun _ _ => 0) ⟨#[], #[.slice none 0 0], []⟩).memory Try.f18.params.toList Rows.fnVerseGapSpec.vars false (#[.slice none 0 0] : Array Value).toList 8 = some ([.nil], [], places) :=
  ⟨((DataW.whole enc Try.prog ((fnVerseGap_world os).forCall (fun _ _ => 0) ⟨#[], #[.slice none 0 0], []⟩).memory Try.f18.params.toList Rows.fnVerseGapSpec.vars false (#[.slice none 0 0] : Array Value).toList 8).getD ([], [], [])).2.2, by kernel_rfl⟩
set_option maxRecDepth 100000 in
theorem fnVerseGap_lifted (os : Os) (started : os.Started) (H : Type) (enc : TypeId × Value → H) (F : Stop.Interp) :
    ReturnsInHanded {} Try.checked os 18 .any ((OpenSpec.ofChange Rows.fnVerseGapSpec).preRow enc Try.prog Try.f18 Rows.fnVerseGapRow.domain false Rows.fnVerseGapRow.laid) (((OpenSpec.ofChange Rows.fnVerseGapSpec).at F).post enc Try.prog Try.f18 false true false false) := by
  obtain ⟨places, hx⟩ := fnVerseGap_reads os enc
  refine returnsInHanded_of_row (C := Try.checked) (s := OpenSpec.ofChange Rows.fnVerseGapSpec) own started (by kernel_rfl) Try.func18
    (witness_row_at (enc := enc) (C := Try.checked) false (fnVerseGap_world os) #[.slice none 0 0] rfl (by kernel_rfl) (by kernel_rfl) (by kernel_rfl)
      (OpenSpec.preRow_of_cond 8 hx (by kernel_rfl) (fun k hk => by cases hk) (by kernel_rfl) (fnVerseGap_met os))) ?_
  intro W base args ds gs before hval0 hW _ _ _ hL hSh _
  have hval : ∀ (j : Nat) t v, Try.f18.params[j]? = some t → args[j]? = some v → Value.okWide Try.prog W .any base t v := hval0
  have hW' := hW
  obtain ⟨p, q, hA0, hV, rfl, _, _⟩ := hW
  have hA : DataW.TrodAll enc Try.prog W 0 (fun _ => true) true Try.f18.params.toList args.toList ds p := hA0
  rw [Try.params18] at hA hval
  obtain ⟨v0, vs0, d0, ds0, p0, q0, hargs, rfl, rfl, h0, r0⟩ := trodAll_cons hA
  obtain ⟨rfl, rfl, rfl⟩ := trodAll_nil r0
  obtain rfl : args = #[v0] := by cases args; simp_all
  obtain ⟨rfl, rfl⟩ := trodVars_none hV
  obtain ⟨a0, n0, c0, rfl⟩ := okWide_slice Try.underlying66 (hval 0 66 v0 rfl rfl)
  have k0 := h0
  have lt0 : ∀ x ∈ p0, x.block < W.heap.size := by obtain ⟨m, hm⟩ := k0; exact DataW.trod_lt m _ _ _ hm
  have y0 := code_in h0
  clear hA0 hval0
  refine (fnVerseGap_walk a0 n0 c0 W y0.1 y0.2.1 y0.2.2 (Try.laysM145.s1_3 W hSh)).mono fun e W' ⟨he, hb⟩ => ?_
  subst he
  exact ⟨_, rfl, _, _, _, [], _, [], hW', trodAll_cons_mk (shut_bool Try.underlying4 _) trodAll_mk0, trodAll_cons_mk (Below.trod laidOut (by kernel_rfl) (of_decide_eq_true (by kernel_rfl)) k0 hb lt0) (trodAll_mk0), rfl, hb.frame _, fun h => by cases h⟩


end Go.Proofs.Ytkjimilapgkajaa
