/-
  The law FnContour: for every code, a contour is kept by a move and turned round by the way back.
-/
import Derived.Test.YtkjimilapgkajabDoorCov
import Derived.Test.YtkjimilapgkajabDoorDrawCo
import Derived.Test.YtkjimilapgkajabDoorCox
import Derived.Test.YtkjimilapgkajabDoorCb
import Derived.Test.YtkjimilapgkajabDoorCv2
import Derived.Test.YtkjimilapgkajabDoorMelB
import Derived.Test.YtkjimilapgkajabDoorMmi
import Derived.Test.YtkjimilapgkajabDoorLaid
import Derived.Test.YtkjimilapgkajabDoorFlat
import Derived.Test.YtkjimilapgkajabDoorCode
import Derived.ChangeMaps5
import Derived.Deep.DeepRowAt
namespace Go.Proofs.YtkjimilapgkajabDoor
open Go.RowKit Go.ChangeShapes Go.WideShapes Go.ChangeAt Go.ChangeMaps
set_option maxRecDepth 100000
set_option linter.unusedVariables false

set_option maxHeartbeats 16000000 in
theorem fnContour_walk (a : Option Addr) (n cap : Nat) (w : World) (h : CodeAt w a n) (hc : n ≤ cap) (hcap : cap ≤ maxLen) (ht : StepTab w) :
    Calls Tryd.prog 5 #[.slice a n cap] w fun e w' => e = .returned (.bool true) ∧ Below w.heap.size w w' := by
  have HT := Lib.hid ht
  clear ht
  by_cases hn : 1048576 < n
  · have g : (1048576 : Int) < (n : Int) := by omega
    go_enter Tryd.func5, Tryd.ntmps5
    go_wp2
    go_ret
    exact ⟨rfl, Below.refl _ _⟩
  have g : decide ((1048576 : Int) < (n : Int)) = false := by simp; omega
  go_enter Tryd.func5, Tryd.ntmps5
  go_wp2_with (fail)
  (go_at_call 25; refine (drawContourOf_any a n cap _ h hc hcap).mono ?_; rintro e w1 ⟨v, xs, rfl, hr1, hx9, hb1⟩)
  clear h hc hcap g hn
  go_wp2_with (fail)
  (go_at_call 26; refine (contourOf_any _ _ v xs _ hr1).mono ?_; rintro e w2 ⟨rfl, hb2⟩)
  have hr2 := hr1.below hb2 (.inl (Nat.le_refl _))
  have z1 := hb2.size
  go_wp2_with (fail)
  (go_at_call 27; refine (sContourOf_any _ _ v xs _ hr2).mono ?_; rintro e w3 ⟨rfl, hb3⟩)
  have bw3 := bl_step (bl_step hb1 hb2) hb3
  have hr3 := hr2.below hb3 (.inl z1)
  have z3 := hb3.size
  clear hr1 hr2
  by_cases hE : ctO xs = ⟨#[]⟩
  · rw [hE]
    clear hr3
    go_wp2
    go_ret
    exact ⟨rfl, bw3⟩
  obtain ⟨hm, hl2⟩ := ctO_nil hE
  obtain ⟨av, cv', rfl⟩ : ∃ a c, v = .slice a xs.length c := by
    obtain ⟨a, c, h, _⟩ := hr3.flat rfl
    exact ⟨a, c, h⟩
  have hsz := ctO_size hm
  have hcv := ctO_cv hm
  have hbk := ctO_back hm
  have hmo : mmB 7 xs = true → ctO (mmL 7 xs) = ctO xs := ctO_moved
  have KM := Lib.hid (fun lo hi v W h ht => melodyMove_any lo hi v xs 7 W h ht)
  have KB := Lib.hid (fun lo hi v W h => melodyBack_any lo hi v xs W h)
  have KX := Lib.hid (fun W => contourBack_any (ctO xs) (by omega) W)
  have KV := Lib.hid (fun W => contourValid_any (ctO xs) W)
  have KU := Lib.hid (fun lo hi v W h => contourOf_any lo hi v (mmL 7 xs) W h)
  have KR := Lib.hid (fun lo hi v W h => contourOf_any lo hi v (mvl xs).reverse W h)
  rw [hbk] at KR
  rw [hcv] at KX KV
  rw [hm] at KB
  have HR := Lib.hid hr3
  clear hr3 hbk hcv hm
  generalize ctB (ctO xs) = cb at *
  generalize ctO (mmL 7 xs) = cu at *
  generalize ctO xs = c at *
  generalize mmL 7 xs = ys at *
  generalize (mvl xs).reverse = rs at *
  generalize mmB 7 xs = mb at *
  generalize hL : xs.length = L at *
  have HL := Lib.hid hL
  have hcz : (c.size : Int) = (L : Int) - 1 := by omega
  clear hsz hL
  have m1 : IntKind.i64.wrap ((L : Int) - 1) = (L : Int) - 1 := IntWalk.i64_in _ (by omega)
  have hq : ((c.size : Int) == (L : Int) - 1) = true := by rw [beq_iff_eq]; exact hcz
  have hne : c.toList ≠ [] := by
    intro e
    rw [ByteArray.toList_eq] at e
    have e2 := congrArg List.length e
    have e3 : c.data.toList.length = c.size := by simp
    rw [e3, List.length_nil] at e2
    omega
  have hE2 : (c.toList == []) = false := by rw [beq_eq_false_iff_ne]; exact hne
  have hE3 : (c.toList == (⟨#[]⟩ : ByteArray).toList) = false := by rw [ByteArray.toList_eq ⟨#[]⟩]; exact hE2
  have hz0 : (c.toList == c.toList) = true := by simp
  have hz1 : (cb.toList == cb.toList) = true := by simp
  go_wp2_with (fail)
  (go_at_call 28; refine (KM.out _ _ _ _ HR.out (HT.out.below bw3)).mono ?_; rintro e w4 ⟨up, rfl, hru, hb4⟩)
  have bw4 := bl_step bw3 hb4
  have hr4 := HR.out.below hb4 (.inl (by omega))
  have z4 := hb4.size
  go_wp2_with (fail)
  (go_at_call 29; refine (KB.out _ _ _ _ hr4).mono ?_; rintro e w5 ⟨bk, rfl, hrb, hb5⟩)
  have bw5 := bl_step bw4 hb5
  have hru := hru.below hb5 (.inl (Nat.le_refl _))
  have z5 := hb5.size
  clear hr4
  go_wp2_with (fail)
  (go_at_call 30; refine (KX.out _).mono ?_; rintro e w6 ⟨rfl, hb6⟩)
  have bw6 := bl_step bw5 hb6
  have hru := hru.below hb6 (.inl (by omega))
  have hrb := hrb.below hb6 (.inl (Nat.le_refl _))
  have z6 := hb6.size
  clear KM KB KX
  cases mb
  · clear hru
    have HRB := Lib.hid hrb
    clear hrb
    go_wp2_with (fail)
    (go_at_call 26; refine (KR.out _ _ _ _ HRB.out).mono ?_; rintro e w7 ⟨rfl, hb7⟩)
    have bw7 := bl_step bw6 hb7
    go_wp2_with (fail)
    (go_at_call 31; refine (KV.out _).mono ?_; rintro e w8 ⟨rfl, hb8⟩)
    go_wp2
    go_ret
    exact ⟨rfl, bl_step bw7 hb8⟩
  · obtain rfl := hmo rfl
    have HRU := Lib.hid hru
    have HRB := Lib.hid hrb
    clear hru hrb
    go_wp2_with (fail)
    (go_at_call 26; refine (KU.out _ _ _ _ HRU.out).mono ?_; rintro e w7 ⟨rfl, hb7⟩)
    have bw7 := bl_step bw6 hb7
    have hrb := HRB.out.below hb7 (.inl (by omega))
    have HRB := Lib.hid hrb
    clear hrb
    go_wp2_with (fail)
    (go_at_call 26; refine (KR.out _ _ _ _ HRB.out).mono ?_; rintro e w8 ⟨rfl, hb8⟩)
    have bw8 := bl_step bw7 hb8
    go_wp2_with (fail)
    (go_at_call 31; refine (KV.out _).mono ?_; rintro e w9 ⟨rfl, hb9⟩)
    go_wp2
    go_ret
    exact ⟨rfl, bl_step bw8 hb9⟩

noncomputable def fnContour_world (os : Os) : World := { World.holding Tryd.prog os ⟨#[], #[], []⟩ with heap := ((World.holding Tryd.prog os ⟨#[], #[], []⟩).heap.modify 2 fun | .cells _ t frozen => .cells #[.int .i64 0, .int .i64 2, .int .i64 4, .int .i64 5, .int .i64 7, .int .i64 9, .int .i64 10] t frozen | o => o) }
theorem fnContour_met (os : Os) : laidMet Tryd.prog Rows.fnContourRow.laid ((fnContour_world os).forCall (fun _ _ => 0) ⟨#[], #[.slice none 0 0], []⟩).memory :=
  laidMet_of_run' 8 (by kernel_rfl) (by kernel_rfl)
theorem fnContour_reads (os : Os) {H : Type} (enc : TypeId × Value → H) : ∃ places, DataW.whole enc Tryd.prog ((fnContour_world os).forCall (fun _ _ => 0) ⟨#[], #[.slice none 0 0], []⟩).memory Tryd.f5.params.toList Rows.fnContourSpec.vars false (#[.slice none 0 0] : Array Value).toList 8 = some ([.nil], [Rows.laid_loop_example_neumes_impl_stepHeights], places) :=
  ⟨((DataW.whole enc Tryd.prog ((fnContour_world os).forCall (fun _ _ => 0) ⟨#[], #[.slice none 0 0], []⟩).memory Tryd.f5.params.toList Rows.fnContourSpec.vars false (#[.slice none 0 0] : Array Value).toList 8).getD ([], [], [])).2.2, by kernel_rfl⟩
set_option maxRecDepth 100000 in
theorem fnContour_lifted (os : Os) (started : os.Started) (H : Type) (enc : TypeId × Value → H) (F : Stop.Interp) :
    ReturnsInHanded {} Tryd.checked os 5 .any ((OpenSpec.ofChange Rows.fnContourSpec).preRow enc Tryd.prog Tryd.f5 Rows.fnContourRow.domain false Rows.fnContourRow.laid) (((OpenSpec.ofChange Rows.fnContourSpec).at F).post enc Tryd.prog Tryd.f5 false true false false) := by
  obtain ⟨places, hx⟩ := fnContour_reads os enc
  refine returnsInHanded_of_row (C := Tryd.checked) (s := OpenSpec.ofChange Rows.fnContourSpec) own started (by kernel_rfl) Tryd.func5
    (witness_row_at (enc := enc) (C := Tryd.checked) false (fnContour_world os) #[.slice none 0 0] rfl (by kernel_rfl) (by kernel_rfl) (by kernel_rfl)
      (OpenSpec.preRow_of_cond 8 hx (by kernel_rfl) (fun k hk => by cases hk) (by kernel_rfl) (fnContour_met os))) ?_
  intro W base args ds gs before hval0 hW _ _ _ hL _ _
  have hval : ∀ (j : Nat) t v, Tryd.f5.params[j]? = some t → args[j]? = some v → Value.okWide Tryd.prog W .any base t v := hval0
  have hW' := hW
  obtain ⟨p, q, hA0, hV, rfl, _, _⟩ := hW
  have hA : DataW.TrodAll enc Tryd.prog W 0 (fun _ => true) true Tryd.f5.params.toList args.toList ds p := hA0
  rw [Tryd.params5] at hA hval
  obtain ⟨v0, vs0, d0, ds0, p0, q0, hargs, rfl, rfl, h0, r0⟩ := trodAll_cons hA
  obtain ⟨rfl, rfl, rfl⟩ := trodAll_nil r0
  obtain rfl : args = #[v0] := by cases args; simp_all
  obtain ⟨g0, rfl⟩ := vars1 hV
  obtain ⟨a0, n0, c0, rfl⟩ := okWide_slice Tryd.underlying22 (hval 0 22 v0 rfl rfl)
  have k0 := h0
  have lt0 : ∀ x ∈ p0, x.block < W.heap.size := by obtain ⟨m, hm⟩ := k0; exact DataW.trod_lt m _ _ _ hm
  have y0 := code_in h0
  clear hA0 hval0
  refine (fnContour_walk a0 n0 c0 W y0.1 y0.2.1 y0.2.2 (stepTab hL)).mono fun e W' ⟨he, hb⟩ => ?_
  subst he
  exact ⟨_, rfl, _, _, _, [], _, _, hW', trodAll_cons_mk (shut_bool Tryd.underlying4 _) trodAll_mk0, trodAll_cons_mk (Below.trod laidOut (by kernel_rfl) (of_decide_eq_true (by kernel_rfl)) k0 hb lt0) (trodAll_mk0), hb.trodVars laidOut (by kernel_rfl) hV, hb.frame _, fun h => by cases h⟩


end Go.Proofs.YtkjimilapgkajabDoor
