/-
  The law FnExecuteOrdo: for every code, an ordo is told by a script.
-/
import Derived.Test.YtaelkgpebhdlhaaGreatDoorExg
import Derived.Test.YtaelkgpebhdlhaaGreatDoorSm8
import Derived.Test.YtaelkgpebhdlhaaGreatDoorDrh
import Derived.Test.YtaelkgpebhdlhaaGreatDoorOpen
import Derived.Test.YtaelkgpebhdlhaaGreatDoorVars4
import Derived.ChangeMaps5
import Derived.Deep.DeepHandedRow
import Derived.Deep.DeepRowAt
import Derived.OpenVars
import Derived.SevenTiedAt
import Derived.Test.YtaelkgpebhdlhaaGreatDoorCards
import Derived.Test.YtaelkgpebhdlhaaGreatDoorTie
import Derived.Lay
import Derived.Deep.DeepWitnessRowRef
namespace Go.Proofs.YtaelkgpebhdlhaaGreatDoor
open Go.RowKit Go.ChangeShapes Go.WideShapes Go.ChangeAt Go.ChangeMaps
set_option maxRecDepth 100000
set_option linter.unusedVariables false

set_option maxHeartbeats 8000000 in
theorem fnExecuteOrdo_walk (a : Option Addr) (n cap : Nat) (w : World) (h : CodeAt w a n) (hc : n ≤ cap) (hcap : cap ≤ maxLen) (x : Int) (hm : w.cell? ⟨3, 0, none⟩ = some (.int .i64 x)) :
    Calls Tryz.prog 9 #[.slice a n cap] w fun e w' => e = .returned (.bool true) ∧ Below w.heap.size w w' := by
  by_cases hn : 1048576 < n
  · have g : (1048576 : Int) < (n : Int) := by omega
    go_enter Tryz.func9, Tryz.ntmps9
    go_wp2
    go_ret
    exact ⟨rfl, Below.refl _ _⟩
  have g : decide ((1048576 : Int) < (n : Int)) = false := by simp; omega
  have HM := Lib.hid hm
  have h3 : 3 < w.heap.size := World.block_lt_of_cell? w _ hm
  have HMX : Hid (∀ W, Below w.heap.size w W → W.cell? ⟨3, 0, none⟩ = some (.int .i64 x)) := fun W hb => (hb.cell (p := ⟨3, 0, none⟩) h3).trans hm
  clear hm
  go_enter Tryz.func9, Tryz.ntmps9
  go_wp2_with (fail)
  (go_at_call 33; refine (drawRhythmOrdo_any a n cap _ h hc hcap).mono ?_; rintro e w1 ⟨m, k, rfl, m0, m7, k13, hb1⟩)
  clear h hc hcap g hn
  have HI := Lib.hid (fun w => rhythmOrdo_any m (k : Int) w)
  have HS := Lib.hid (fun w => sRhythmOrdo_any m (k : Int) w)
  have HY := Lib.hid (fun v u w h k8 => sameIntsV_yes v u (oLst m k) w h k8)
  unfold Ordo2 at HI HS
  have HW1 := Lib.hid hb1
  clear hb1
  cases hok : oOk m k with
  | false =>
    rw [hok] at HI HS
    clear hok
    generalize oRst m k = R at HI HS
    generalize oLst m k = xs at HI HS HY
    go_wp2_with (fail)
    (go_at_call 34; refine (HI.out _).mono ?_; rintro e w2 ⟨vi, rfl, ri, hb2⟩)
    have HV2 := Lib.hid ri
    have HW2 := Lib.hid (bl_step HW1.out hb2)
    clear ri hb2
    go_wp2_with (fail)
    (go_at_call 35; refine (HS.out _).mono ?_; rintro e w3 ⟨vs, rfl, rs, hb3⟩)
    have HVI := Lib.hid (HV2.out.view.below hb3)
    have HVS := Lib.hid rs.view
    have HW3 := Lib.hid (bl_step HW2.out hb3)
    clear rs hb3 HV2
    go_wp2_with (fail)
    (go_at_call 19; refine (HY.out _ _ _ HVI.out HVS.out).mono ?_; rintro e w4 ⟨rfl, hb4⟩)
    have HVI4 := Lib.hid (HVI.out.below hb4)
    have HVS4 := Lib.hid (HVS.out.below hb4)
    have HW4 := Lib.hid (bl_step HW3.out hb4)
    clear hb4
    go_wp2_with (fail)
    (go_at_call 19; refine (HY.out _ _ _ HVI4.out HVS4.out).mono ?_; rintro e w5 ⟨rfl, hb5⟩)
    have HW5 := Lib.hid (bl_step HW4.out hb5)
    clear hb5
    go_wp2
    go_ret
    exact ⟨rfl, HW5.out⟩
  | true =>
    have hio := oOk_in hok
    obtain ⟨mn, rfl⟩ : ∃ q : Nat, m = (q : Int) := ⟨m.toNat, by omega⟩
    have hR := oRst_in (m := (mn : Int)) (n := (k : Int))
    have HLI := Lib.hid (fun z hz => oLst_in (m := (mn : Int)) (n := (k : Int)) (z := z) hz)
    have hll := oLst_len (m := (mn : Int)) (n := (k : Int))
    have HE := Lib.hid (fun w h => execute_ordo mn k x w hok h)
    have HD1 := Lib.hid (fun w => digits_any mn (by omega) w)
    have HD2 := Lib.hid (fun w => digits_any k (by omega) w)
    have HEL := Lib.hid endLine_none
    have HOS := Lib.hid (ordS_is (m := mn) (n := k) (by omega) (by omega))
    have HOO := Lib.hid (ordOut_is (mn : Int).toNat k)
    have hmn : ((mn : Int).toNat : Int) = (mn : Int) := by omega
    have HOO2 : Hid (wnb ⟨#[111, 114, 100, 111]⟩ (oLst mn k) ++ ⟨#[32, 114, 101, 115, 116, 32]⟩ ++ itb (oRst mn k) ++ ⟨#[10]⟩ ++ (end9 0 0 ++ ⟨#[10]⟩) = ordOut mn k) := ordOut_is mn k
    have hsw := wnb_size (t := ⟨#[111, 114, 100, 111]⟩) (zs := oLst mn k) (fun z hz => by
      have hb := oLst_in hz
      obtain ⟨q, rfl⟩ : ∃ q : Nat, z = (q : Int) := ⟨z.toNat, by omega⟩
      have := itb_small (i := q) (by omega)
      omega)
    rw [hok] at HI HS
    clear hok HOO hmn
    have sz1 := itb_small (i := mn) (by omega)
    have sz2 := itb_small (i := k) (by omega)
    generalize hzs : oLst (mn : Int) (k : Int) = zs at *
    obtain ⟨r, hr⟩ : ∃ r : Nat, oRst (mn : Int) (k : Int) = (r : Int) := ⟨(oRst (mn : Int) (k : Int)).toNat, by omega⟩
    rw [hr] at HI HS hR HOO2
    have HD3 := Lib.hid (fun w => digits_any r (by omega) w)
    have sz3 := itb_small (i := r) (by omega)
    clear hzs hr
    generalize ordOut mn k = OUT at HE HOO2
    generalize hos : ordS mn k = SCR at HE HOS
    clear hos
    generalize itb (mn : Int) = b1 at *
    generalize itb (k : Int) = b2 at *
    generalize itb (r : Int) = b3 at *
    have a1 : ∀ W : World, (Op.stringOp .add ⟨#[111, 114, 100, 111, 32]⟩ b1).run Tryz.prog W = .ok (.string (⟨#[111, 114, 100, 111, 32]⟩ ++ b1)) W := fun W => run_string_add_sum W _ _ (by show 5 + b1.size ≤ _; omega)
    have z1 : ((⟨#[111, 114, 100, 111, 32]⟩ : ByteArray) ++ b1).size ≤ 10 := by rw [ByteArray.size_append]; show 5 + b1.size ≤ _; omega
    generalize (⟨#[111, 114, 100, 111, 32]⟩ : ByteArray) ++ b1 = p1 at a1 z1 HOS
    have a2 : ∀ W : World, (Op.stringOp .add p1 ⟨#[32]⟩).run Tryz.prog W = .ok (.string (p1 ++ ⟨#[32]⟩)) W := fun W => run_string_add_sum W _ _ (by show p1.size + 1 ≤ _; omega)
    have z2 : (p1 ++ (⟨#[32]⟩ : ByteArray)).size ≤ 20 := by rw [ByteArray.size_append]; show p1.size + 1 ≤ _; omega
    generalize p1 ++ (⟨#[32]⟩ : ByteArray) = p2 at a2 z2 HOS
    have a3 : ∀ W : World, (Op.stringOp .add p2 b2).run Tryz.prog W = .ok (.string (p2 ++ b2)) W := fun W => run_string_add_sum W _ _ (by omega)
    have z3 : (p2 ++ b2).size ≤ 30 := by rw [ByteArray.size_append]; omega
    generalize p2 ++ b2 = p3 at a3 z3 HOS
    have a4 : ∀ W : World, (Op.stringOp .add p3 ⟨#[10]⟩).run Tryz.prog W = .ok (.string SCR) W := fun W => by rw [← HOS.out]; exact run_string_add_sum W _ _ (by show p3.size + 1 ≤ _; omega)
    have z4 : (end9 0 0 ++ (⟨#[10]⟩ : ByteArray)).size ≤ 30 := by
      have hi0 : (itb ((0 : Nat) : Int)).size ≤ 2 := itb_small (by omega)
      unfold end9
      have s7 : (⟨#[116, 111, 110, 101, 115, 32]⟩ : ByteArray).size = 6 := rfl
      have s8 : (⟨#[32, 101, 110, 116, 114, 105, 101, 115, 32]⟩ : ByteArray).size = 9 := rfl
      have s9 : (⟨#[10]⟩ : ByteArray).size = 1 := rfl
      simp only [ByteArray.size_append, s7, s8, s9]
      omega
    generalize end9 0 0 ++ (⟨#[10]⟩ : ByteArray) = EL at HEL HOO2 z4
    clear z1 z2 z3 HOS sz1 sz2 m0 m7
    have HSW := Lib.hid hsw
    clear hsw
    go_wp2_with (fail)
    (go_at_call 34; refine (HI.out _).mono ?_; rintro e w2 ⟨vi, rfl, ri, hb2⟩)
    have HV2 := Lib.hid ri
    have HW2 := Lib.hid (bl_step HW1.out hb2)
    clear ri hb2
    go_wp2_with (fail)
    (go_at_call 35; refine (HS.out _).mono ?_; rintro e w3 ⟨vs, rfl, rs, hb3⟩)
    have HVI := Lib.hid (HV2.out.view.below hb3)
    have HVS := Lib.hid rs.view
    have HW3 := Lib.hid (bl_step HW2.out hb3)
    clear rs hb3 HV2
    go_wp2_with (fail)
    (go_at_call 19; refine (HY.out _ _ _ HVI.out HVS.out).mono ?_; rintro e w4 ⟨rfl, hb4⟩)
    have hvi := HVI.out.below hb4
    obtain ⟨am, cm, rfl, hA, hcm1, hcm2⟩ := hvi
    have HVM := Lib.hid hA
    have HW4 := Lib.hid (bl_step HW3.out hb4)
    unfold maxLen at hcm2
    clear hb4 HVS HVI hA HY HI HS
    go_wp2
    go_loopw [11, 12] (fun q i wr => ∃ j : Nat, j ≤ zs.length ∧ i = .int .i64 (j : Int) ∧ q = .string (wnb ⟨#[111, 114, 100, 111]⟩ (zs.take j)) ∧ Below w4.heap.size w4 wr) (fun _ i _ => zs.length - (intOf i).toNat)
    case atStart => exact ⟨0, by omega, rfl, by simp [wnb], Below.refl _ _⟩
    case round =>
      obtain ⟨j, hj, rfl, rfl, hb⟩ := hrel
      have HB := Lib.hid hb
      by_cases hlj : j < zs.length
      · obtain ⟨z, hx⟩ : ∃ z, zs[j]? = some z := ⟨zs[j], List.getElem?_eq_getElem hlj⟩
        rcases HVM.out with h0 | ⟨A, off, rfl, hA, hcz⟩
        · subst h0; simp at hlj
        have e0 := hcz j hlj
        rw [List.getD_eq_getElem?_getD, hx] at e0
        have d0 := (hb.cell (p := ⟨A, off + j, none⟩) hA).trans e0
        simp only [Option.getD_some] at d0
        have hzb := HLI.out z (List.mem_of_getElem? hx)
        obtain ⟨zn, rfl⟩ : ∃ q : Nat, z = (q : Int) := ⟨z.toNat, by omega⟩
        have HDZ := Lib.hid (fun w => digits_any zn (by omega) w)
        have szz := itb_small (i := zn) (by omega)
        have hs2 := HSW.out j
        have hs4 : (⟨#[111, 114, 100, 111]⟩ : ByteArray).size = 4 := rfl
        rw [hs4] at hs2
        have HX := Lib.hid (wnb_take (t := ⟨#[111, 114, 100, 111]⟩) hx)
        have hk0 : (0 : Int) ≤ (j : Int) := by omega
        have hk1 : (j : Int) < (zs.length : Int) := by omega
        generalize itb (zn : Int) = y at HDZ szz HX
        generalize wnb ⟨#[111, 114, 100, 111]⟩ (zs.take j) = s0 at hs2 HX ⊢
        have q1 : ∀ W : World, (Op.stringOp .add s0 ⟨#[32]⟩).run Tryz.prog W = .ok (.string (s0 ++ ⟨#[32]⟩)) W := fun W => run_string_add_sum W _ _ (by show s0.size + 1 ≤ _; omega)
        have q2 : ∀ W : World, (Op.stringOp .add (s0 ++ ⟨#[32]⟩) y).run Tryz.prog W = .ok (.string (s0 ++ ⟨#[32]⟩ ++ y)) W := fun W => run_string_add_sum W _ _ (by rw [ByteArray.size_append]; show s0.size + 1 + y.size ≤ _; omega)
        have HX2 : Hid (wnb ⟨#[111, 114, 100, 111]⟩ (zs.take (j + 1)) = s0 ++ ⟨#[32]⟩ ++ y) := by show _ = _; rw [HX.out, ByteArray.append_assoc]
        generalize s0 ++ (⟨#[32]⟩ : ByteArray) = s1 at q1 q2 HX2
        generalize s1 ++ y = s2 at q2 HX2
        clear hb hx hcz e0 hzb hs2 szz HX
        go_wp2_with (fail)
        (go_at_call 28; refine (HDZ.out _).mono ?_; rintro e w5 ⟨rfl, hb5⟩)
        have HB5 := Lib.hid (bl_step HB.out hb5)
        clear hb5 d0
        go_wp2
        go_roundw
        case rel => exact ⟨j + 1, by omega, by go_num, by rw [HX2.out], HB5.out⟩
        case measure => simp [intOf]; omega
      · have hjn : j = zs.length := by omega
        subst hjn
        have hs2 := HSW.out zs.length
        rw [List.take_length] at hs2 ⊢
        have hs4 : (⟨#[111, 114, 100, 111]⟩ : ByteArray).size = 4 := rfl
        rw [hs4] at hs2
        have HME := Lib.hid (fun W hb' => HMX.out W (bl_step (bl_step HW4.out HB.out) hb'))
        have HWR := Lib.hid (bl_step HW4.out HB.out)
        generalize wnb ⟨#[111, 114, 100, 111]⟩ zs = s0 at hs2 HOO2 ⊢
        have q1 : ∀ W : World, (Op.stringOp .add s0 ⟨#[32, 114, 101, 115, 116, 32]⟩).run Tryz.prog W = .ok (.string (s0 ++ ⟨#[32, 114, 101, 115, 116, 32]⟩)) W := fun W => run_string_add_sum W _ _ (by show s0.size + 6 ≤ _; omega)
        have y1 : (s0 ++ (⟨#[32, 114, 101, 115, 116, 32]⟩ : ByteArray)).size ≤ 1000 := by rw [ByteArray.size_append]; show s0.size + 6 ≤ _; omega
        generalize s0 ++ (⟨#[32, 114, 101, 115, 116, 32]⟩ : ByteArray) = s1 at q1 y1 HOO2
        have q2 : ∀ W : World, (Op.stringOp .add s1 b3).run Tryz.prog W = .ok (.string (s1 ++ b3)) W := fun W => run_string_add_sum W _ _ (by omega)
        have y2 : (s1 ++ b3).size ≤ 1100 := by rw [ByteArray.size_append]; omega
        generalize s1 ++ b3 = s2 at q2 y2 HOO2
        have q3 : ∀ W : World, (Op.stringOp .add s2 ⟨#[10]⟩).run Tryz.prog W = .ok (.string (s2 ++ ⟨#[10]⟩)) W := fun W => run_string_add_sum W _ _ (by show s2.size + 1 ≤ _; omega)
        have y3 : (s2 ++ (⟨#[10]⟩ : ByteArray)).size ≤ 1200 := by rw [ByteArray.size_append]; show s2.size + 1 ≤ _; omega
        generalize s2 ++ (⟨#[10]⟩ : ByteArray) = s3 at q3 y3 HOO2
        have q4 : ∀ W : World, (Op.stringOp .add s3 EL).run Tryz.prog W = .ok (.string OUT) W := fun W => by rw [← HOO2.out]; exact run_string_add_sum W _ _ (by omega)
        clear hb hs2 y1 y2 y3 HOO2 HVM HSW HLI
        go_wp2_with (fail)
        (go_at_call 28; refine (HD1.out _).mono ?_; rintro e w5 ⟨rfl, hb5⟩)
        have HB5 := Lib.hid hb5
        clear hb5
        go_wp2_with (fail)
        (go_at_call 28; refine (HD2.out _).mono ?_; rintro e w6 ⟨rfl, hb6⟩)
        have HB6 := Lib.hid (bl_step HB5.out hb6)
        clear hb6
        go_wp2_with (fail)
        (go_at_call 12; refine (HE.out _ (HME.out _ HB6.out)).mono ?_; rintro e w7 ⟨rfl, hb7⟩)
        have HB7 := Lib.hid (bl_step HB6.out hb7)
        clear hb7
        go_wp2_with (fail)
        (go_at_call 28; refine (HD3.out _).mono ?_; rintro e w8 ⟨rfl, hb8⟩)
        have HB8 := Lib.hid (bl_step HB7.out hb8)
        clear hb8
        go_wp2_with (fail)
        (go_at_call 24; refine (HEL.out _).mono ?_; rintro e w9 ⟨rfl, hb9⟩)
        have HB9 := Lib.hid (bl_step HWR.out (bl_step HB8.out hb9))
        clear hb9
        go_wp2
        go_ret
        exact ⟨rfl, HB9.out⟩
theorem fnExecuteOrdo_walk2 (a : Option Addr) (n cap : Nat) (w : World) (h : CodeAt w a n) (hc : n ≤ cap) (hcap : cap ≤ maxLen) (hx : ∃ x : Int, w.cell? ⟨3, 0, none⟩ = some (.int .i64 x)) :
    Calls Tryz.prog 9 #[.slice a n cap] w fun e w' => e = .returned (.bool true) ∧ Below w.heap.size w w' := by
  obtain ⟨x, hm⟩ := hx
  exact fnExecuteOrdo_walk a n cap w h hc hcap x hm

noncomputable def fnExecuteOrdo_world (os : Os) : World := World.laidAll Tryz.prog os Rows.fnExecuteOrdoRow.laid
theorem fnExecuteOrdo_met (os : Os) : laidMet Tryz.prog Rows.fnExecuteOrdoRow.laid ((fnExecuteOrdo_world os).forCall (fun _ _ => 0) ⟨#[], #[.slice none 0 0], []⟩).memory :=
  laidMet_laidAll _ (by kernel_rfl) (by kernel_rfl)
theorem fnExecuteOrdo_reads (os : Os) {H : Type} (enc : TypeId × Value → H) : ∃ places, DataW.whole enc Tryz.prog ((fnExecuteOrdo_world os).forCall (fun _ _ => 0) ⟨#[], #[.slice none 0 0], []⟩).memory Tryz.f9.params.toList Rows.fnExecuteOrdoSpec.vars false (#[.slice none 0 0] : Array Value).toList 8 = some ([.nil], [Rows.laid_loop_example_neumes_impl_stepHeights, Rows.laid_loop_example_neumes_impl_syllableNames, Rows.laid_loop_example_neumes_impl_neumes, Rows.laid_loop_example_neumes_impl_modeTenors], places) :=
  ⟨((DataW.whole enc Tryz.prog ((fnExecuteOrdo_world os).forCall (fun _ _ => 0) ⟨#[], #[.slice none 0 0], []⟩).memory Tryz.f9.params.toList Rows.fnExecuteOrdoSpec.vars false (#[.slice none 0 0] : Array Value).toList 8).getD ([], [], [])).2.2, by kernel_rfl⟩
set_option maxRecDepth 100000 in
theorem fnExecuteOrdo_lifted (os : Os) (started : os.Started) (H : Type) (enc : TypeId × Value → H) (F : Stop.Interp) :
    ReturnsInHanded {} Tryz.checked os 9 .any ((OpenSpec.ofChange Rows.fnExecuteOrdoSpec).preRow enc Tryz.prog Tryz.f9 Rows.fnExecuteOrdoRow.domain false Rows.fnExecuteOrdoRow.laid) (((OpenSpec.ofChange Rows.fnExecuteOrdoSpec).at F).post enc Tryz.prog Tryz.f9 false true false false) := by
  obtain ⟨places, hx⟩ := fnExecuteOrdo_reads os enc
  refine returnsInHanded_of_row (C := Tryz.checked) (s := OpenSpec.ofChange Rows.fnExecuteOrdoSpec) own started (by kernel_rfl) Tryz.func9
    (witness_row_atRef (enc := enc) (C := Tryz.checked) false (fnExecuteOrdo_world os) #[.slice none 0 0] rfl (by kernel_rfl) (by kernel_rfl) (by kernel_rfl)
      (OpenSpec.preRow_of_cond 8 hx (by kernel_rfl) (fun k hk => by cases hk) (by kernel_rfl) (fnExecuteOrdo_met os))) ?_
  intro W base args ds gs before hval0 hW _ _ _ hL hSh _
  have hval : ∀ (j : Nat) t v, Tryz.f9.params[j]? = some t → args[j]? = some v → Value.okWide Tryz.prog W .any base t v := hval0
  have hW' := hW
  obtain ⟨p, q, hA0, hV, rfl, _, _⟩ := hW
  have hA : DataW.TrodAll enc Tryz.prog W 0 (fun _ => true) true Tryz.f9.params.toList args.toList ds p := hA0
  rw [Tryz.params9] at hA hval
  obtain ⟨v0, vs0, d0, ds0, p0, q0, hargs, rfl, rfl, h0, r0⟩ := trodAll_cons hA
  obtain ⟨rfl, rfl, rfl⟩ := trodAll_nil r0
  obtain rfl : args = #[v0] := by cases args; simp_all
  obtain ⟨g0, g1, g2, g3, rfl⟩ := vars4 hV
  obtain ⟨a0, n0, c0, rfl⟩ := okWide_slice Tryz.underlying22 (hval 0 22 v0 rfl rfl)
  have k0 := h0
  have lt0 : ∀ x ∈ p0, x.block < W.heap.size := by obtain ⟨m, hm⟩ := k0; exact DataW.trod_lt m _ _ _ hm
  have y0 := code_in h0
  clear hA0 hval0
  refine (fnExecuteOrdo_walk2 a0 n0 c0 W y0.1 y0.2.1 y0.2.2 (Tryz.laysM146.s1_3 W hSh)).mono fun e W' ⟨he, hb⟩ => ?_
  subst he
  exact ⟨_, rfl, _, _, _, [], _, _, hW', trodAll_cons_mk (shut_bool Tryz.underlying4 _) trodAll_mk0, trodAll_cons_mk (Below.trod laidOut (by kernel_rfl) (of_decide_eq_true (by kernel_rfl)) k0 hb lt0) (trodAll_mk0), hb.trodVars laidOut (by kernel_rfl) hV, hb.frame _, fun h => by cases h⟩


end Go.Proofs.YtaelkgpebhdlhaaGreatDoor
