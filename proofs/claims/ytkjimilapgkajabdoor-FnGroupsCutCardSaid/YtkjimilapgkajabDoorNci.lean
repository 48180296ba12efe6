/-
  What the name of a neume tells, in the program.
-/
import Derived.Test.YtkjimilapgkajabDoorNn
import Derived.Test.YtkjimilapgkajabDoorShelf
namespace Go.Proofs.YtkjimilapgkajabDoor
open Go.RowKit
set_option maxRecDepth 100000
set_option linter.unusedVariables false

theorem pre_yes (c : List UInt8) : Lib.hasPrefix (nGrp ++ c) nGrp = true ∧ Lib.trimPrefix (nGrp ++ c) nGrp = c := by
  have h : Lib.hasPrefix (nGrp ++ c) nGrp = true := by simp [Lib.hasPrefix, nGrp, List.isPrefixOf]
  refine ⟨h, ?_⟩
  unfold Lib.trimPrefix
  rw [if_pos h]
  rfl
theorem pre_cases (l : List UInt8) : (∃ c, l = nGrp ++ c) ∨ Lib.hasPrefix l nGrp = false := by
  cases h : Lib.hasPrefix l nGrp
  · exact .inr rfl
  · left
    have h2 : nGrp <+: l := by simpa [Lib.hasPrefix] using h
    obtain ⟨c, hc⟩ := h2
    exact ⟨c, hc.symm⟩
theorem tab_none {s : ByteArray} (h0 : s.data.toList ≠ [112, 117, 110, 99, 116, 117, 109]) (h1 : s.data.toList ≠ [112, 101, 115]) (h2 : s.data.toList ≠ [99, 108, 105, 118, 105, 115]) (h3 : s.data.toList ≠ [116, 111, 114, 99, 117, 108, 117, 115]) (h4 : s.data.toList ≠ [112, 111, 114, 114, 101, 99, 116, 117, 115]) (h5 : s.data.toList ≠ [115, 99, 97, 110, 100, 105, 99, 117, 115]) (h6 : s.data.toList ≠ [99, 108, 105, 109, 97, 99, 117, 115]) : ∀ l ∈ tabC, nnl l ≠ s.data.toList := by
  intro l hl
  simp only [tabC, List.mem_cons, List.not_mem_nil, or_false] at hl
  rcases hl with rfl | rfl | rfl | rfl | rfl | rfl | rfl
  · exact fun e => h0 e.symm
  · exact fun e => h1 e.symm
  · exact fun e => h2 e.symm
  · exact fun e => h3 e.symm
  · exact fun e => h4 e.symm
  · exact fun e => h5 e.symm
  · exact fun e => h6 e.symm

set_option maxRecDepth 100000 in
set_option maxHeartbeats 16000000 in
theorem neumeContour_any (s : ByteArray) (w : World) (ht : NeuTab w) :
    Calls Tryd.prog 33 #[.string s] w fun e w' => e = .returned (.tuple #[.string (ncn s).1, .bool (ncn s).2]) ∧ Below w.heap.size w w' := by
  have HT := Lib.hid ht
  have n0 : w.cell? ⟨1, 0, none⟩ = some (.string ⟨#[]⟩) := ht 0 (by omega)
  have n1 : w.cell? ⟨1, 1, none⟩ = some (.string ⟨#[112, 117, 110, 99, 116, 117, 109]⟩) := ht 1 (by omega)
  have n2 : w.cell? ⟨1, 2, none⟩ = some (.string ⟨#[117]⟩) := ht 2 (by omega)
  have n3 : w.cell? ⟨1, 3, none⟩ = some (.string ⟨#[112, 101, 115]⟩) := ht 3 (by omega)
  have n4 : w.cell? ⟨1, 4, none⟩ = some (.string ⟨#[100]⟩) := ht 4 (by omega)
  have n5 : w.cell? ⟨1, 5, none⟩ = some (.string ⟨#[99, 108, 105, 118, 105, 115]⟩) := ht 5 (by omega)
  have n6 : w.cell? ⟨1, 6, none⟩ = some (.string ⟨#[117, 100]⟩) := ht 6 (by omega)
  have n7 : w.cell? ⟨1, 7, none⟩ = some (.string ⟨#[116, 111, 114, 99, 117, 108, 117, 115]⟩) := ht 7 (by omega)
  have n8 : w.cell? ⟨1, 8, none⟩ = some (.string ⟨#[100, 117]⟩) := ht 8 (by omega)
  have n9 : w.cell? ⟨1, 9, none⟩ = some (.string ⟨#[112, 111, 114, 114, 101, 99, 116, 117, 115]⟩) := ht 9 (by omega)
  have n10 : w.cell? ⟨1, 10, none⟩ = some (.string ⟨#[117, 117]⟩) := ht 10 (by omega)
  have n11 : w.cell? ⟨1, 11, none⟩ = some (.string ⟨#[115, 99, 97, 110, 100, 105, 99, 117, 115]⟩) := ht 11 (by omega)
  have n12 : w.cell? ⟨1, 12, none⟩ = some (.string ⟨#[100, 100]⟩) := ht 12 (by omega)
  have n13 : w.cell? ⟨1, 13, none⟩ = some (.string ⟨#[99, 108, 105, 109, 97, 99, 117, 115]⟩) := ht 13 (by omega)
  clear ht
  have i0 := neu_0
  have i1 := neu_1
  have i2 := neu_2
  have i3 := neu_3
  have i4 := neu_4
  have i5 := neu_5
  have i6 := neu_6
  by_cases h0 : s.data.toList = [112, 117, 110, 99, 116, 117, 109]
  · have HE : Hid (ncn s = (⟨#[]⟩, true)) := ncn_hit (l := []) (by decide) (by rw [h0]; decide)
    have e0 : ([112, 117, 110, 99, 116, 117, 109] == s.toList) = true := by rw [sq_l]; simpa [eq_comm] using h0
    clear h0
    rw [HE.out]
    go_enter Tryd.func33, Tryd.ntmps33
    go_wp2
    go_rounds 1
    go_ret2
    exact ⟨rfl, by (repeat' (first | (with_reducible exact Below.refl _ _) | (with_reducible refine Below.alloc ?_ ?_ _) | (with_reducible refine Below.drew ?_) | (with_reducible refine Below.setCell ?_ ?_ _) | (with_reducible refine bl_step ?_ (by assumption)) | go_size))⟩
  by_cases h1 : s.data.toList = [112, 101, 115]
  · have HE : Hid (ncn s = (⟨#[117]⟩, true)) := ncn_hit (l := [117]) (by decide) (by rw [h1]; decide)
    have e0 : ([112, 117, 110, 99, 116, 117, 109] == s.toList) = false := by rw [sq_l]; simpa [eq_comm] using h0
    have e1 : ([112, 101, 115] == s.toList) = true := by rw [sq_l]; simpa [eq_comm] using h1
    clear h0 h1
    rw [HE.out]
    go_enter Tryd.func33, Tryd.ntmps33
    go_wp2
    go_rounds 2
    go_ret2
    exact ⟨rfl, by (repeat' (first | (with_reducible exact Below.refl _ _) | (with_reducible refine Below.alloc ?_ ?_ _) | (with_reducible refine Below.drew ?_) | (with_reducible refine Below.setCell ?_ ?_ _) | (with_reducible refine bl_step ?_ (by assumption)) | go_size))⟩
  by_cases h2 : s.data.toList = [99, 108, 105, 118, 105, 115]
  · have HE : Hid (ncn s = (⟨#[100]⟩, true)) := ncn_hit (l := [100]) (by decide) (by rw [h2]; decide)
    have e0 : ([112, 117, 110, 99, 116, 117, 109] == s.toList) = false := by rw [sq_l]; simpa [eq_comm] using h0
    have e1 : ([112, 101, 115] == s.toList) = false := by rw [sq_l]; simpa [eq_comm] using h1
    have e2 : ([99, 108, 105, 118, 105, 115] == s.toList) = true := by rw [sq_l]; simpa [eq_comm] using h2
    clear h0 h1 h2
    rw [HE.out]
    go_enter Tryd.func33, Tryd.ntmps33
    go_wp2
    go_rounds 3
    go_ret2
    exact ⟨rfl, by (repeat' (first | (with_reducible exact Below.refl _ _) | (with_reducible refine Below.alloc ?_ ?_ _) | (with_reducible refine Below.drew ?_) | (with_reducible refine Below.setCell ?_ ?_ _) | (with_reducible refine bl_step ?_ (by assumption)) | go_size))⟩
  by_cases h3 : s.data.toList = [116, 111, 114, 99, 117, 108, 117, 115]
  · have HE : Hid (ncn s = (⟨#[117, 100]⟩, true)) := ncn_hit (l := [117, 100]) (by decide) (by rw [h3]; decide)
    have e0 : ([112, 117, 110, 99, 116, 117, 109] == s.toList) = false := by rw [sq_l]; simpa [eq_comm] using h0
    have e1 : ([112, 101, 115] == s.toList) = false := by rw [sq_l]; simpa [eq_comm] using h1
    have e2 : ([99, 108, 105, 118, 105, 115] == s.toList) = false := by rw [sq_l]; simpa [eq_comm] using h2
    have e3 : ([116, 111, 114, 99, 117, 108, 117, 115] == s.toList) = true := by rw [sq_l]; simpa [eq_comm] using h3
    clear h0 h1 h2 h3
    rw [HE.out]
    go_enter Tryd.func33, Tryd.ntmps33
    go_wp2
    go_rounds 4
    go_ret2
    exact ⟨rfl, by (repeat' (first | (with_reducible exact Below.refl _ _) | (with_reducible refine Below.alloc ?_ ?_ _) | (with_reducible refine Below.drew ?_) | (with_reducible refine Below.setCell ?_ ?_ _) | (with_reducible refine bl_step ?_ (by assumption)) | go_size))⟩
  by_cases h4 : s.data.toList = [112, 111, 114, 114, 101, 99, 116, 117, 115]
  · have HE : Hid (ncn s = (⟨#[100, 117]⟩, true)) := ncn_hit (l := [100, 117]) (by decide) (by rw [h4]; decide)
    have e0 : ([112, 117, 110, 99, 116, 117, 109] == s.toList) = false := by rw [sq_l]; simpa [eq_comm] using h0
    have e1 : ([112, 101, 115] == s.toList) = false := by rw [sq_l]; simpa [eq_comm] using h1
    have e2 : ([99, 108, 105, 118, 105, 115] == s.toList) = false := by rw [sq_l]; simpa [eq_comm] using h2
    have e3 : ([116, 111, 114, 99, 117, 108, 117, 115] == s.toList) = false := by rw [sq_l]; simpa [eq_comm] using h3
    have e4 : ([112, 111, 114, 114, 101, 99, 116, 117, 115] == s.toList) = true := by rw [sq_l]; simpa [eq_comm] using h4
    clear h0 h1 h2 h3 h4
    rw [HE.out]
    go_enter Tryd.func33, Tryd.ntmps33
    go_wp2
    go_rounds 5
    go_ret2
    exact ⟨rfl, by (repeat' (first | (with_reducible exact Below.refl _ _) | (with_reducible refine Below.alloc ?_ ?_ _) | (with_reducible refine Below.drew ?_) | (with_reducible refine Below.setCell ?_ ?_ _) | (with_reducible refine bl_step ?_ (by assumption)) | go_size))⟩
  by_cases h5 : s.data.toList = [115, 99, 97, 110, 100, 105, 99, 117, 115]
  · have HE : Hid (ncn s = (⟨#[117, 117]⟩, true)) := ncn_hit (l := [117, 117]) (by decide) (by rw [h5]; decide)
    have e0 : ([112, 117, 110, 99, 116, 117, 109] == s.toList) = false := by rw [sq_l]; simpa [eq_comm] using h0
    have e1 : ([112, 101, 115] == s.toList) = false := by rw [sq_l]; simpa [eq_comm] using h1
    have e2 : ([99, 108, 105, 118, 105, 115] == s.toList) = false := by rw [sq_l]; simpa [eq_comm] using h2
    have e3 : ([116, 111, 114, 99, 117, 108, 117, 115] == s.toList) = false := by rw [sq_l]; simpa [eq_comm] using h3
    have e4 : ([112, 111, 114, 114, 101, 99, 116, 117, 115] == s.toList) = false := by rw [sq_l]; simpa [eq_comm] using h4
    have e5 : ([115, 99, 97, 110, 100, 105, 99, 117, 115] == s.toList) = true := by rw [sq_l]; simpa [eq_comm] using h5
    clear h0 h1 h2 h3 h4 h5
    rw [HE.out]
    go_enter Tryd.func33, Tryd.ntmps33
    go_wp2
    go_rounds 6
    go_ret2
    exact ⟨rfl, by (repeat' (first | (with_reducible exact Below.refl _ _) | (with_reducible refine Below.alloc ?_ ?_ _) | (with_reducible refine Below.drew ?_) | (with_reducible refine Below.setCell ?_ ?_ _) | (with_reducible refine bl_step ?_ (by assumption)) | go_size))⟩
  by_cases h6 : s.data.toList = [99, 108, 105, 109, 97, 99, 117, 115]
  · have HE : Hid (ncn s = (⟨#[100, 100]⟩, true)) := ncn_hit (l := [100, 100]) (by decide) (by rw [h6]; decide)
    have e0 : ([112, 117, 110, 99, 116, 117, 109] == s.toList) = false := by rw [sq_l]; simpa [eq_comm] using h0
    have e1 : ([112, 101, 115] == s.toList) = false := by rw [sq_l]; simpa [eq_comm] using h1
    have e2 : ([99, 108, 105, 118, 105, 115] == s.toList) = false := by rw [sq_l]; simpa [eq_comm] using h2
    have e3 : ([116, 111, 114, 99, 117, 108, 117, 115] == s.toList) = false := by rw [sq_l]; simpa [eq_comm] using h3
    have e4 : ([112, 111, 114, 114, 101, 99, 116, 117, 115] == s.toList) = false := by rw [sq_l]; simpa [eq_comm] using h4
    have e5 : ([115, 99, 97, 110, 100, 105, 99, 117, 115] == s.toList) = false := by rw [sq_l]; simpa [eq_comm] using h5
    have e6 : ([99, 108, 105, 109, 97, 99, 117, 115] == s.toList) = true := by rw [sq_l]; simpa [eq_comm] using h6
    clear h0 h1 h2 h3 h4 h5 h6
    rw [HE.out]
    go_enter Tryd.func33, Tryd.ntmps33
    go_wp2
    go_rounds 7
    go_ret2
    exact ⟨rfl, by (repeat' (first | (with_reducible exact Below.refl _ _) | (with_reducible refine Below.alloc ?_ ?_ _) | (with_reducible refine Below.drew ?_) | (with_reducible refine Below.setCell ?_ ?_ _) | (with_reducible refine bl_step ?_ (by assumption)) | go_size))⟩
  have HX := Lib.hid (tab_none h0 h1 h2 h3 h4 h5 h6)
  have e0 : ([112, 117, 110, 99, 116, 117, 109] == s.toList) = false := by rw [sq_l]; simpa [eq_comm] using h0
  have e1 : ([112, 101, 115] == s.toList) = false := by rw [sq_l]; simpa [eq_comm] using h1
  have e2 : ([99, 108, 105, 118, 105, 115] == s.toList) = false := by rw [sq_l]; simpa [eq_comm] using h2
  have e3 : ([116, 111, 114, 99, 117, 108, 117, 115] == s.toList) = false := by rw [sq_l]; simpa [eq_comm] using h3
  have e4 : ([112, 111, 114, 114, 101, 99, 116, 117, 115] == s.toList) = false := by rw [sq_l]; simpa [eq_comm] using h4
  have e5 : ([115, 99, 97, 110, 100, 105, 99, 117, 115] == s.toList) = false := by rw [sq_l]; simpa [eq_comm] using h5
  have e6 : ([99, 108, 105, 109, 97, 99, 117, 115] == s.toList) = false := by rw [sq_l]; simpa [eq_comm] using h6
  clear h0 h1 h2 h3 h4 h5 h6
  rcases pre_cases s.data.toList with ⟨c, hc⟩ | hp
  · obtain ⟨p1, p2⟩ := pre_yes c
    have KP : ∀ W : World, Calls Tryd.prog 82 #[.string s, .string ⟨#[103, 114, 111, 117, 112, 45]⟩] W fun e w' => e = .returned (.tuple #[.string ⟨c.toArray⟩, .bool true]) ∧ W = w' := fun W => (Tryd.strings_CutPrefix s ⟨#[103, 114, 111, 117, 112, 45]⟩ W).mono fun e w' ⟨a, b⟩ => by
      have q1 : Lib.trimPrefix s.data.toList (⟨#[103, 114, 111, 117, 112, 45]⟩ : ByteArray).data.toList = c := by rw [hc]; exact p2
      have q2 : Lib.hasPrefix s.data.toList (⟨#[103, 114, 111, 117, 112, 45]⟩ : ByteArray).data.toList = true := by rw [hc]; exact p1
      rw [q1, q2] at a
      exact ⟨a, b.symm⟩
    have HK := Lib.hid KP
    have KN := Lib.hid (fun W h => neumeName_any ⟨c.toArray⟩ W h)
    have hcc : s.data.toList = nGrp ++ (⟨c.toArray⟩ : ByteArray).data.toList := hc
    by_cases hn : (nnm ⟨c.toArray⟩).data.toList = s.data.toList
    · have HE := Lib.hid (ncn_pre hcc hn)
      have g1 : ((nnm ⟨c.toArray⟩).toList == s.toList) = true := by rw [ByteArray.toList_eq, ByteArray.toList_eq, hn]; simp
      clear hn hcc hc p1 p2 KP
      generalize (⟨c.toArray⟩ : ByteArray) = cb at HK KN HE g1
      generalize nnm cb = nb at KN g1
      rw [HE.out]
      go_enter Tryd.func33, Tryd.ntmps33
      go_wp2
      refine wp_loop_rounds 8 ?_
      repeat any_goals (rw [rounds_succ]; go_wp2_with (fail))
      (go_at_call 82; refine (HK.out _).mono ?_; rintro e wx ⟨rfl, rfl⟩)
      go_wp2_with (fail)
      (go_at_call 36; refine (KN.out _ (HT.out.below ?_)).mono ?_; (focus ((repeat' (first | (with_reducible exact Below.refl _ _) | (with_reducible refine Below.alloc ?_ ?_ _) | (with_reducible refine Below.drew ?_) | (with_reducible refine Below.setCell ?_ ?_ _) | (with_reducible refine bl_step ?_ (by assumption)) | go_size)); done)); rintro e w1 ⟨rfl, hb1⟩)
      go_wp2
      go_ret2
      exact ⟨rfl, bl_step (by (repeat' (first | (with_reducible exact Below.refl _ _) | (with_reducible refine Below.alloc ?_ ?_ _) | (with_reducible refine Below.drew ?_) | (with_reducible refine Below.setCell ?_ ?_ _) | (with_reducible refine bl_step ?_ (by assumption)) | go_size))) hb1⟩
    · have HE := Lib.hid (ncn_pre_no hcc hn HX.out)
      have g1 : ((nnm ⟨c.toArray⟩).toList == s.toList) = false := by rw [ByteArray.toList_eq, ByteArray.toList_eq, beq_eq_false_iff_ne]; exact hn
      clear hn hcc hc p1 p2 KP
      generalize (⟨c.toArray⟩ : ByteArray) = cb at HK KN g1
      generalize nnm cb = nb at KN g1
      rw [HE.out]
      go_enter Tryd.func33, Tryd.ntmps33
      go_wp2
      refine wp_loop_rounds 8 ?_
      repeat any_goals (rw [rounds_succ]; go_wp2_with (fail))
      (go_at_call 82; refine (HK.out _).mono ?_; rintro e wx ⟨rfl, rfl⟩)
      go_wp2_with (fail)
      (go_at_call 36; refine (KN.out _ (HT.out.below ?_)).mono ?_; (focus ((repeat' (first | (with_reducible exact Below.refl _ _) | (with_reducible refine Below.alloc ?_ ?_ _) | (with_reducible refine Below.drew ?_) | (with_reducible refine Below.setCell ?_ ?_ _) | (with_reducible refine bl_step ?_ (by assumption)) | go_size)); done)); rintro e w1 ⟨rfl, hb1⟩)
      go_wp2
      go_ret2
      exact ⟨rfl, bl_step (by (repeat' (first | (with_reducible exact Below.refl _ _) | (with_reducible refine Below.alloc ?_ ?_ _) | (with_reducible refine Below.drew ?_) | (with_reducible refine Below.setCell ?_ ?_ _) | (with_reducible refine bl_step ?_ (by assumption)) | go_size))) hb1⟩
  · have HE : Hid (ncn s = (⟨#[]⟩, false)) := ncn_none (fun l e => by
      have h := (pre_yes l).1
      rw [e, hp] at h
      cases h) HX.out
    have KP : ∀ W : World, Calls Tryd.prog 82 #[.string s, .string ⟨#[103, 114, 111, 117, 112, 45]⟩] W fun e w' => (∃ x, e = .returned (.tuple #[.string x, .bool false])) ∧ W = w' := fun W => (Tryd.strings_CutPrefix s ⟨#[103, 114, 111, 117, 112, 45]⟩ W).mono fun e w' ⟨a, b⟩ => by
      have q2 : Lib.hasPrefix s.data.toList (⟨#[103, 114, 111, 117, 112, 45]⟩ : ByteArray).data.toList = false := hp
      rw [q2] at a
      exact ⟨⟨_, a⟩, b.symm⟩
    have HK := Lib.hid KP
    clear KP hp
    rw [HE.out]
    go_enter Tryd.func33, Tryd.ntmps33
    go_wp2
    refine wp_loop_rounds 8 ?_
    repeat any_goals (rw [rounds_succ]; go_wp2_with (fail))
    (go_at_call 82; refine (HK.out _).mono ?_; rintro e wx ⟨⟨x, rfl⟩, rfl⟩)
    go_wp2
    go_ret2
    exact ⟨rfl, by (repeat' (first | (with_reducible exact Below.refl _ _) | (with_reducible refine Below.alloc ?_ ?_ _) | (with_reducible refine Below.drew ?_) | (with_reducible refine Below.setCell ?_ ?_ _) | (with_reducible refine bl_step ?_ (by assumption)) | go_size))⟩
end Go.Proofs.YtkjimilapgkajabDoor
