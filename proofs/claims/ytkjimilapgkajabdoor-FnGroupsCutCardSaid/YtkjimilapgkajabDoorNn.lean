/-
  The names of neumes, in both programs.
-/
import Derived.Test.YtkjimilapgkajabDoorNnm
import Derived.Test.YtkjimilapgkajabDoorCv2
import Derived.Test.YtkjimilapgkajabDoorRows
import Derived.Lib.LaidU8
import Derived.OpenShut
import Derived.Laws.Concat
import Derived.Laws.IdiomStrings
import Derived.Laws.Rows
import Derived.OwnWalk
namespace Go.Proofs.YtkjimilapgkajabDoor
open Go.RowKit
set_option maxRecDepth 100000
set_option linter.unusedVariables false

/-- the table of neumes -/
def neuTbl : List Value := [.string ⟨#[]⟩, .string ⟨#[112, 117, 110, 99, 116, 117, 109]⟩, .string ⟨#[117]⟩, .string ⟨#[112, 101, 115]⟩, .string ⟨#[100]⟩, .string ⟨#[99, 108, 105, 118, 105, 115]⟩, .string ⟨#[117, 100]⟩, .string ⟨#[116, 111, 114, 99, 117, 108, 117, 115]⟩, .string ⟨#[100, 117]⟩, .string ⟨#[112, 111, 114, 114, 101, 99, 116, 117, 115]⟩, .string ⟨#[117, 117]⟩, .string ⟨#[115, 99, 97, 110, 100, 105, 99, 117, 115]⟩, .string ⟨#[100, 100]⟩, .string ⟨#[99, 108, 105, 109, 97, 99, 117, 115]⟩]
def NeuTab (w : World) : Prop := ∀ i, i < 14 → w.cell? ⟨1, i, none⟩ = some (neuTbl.getD i undef)
theorem NeuTab.below {w w' : World} (h : NeuTab w) (hb : Below w.heap.size w w') : NeuTab w' := fun i hi =>
  (hb.cell (p := ⟨1, i, none⟩) (World.block_lt_of_cell? w _ (h i hi))).trans (h i hi)

theorem sq_l (s : ByteArray) (l : List UInt8) : (l == s.toList) = decide (l = s.data.toList) := by
  rw [ByteArray.toList_eq, Bool.eq_iff_iff]; simp
theorem sq_r (s : ByteArray) (l : List UInt8) : (s.toList == l) = decide (s.data.toList = l) := by
  rw [ByteArray.toList_eq, Bool.eq_iff_iff]; simp
theorem em_t {s : ByteArray} (h : s.data.toList = []) : s.toList.isEmpty = true := by rw [ByteArray.toList_eq, h]; rfl
theorem em_f {s : ByteArray} (h : s.data.toList ≠ []) : s.toList.isEmpty = false := by rw [ByteArray.toList_eq]; simpa using h
theorem grp_add (s : ByteArray) (hs : s.size ≤ 1000) (W : World) : (Op.stringOp .add ⟨#[103, 114, 111, 117, 112, 45]⟩ s).run Tryd.prog W = .ok (.string ⟨(nGrp ++ s.data.toList).toArray⟩) W := by
  have e : (⟨#[103, 114, 111, 117, 112, 45]⟩ : ByteArray) ++ s = ⟨(nGrp ++ s.data.toList).toArray⟩ := by
    obtain ⟨⟨d⟩⟩ := s
    rw [ByteArray.mk_append_mk]
    simp [nGrp]
  rw [← e]
  exact run_string_add_sum W _ _ (by show 6 + s.size ≤ 9223372036854775807; omega)

set_option maxHeartbeats 4000000 in
theorem sNeumeName_any (s : ByteArray) (hs : s.size ≤ 4611686018427387904) (w : World) :
    Calls Tryd.prog 80 #[.string s] w fun e w' => e = .returned (.string (nnm s)) ∧ Below w.heap.size w w' := by
  by_cases hc : cv s = false
  · rw [nnm_no (isn_no1 hc)]
    go_enter Tryd.func80, Tryd.ntmps80
    go_wp2_with (fail)
    (go_at_call 117; refine (sContourValid_any s hs _).mono ?_; rintro e w1 ⟨rfl, hb1⟩)
    go_wp2
    go_ret
    exact ⟨rfl, hb1⟩
  rw [Bool.not_eq_false] at hc
  have KC := Lib.hid (sContourValid_any s hs)
  rw [hc] at KC
  by_cases hl : 3 < s.size
  · rw [nnm_no (isn_no2 hl)]
    have g0 : (4 : Int) ≤ (s.size : Int) := by omega
    clear hc
    go_enter Tryd.func80, Tryd.ntmps80
    go_wp2_with (fail)
    (go_at_call 117; refine (KC.out _).mono ?_; rintro e w1 ⟨rfl, hb1⟩)
    go_wp2
    go_ret
    exact ⟨rfl, hb1⟩
  have g0 : decide ((4 : Int) ≤ (s.size : Int)) = false := by simp; omega
  have HN := Lib.hid (nnm_yes (isn_yes hc (by omega)))
  have hadd := grp_add s (by omega)
  clear hc hs hl
  by_cases h0 : s.data.toList = []
  · have HE : Hid (nnm s = ⟨#[112, 117, 110, 99, 116, 117, 109]⟩) := by show _ = _; rw [HN.out]; simp [nnl, h0, nPun]
    have e0 : s.toList.isEmpty = true := em_t h0
    have e0' : (s.toList == []) = true := by rw [sq_r]; simpa using h0
    have e0'' : (([] : List UInt8) == s.toList) = true := by rw [sq_l]; simpa using h0
    clear h0
    rw [HE.out]
    go_enter Tryd.func80, Tryd.ntmps80
    go_wp2_with (fail)
    (go_at_call 117; refine (KC.out _).mono ?_; rintro e w1 ⟨rfl, hb1⟩)
    go_wp2
    go_ret
    exact ⟨rfl, hb1⟩
  by_cases h1 : s.data.toList = [117]
  · have HE : Hid (nnm s = ⟨#[112, 101, 115]⟩) := by show _ = _; rw [HN.out]; simp [nnl, h1, nPes]
    have e0 : s.toList.isEmpty = false := em_f h0
    have e0' : (s.toList == []) = false := by rw [sq_r]; simpa using h0
    have e0'' : (([] : List UInt8) == s.toList) = false := by rw [sq_l]; simpa [eq_comm] using h0
    have e1 : (s.toList == [117]) = true := by rw [sq_r]; simpa using h1
    have e1' : ([117] == s.toList) = true := by rw [sq_l]; simpa [eq_comm] using h1
    clear h0 h1
    rw [HE.out]
    go_enter Tryd.func80, Tryd.ntmps80
    go_wp2_with (fail)
    (go_at_call 117; refine (KC.out _).mono ?_; rintro e w1 ⟨rfl, hb1⟩)
    go_wp2
    go_ret
    exact ⟨rfl, hb1⟩
  by_cases h2 : s.data.toList = [100]
  · have HE : Hid (nnm s = ⟨#[99, 108, 105, 118, 105, 115]⟩) := by show _ = _; rw [HN.out]; simp [nnl, h2, nCli]
    have e0 : s.toList.isEmpty = false := em_f h0
    have e0' : (s.toList == []) = false := by rw [sq_r]; simpa using h0
    have e0'' : (([] : List UInt8) == s.toList) = false := by rw [sq_l]; simpa [eq_comm] using h0
    have e1 : (s.toList == [117]) = false := by rw [sq_r]; simpa using h1
    have e1' : ([117] == s.toList) = false := by rw [sq_l]; simpa [eq_comm] using h1
    have e2 : (s.toList == [100]) = true := by rw [sq_r]; simpa using h2
    have e2' : ([100] == s.toList) = true := by rw [sq_l]; simpa [eq_comm] using h2
    clear h0 h1 h2
    rw [HE.out]
    go_enter Tryd.func80, Tryd.ntmps80
    go_wp2_with (fail)
    (go_at_call 117; refine (KC.out _).mono ?_; rintro e w1 ⟨rfl, hb1⟩)
    go_wp2
    go_ret
    exact ⟨rfl, hb1⟩
  by_cases h3 : s.data.toList = [117, 100]
  · have HE : Hid (nnm s = ⟨#[116, 111, 114, 99, 117, 108, 117, 115]⟩) := by show _ = _; rw [HN.out]; simp [nnl, h3, nTor]
    have e0 : s.toList.isEmpty = false := em_f h0
    have e0' : (s.toList == []) = false := by rw [sq_r]; simpa using h0
    have e0'' : (([] : List UInt8) == s.toList) = false := by rw [sq_l]; simpa [eq_comm] using h0
    have e1 : (s.toList == [117]) = false := by rw [sq_r]; simpa using h1
    have e1' : ([117] == s.toList) = false := by rw [sq_l]; simpa [eq_comm] using h1
    have e2 : (s.toList == [100]) = false := by rw [sq_r]; simpa using h2
    have e2' : ([100] == s.toList) = false := by rw [sq_l]; simpa [eq_comm] using h2
    have e3 : (s.toList == [117, 100]) = true := by rw [sq_r]; simpa using h3
    have e3' : ([117, 100] == s.toList) = true := by rw [sq_l]; simpa [eq_comm] using h3
    clear h0 h1 h2 h3
    rw [HE.out]
    go_enter Tryd.func80, Tryd.ntmps80
    go_wp2_with (fail)
    (go_at_call 117; refine (KC.out _).mono ?_; rintro e w1 ⟨rfl, hb1⟩)
    go_wp2
    go_ret
    exact ⟨rfl, hb1⟩
  by_cases h4 : s.data.toList = [100, 117]
  · have HE : Hid (nnm s = ⟨#[112, 111, 114, 114, 101, 99, 116, 117, 115]⟩) := by show _ = _; rw [HN.out]; simp [nnl, h4, nPor]
    have e0 : s.toList.isEmpty = false := em_f h0
    have e0' : (s.toList == []) = false := by rw [sq_r]; simpa using h0
    have e0'' : (([] : List UInt8) == s.toList) = false := by rw [sq_l]; simpa [eq_comm] using h0
    have e1 : (s.toList == [117]) = false := by rw [sq_r]; simpa using h1
    have e1' : ([117] == s.toList) = false := by rw [sq_l]; simpa [eq_comm] using h1
    have e2 : (s.toList == [100]) = false := by rw [sq_r]; simpa using h2
    have e2' : ([100] == s.toList) = false := by rw [sq_l]; simpa [eq_comm] using h2
    have e3 : (s.toList == [117, 100]) = false := by rw [sq_r]; simpa using h3
    have e3' : ([117, 100] == s.toList) = false := by rw [sq_l]; simpa [eq_comm] using h3
    have e4 : (s.toList == [100, 117]) = true := by rw [sq_r]; simpa using h4
    have e4' : ([100, 117] == s.toList) = true := by rw [sq_l]; simpa [eq_comm] using h4
    clear h0 h1 h2 h3 h4
    rw [HE.out]
    go_enter Tryd.func80, Tryd.ntmps80
    go_wp2_with (fail)
    (go_at_call 117; refine (KC.out _).mono ?_; rintro e w1 ⟨rfl, hb1⟩)
    go_wp2
    go_ret
    exact ⟨rfl, hb1⟩
  by_cases h5 : s.data.toList = [117, 117]
  · have HE : Hid (nnm s = ⟨#[115, 99, 97, 110, 100, 105, 99, 117, 115]⟩) := by show _ = _; rw [HN.out]; simp [nnl, h5, nSca]
    have e0 : s.toList.isEmpty = false := em_f h0
    have e0' : (s.toList == []) = false := by rw [sq_r]; simpa using h0
    have e0'' : (([] : List UInt8) == s.toList) = false := by rw [sq_l]; simpa [eq_comm] using h0
    have e1 : (s.toList == [117]) = false := by rw [sq_r]; simpa using h1
    have e1' : ([117] == s.toList) = false := by rw [sq_l]; simpa [eq_comm] using h1
    have e2 : (s.toList == [100]) = false := by rw [sq_r]; simpa using h2
    have e2' : ([100] == s.toList) = false := by rw [sq_l]; simpa [eq_comm] using h2
    have e3 : (s.toList == [117, 100]) = false := by rw [sq_r]; simpa using h3
    have e3' : ([117, 100] == s.toList) = false := by rw [sq_l]; simpa [eq_comm] using h3
    have e4 : (s.toList == [100, 117]) = false := by rw [sq_r]; simpa using h4
    have e4' : ([100, 117] == s.toList) = false := by rw [sq_l]; simpa [eq_comm] using h4
    have e5 : (s.toList == [117, 117]) = true := by rw [sq_r]; simpa using h5
    have e5' : ([117, 117] == s.toList) = true := by rw [sq_l]; simpa [eq_comm] using h5
    clear h0 h1 h2 h3 h4 h5
    rw [HE.out]
    go_enter Tryd.func80, Tryd.ntmps80
    go_wp2_with (fail)
    (go_at_call 117; refine (KC.out _).mono ?_; rintro e w1 ⟨rfl, hb1⟩)
    go_wp2
    go_ret
    exact ⟨rfl, hb1⟩
  by_cases h6 : s.data.toList = [100, 100]
  · have HE : Hid (nnm s = ⟨#[99, 108, 105, 109, 97, 99, 117, 115]⟩) := by show _ = _; rw [HN.out]; simp [nnl, h6, nClm]
    have e0 : s.toList.isEmpty = false := em_f h0
    have e0' : (s.toList == []) = false := by rw [sq_r]; simpa using h0
    have e0'' : (([] : List UInt8) == s.toList) = false := by rw [sq_l]; simpa [eq_comm] using h0
    have e1 : (s.toList == [117]) = false := by rw [sq_r]; simpa using h1
    have e1' : ([117] == s.toList) = false := by rw [sq_l]; simpa [eq_comm] using h1
    have e2 : (s.toList == [100]) = false := by rw [sq_r]; simpa using h2
    have e2' : ([100] == s.toList) = false := by rw [sq_l]; simpa [eq_comm] using h2
    have e3 : (s.toList == [117, 100]) = false := by rw [sq_r]; simpa using h3
    have e3' : ([117, 100] == s.toList) = false := by rw [sq_l]; simpa [eq_comm] using h3
    have e4 : (s.toList == [100, 117]) = false := by rw [sq_r]; simpa using h4
    have e4' : ([100, 117] == s.toList) = false := by rw [sq_l]; simpa [eq_comm] using h4
    have e5 : (s.toList == [117, 117]) = false := by rw [sq_r]; simpa using h5
    have e5' : ([117, 117] == s.toList) = false := by rw [sq_l]; simpa [eq_comm] using h5
    have e6 : (s.toList == [100, 100]) = true := by rw [sq_r]; simpa using h6
    have e6' : ([100, 100] == s.toList) = true := by rw [sq_l]; simpa [eq_comm] using h6
    clear h0 h1 h2 h3 h4 h5 h6
    rw [HE.out]
    go_enter Tryd.func80, Tryd.ntmps80
    go_wp2_with (fail)
    (go_at_call 117; refine (KC.out _).mono ?_; rintro e w1 ⟨rfl, hb1⟩)
    go_wp2
    go_ret
    exact ⟨rfl, hb1⟩
  have HE : Hid (nnm s = ⟨(nGrp ++ s.data.toList).toArray⟩) := by show _ = _; rw [HN.out]; simp [nnl, h0, h1, h2, h3, h4, h5, h6]
  have e0 : s.toList.isEmpty = false := em_f h0
  have e0' : (s.toList == []) = false := by rw [sq_r]; simpa using h0
  have e0'' : (([] : List UInt8) == s.toList) = false := by rw [sq_l]; simpa [eq_comm] using h0
  have e1 : (s.toList == [117]) = false := by rw [sq_r]; simpa using h1
  have e1' : ([117] == s.toList) = false := by rw [sq_l]; simpa [eq_comm] using h1
  have e2 : (s.toList == [100]) = false := by rw [sq_r]; simpa using h2
  have e2' : ([100] == s.toList) = false := by rw [sq_l]; simpa [eq_comm] using h2
  have e3 : (s.toList == [117, 100]) = false := by rw [sq_r]; simpa using h3
  have e3' : ([117, 100] == s.toList) = false := by rw [sq_l]; simpa [eq_comm] using h3
  have e4 : (s.toList == [100, 117]) = false := by rw [sq_r]; simpa using h4
  have e4' : ([100, 117] == s.toList) = false := by rw [sq_l]; simpa [eq_comm] using h4
  have e5 : (s.toList == [117, 117]) = false := by rw [sq_r]; simpa using h5
  have e5' : ([117, 117] == s.toList) = false := by rw [sq_l]; simpa [eq_comm] using h5
  have e6 : (s.toList == [100, 100]) = false := by rw [sq_r]; simpa using h6
  have e6' : ([100, 100] == s.toList) = false := by rw [sq_l]; simpa [eq_comm] using h6
  clear h0 h1 h2 h3 h4 h5 h6
  rw [HE.out]
  generalize (⟨(nGrp ++ s.data.toList).toArray⟩ : ByteArray) = o at hadd HE ⊢
  go_enter Tryd.func80, Tryd.ntmps80
  go_wp2_with (fail)
  (go_at_call 117; refine (KC.out _).mono ?_; rintro e w1 ⟨rfl, hb1⟩)
  go_wp2
  go_ret
  exact ⟨rfl, hb1⟩

theorem neu_0 (W : World) : (Instr.index 116 (.agg #[.string ⟨#[]⟩, .string ⟨#[112, 117, 110, 99, 116, 117, 109]⟩, .string ⟨#[117]⟩, .string ⟨#[112, 101, 115]⟩, .string ⟨#[100]⟩, .string ⟨#[99, 108, 105, 118, 105, 115]⟩, .string ⟨#[117, 100]⟩, .string ⟨#[116, 111, 114, 99, 117, 108, 117, 115]⟩, .string ⟨#[100, 117]⟩, .string ⟨#[112, 111, 114, 114, 101, 99, 116, 117, 115]⟩, .string ⟨#[117, 117]⟩, .string ⟨#[115, 99, 97, 110, 100, 105, 99, 117, 115]⟩, .string ⟨#[100, 100]⟩, .string ⟨#[99, 108, 105, 109, 97, 99, 117, 115]⟩]) (.int .i64 0)).run Tryd.prog W = .ok (.agg #[.string ⟨#[]⟩, .string ⟨#[112, 117, 110, 99, 116, 117, 109]⟩]) W := by kernel_rfl
theorem neu_1 (W : World) : (Instr.index 116 (.agg #[.string ⟨#[]⟩, .string ⟨#[112, 117, 110, 99, 116, 117, 109]⟩, .string ⟨#[117]⟩, .string ⟨#[112, 101, 115]⟩, .string ⟨#[100]⟩, .string ⟨#[99, 108, 105, 118, 105, 115]⟩, .string ⟨#[117, 100]⟩, .string ⟨#[116, 111, 114, 99, 117, 108, 117, 115]⟩, .string ⟨#[100, 117]⟩, .string ⟨#[112, 111, 114, 114, 101, 99, 116, 117, 115]⟩, .string ⟨#[117, 117]⟩, .string ⟨#[115, 99, 97, 110, 100, 105, 99, 117, 115]⟩, .string ⟨#[100, 100]⟩, .string ⟨#[99, 108, 105, 109, 97, 99, 117, 115]⟩]) (.int .i64 1)).run Tryd.prog W = .ok (.agg #[.string ⟨#[117]⟩, .string ⟨#[112, 101, 115]⟩]) W := by kernel_rfl
theorem neu_2 (W : World) : (Instr.index 116 (.agg #[.string ⟨#[]⟩, .string ⟨#[112, 117, 110, 99, 116, 117, 109]⟩, .string ⟨#[117]⟩, .string ⟨#[112, 101, 115]⟩, .string ⟨#[100]⟩, .string ⟨#[99, 108, 105, 118, 105, 115]⟩, .string ⟨#[117, 100]⟩, .string ⟨#[116, 111, 114, 99, 117, 108, 117, 115]⟩, .string ⟨#[100, 117]⟩, .string ⟨#[112, 111, 114, 114, 101, 99, 116, 117, 115]⟩, .string ⟨#[117, 117]⟩, .string ⟨#[115, 99, 97, 110, 100, 105, 99, 117, 115]⟩, .string ⟨#[100, 100]⟩, .string ⟨#[99, 108, 105, 109, 97, 99, 117, 115]⟩]) (.int .i64 2)).run Tryd.prog W = .ok (.agg #[.string ⟨#[100]⟩, .string ⟨#[99, 108, 105, 118, 105, 115]⟩]) W := by kernel_rfl
theorem neu_3 (W : World) : (Instr.index 116 (.agg #[.string ⟨#[]⟩, .string ⟨#[112, 117, 110, 99, 116, 117, 109]⟩, .string ⟨#[117]⟩, .string ⟨#[112, 101, 115]⟩, .string ⟨#[100]⟩, .string ⟨#[99, 108, 105, 118, 105, 115]⟩, .string ⟨#[117, 100]⟩, .string ⟨#[116, 111, 114, 99, 117, 108, 117, 115]⟩, .string ⟨#[100, 117]⟩, .string ⟨#[112, 111, 114, 114, 101, 99, 116, 117, 115]⟩, .string ⟨#[117, 117]⟩, .string ⟨#[115, 99, 97, 110, 100, 105, 99, 117, 115]⟩, .string ⟨#[100, 100]⟩, .string ⟨#[99, 108, 105, 109, 97, 99, 117, 115]⟩]) (.int .i64 3)).run Tryd.prog W = .ok (.agg #[.string ⟨#[117, 100]⟩, .string ⟨#[116, 111, 114, 99, 117, 108, 117, 115]⟩]) W := by kernel_rfl
theorem neu_4 (W : World) : (Instr.index 116 (.agg #[.string ⟨#[]⟩, .string ⟨#[112, 117, 110, 99, 116, 117, 109]⟩, .string ⟨#[117]⟩, .string ⟨#[112, 101, 115]⟩, .string ⟨#[100]⟩, .string ⟨#[99, 108, 105, 118, 105, 115]⟩, .string ⟨#[117, 100]⟩, .string ⟨#[116, 111, 114, 99, 117, 108, 117, 115]⟩, .string ⟨#[100, 117]⟩, .string ⟨#[112, 111, 114, 114, 101, 99, 116, 117, 115]⟩, .string ⟨#[117, 117]⟩, .string ⟨#[115, 99, 97, 110, 100, 105, 99, 117, 115]⟩, .string ⟨#[100, 100]⟩, .string ⟨#[99, 108, 105, 109, 97, 99, 117, 115]⟩]) (.int .i64 4)).run Tryd.prog W = .ok (.agg #[.string ⟨#[100, 117]⟩, .string ⟨#[112, 111, 114, 114, 101, 99, 116, 117, 115]⟩]) W := by kernel_rfl
theorem neu_5 (W : World) : (Instr.index 116 (.agg #[.string ⟨#[]⟩, .string ⟨#[112, 117, 110, 99, 116, 117, 109]⟩, .string ⟨#[117]⟩, .string ⟨#[112, 101, 115]⟩, .string ⟨#[100]⟩, .string ⟨#[99, 108, 105, 118, 105, 115]⟩, .string ⟨#[117, 100]⟩, .string ⟨#[116, 111, 114, 99, 117, 108, 117, 115]⟩, .string ⟨#[100, 117]⟩, .string ⟨#[112, 111, 114, 114, 101, 99, 116, 117, 115]⟩, .string ⟨#[117, 117]⟩, .string ⟨#[115, 99, 97, 110, 100, 105, 99, 117, 115]⟩, .string ⟨#[100, 100]⟩, .string ⟨#[99, 108, 105, 109, 97, 99, 117, 115]⟩]) (.int .i64 5)).run Tryd.prog W = .ok (.agg #[.string ⟨#[117, 117]⟩, .string ⟨#[115, 99, 97, 110, 100, 105, 99, 117, 115]⟩]) W := by kernel_rfl
theorem neu_6 (W : World) : (Instr.index 116 (.agg #[.string ⟨#[]⟩, .string ⟨#[112, 117, 110, 99, 116, 117, 109]⟩, .string ⟨#[117]⟩, .string ⟨#[112, 101, 115]⟩, .string ⟨#[100]⟩, .string ⟨#[99, 108, 105, 118, 105, 115]⟩, .string ⟨#[117, 100]⟩, .string ⟨#[116, 111, 114, 99, 117, 108, 117, 115]⟩, .string ⟨#[100, 117]⟩, .string ⟨#[112, 111, 114, 114, 101, 99, 116, 117, 115]⟩, .string ⟨#[117, 117]⟩, .string ⟨#[115, 99, 97, 110, 100, 105, 99, 117, 115]⟩, .string ⟨#[100, 100]⟩, .string ⟨#[99, 108, 105, 109, 97, 99, 117, 115]⟩]) (.int .i64 6)).run Tryd.prog W = .ok (.agg #[.string ⟨#[100, 100]⟩, .string ⟨#[99, 108, 105, 109, 97, 99, 117, 115]⟩]) W := by kernel_rfl

set_option maxRecDepth 100000 in
set_option maxHeartbeats 16000000 in
theorem neumeName_any (s : ByteArray) (w : World) (ht : NeuTab w) :
    Calls Tryd.prog 36 #[.string s] w fun e w' => e = .returned (.string (nnm s)) ∧ Below w.heap.size w w' := by
  have HT := Lib.hid ht
  clear ht
  by_cases hc : cv s = false
  · rw [nnm_no (isn_no1 hc)]
    go_enter Tryd.func36, Tryd.ntmps36
    go_wp2_with (fail)
    (go_at_call 31; refine (contourValid_any s _).mono ?_; rintro e w1 ⟨rfl, hb1⟩)
    go_wp2
    go_ret
    exact ⟨rfl, hb1⟩
  rw [Bool.not_eq_false] at hc
  have KC := Lib.hid (contourValid_any s)
  rw [hc] at KC
  by_cases hl : 3 < s.size
  · rw [nnm_no (isn_no2 hl)]
    have g0 : (3 : Int) < (s.size : Int) := by omega
    clear hc
    go_enter Tryd.func36, Tryd.ntmps36
    go_wp2_with (fail)
    (go_at_call 31; refine (KC.out _).mono ?_; rintro e w1 ⟨rfl, hb1⟩)
    go_wp2
    go_ret
    exact ⟨rfl, hb1⟩
  have g0 : decide ((3 : Int) < (s.size : Int)) = false := by simp; omega
  have HN := Lib.hid (nnm_yes (isn_yes hc (by omega)))
  have hadd := grp_add s (by omega)
  clear hc hl
  by_cases h0 : s.data.toList = []
  · have HE : Hid (nnm s = ⟨#[112, 117, 110, 99, 116, 117, 109]⟩) := by show _ = _; rw [HN.out]; simp [nnl, h0, nPun]
    have e0 : s.toList.isEmpty = true := em_t h0
    have e0' : (s.toList == []) = true := by rw [sq_r]; simpa using h0
    have e0'' : (([] : List UInt8) == s.toList) = true := by rw [sq_l]; simpa using h0
    clear h0
    rw [HE.out]
    go_enter Tryd.func36, Tryd.ntmps36
    go_wp2_with (fail)
    (go_at_call 31; refine (KC.out _).mono ?_; rintro e w1 ⟨rfl, hb1⟩)
    have ht1 := HT.out.below hb1
    have n0 : w1.cell? ⟨1, 0, none⟩ = some (.string ⟨#[]⟩) := ht1 0 (by omega)
    have n1 : w1.cell? ⟨1, 1, none⟩ = some (.string ⟨#[112, 117, 110, 99, 116, 117, 109]⟩) := ht1 1 (by omega)
    have n2 : w1.cell? ⟨1, 2, none⟩ = some (.string ⟨#[117]⟩) := ht1 2 (by omega)
    have n3 : w1.cell? ⟨1, 3, none⟩ = some (.string ⟨#[112, 101, 115]⟩) := ht1 3 (by omega)
    have n4 : w1.cell? ⟨1, 4, none⟩ = some (.string ⟨#[100]⟩) := ht1 4 (by omega)
    have n5 : w1.cell? ⟨1, 5, none⟩ = some (.string ⟨#[99, 108, 105, 118, 105, 115]⟩) := ht1 5 (by omega)
    have n6 : w1.cell? ⟨1, 6, none⟩ = some (.string ⟨#[117, 100]⟩) := ht1 6 (by omega)
    have n7 : w1.cell? ⟨1, 7, none⟩ = some (.string ⟨#[116, 111, 114, 99, 117, 108, 117, 115]⟩) := ht1 7 (by omega)
    have n8 : w1.cell? ⟨1, 8, none⟩ = some (.string ⟨#[100, 117]⟩) := ht1 8 (by omega)
    have n9 : w1.cell? ⟨1, 9, none⟩ = some (.string ⟨#[112, 111, 114, 114, 101, 99, 116, 117, 115]⟩) := ht1 9 (by omega)
    have n10 : w1.cell? ⟨1, 10, none⟩ = some (.string ⟨#[117, 117]⟩) := ht1 10 (by omega)
    have n11 : w1.cell? ⟨1, 11, none⟩ = some (.string ⟨#[115, 99, 97, 110, 100, 105, 99, 117, 115]⟩) := ht1 11 (by omega)
    have n12 : w1.cell? ⟨1, 12, none⟩ = some (.string ⟨#[100, 100]⟩) := ht1 12 (by omega)
    have n13 : w1.cell? ⟨1, 13, none⟩ = some (.string ⟨#[99, 108, 105, 109, 97, 99, 117, 115]⟩) := ht1 13 (by omega)
    clear ht1
    have i0 := neu_0
    have i1 := neu_1
    have i2 := neu_2
    have i3 := neu_3
    have i4 := neu_4
    have i5 := neu_5
    have i6 := neu_6
    go_wp2
    go_rounds 1
    go_ret
    exact ⟨rfl, bl_step hb1 (by (repeat' (first | (with_reducible exact Below.refl _ _) | (with_reducible refine Below.alloc ?_ ?_ _) | (with_reducible refine Below.drew ?_) | (with_reducible refine Below.setCell ?_ ?_ _) | (with_reducible refine bl_step ?_ (by assumption)) | go_size)))⟩
  by_cases h1 : s.data.toList = [117]
  · have HE : Hid (nnm s = ⟨#[112, 101, 115]⟩) := by show _ = _; rw [HN.out]; simp [nnl, h1, nPes]
    have e0 : s.toList.isEmpty = false := em_f h0
    have e0' : (s.toList == []) = false := by rw [sq_r]; simpa using h0
    have e0'' : (([] : List UInt8) == s.toList) = false := by rw [sq_l]; simpa [eq_comm] using h0
    have e1 : (s.toList == [117]) = true := by rw [sq_r]; simpa using h1
    have e1' : ([117] == s.toList) = true := by rw [sq_l]; simpa [eq_comm] using h1
    clear h0 h1
    rw [HE.out]
    go_enter Tryd.func36, Tryd.ntmps36
    go_wp2_with (fail)
    (go_at_call 31; refine (KC.out _).mono ?_; rintro e w1 ⟨rfl, hb1⟩)
    have ht1 := HT.out.below hb1
    have n0 : w1.cell? ⟨1, 0, none⟩ = some (.string ⟨#[]⟩) := ht1 0 (by omega)
    have n1 : w1.cell? ⟨1, 1, none⟩ = some (.string ⟨#[112, 117, 110, 99, 116, 117, 109]⟩) := ht1 1 (by omega)
    have n2 : w1.cell? ⟨1, 2, none⟩ = some (.string ⟨#[117]⟩) := ht1 2 (by omega)
    have n3 : w1.cell? ⟨1, 3, none⟩ = some (.string ⟨#[112, 101, 115]⟩) := ht1 3 (by omega)
    have n4 : w1.cell? ⟨1, 4, none⟩ = some (.string ⟨#[100]⟩) := ht1 4 (by omega)
    have n5 : w1.cell? ⟨1, 5, none⟩ = some (.string ⟨#[99, 108, 105, 118, 105, 115]⟩) := ht1 5 (by omega)
    have n6 : w1.cell? ⟨1, 6, none⟩ = some (.string ⟨#[117, 100]⟩) := ht1 6 (by omega)
    have n7 : w1.cell? ⟨1, 7, none⟩ = some (.string ⟨#[116, 111, 114, 99, 117, 108, 117, 115]⟩) := ht1 7 (by omega)
    have n8 : w1.cell? ⟨1, 8, none⟩ = some (.string ⟨#[100, 117]⟩) := ht1 8 (by omega)
    have n9 : w1.cell? ⟨1, 9, none⟩ = some (.string ⟨#[112, 111, 114, 114, 101, 99, 116, 117, 115]⟩) := ht1 9 (by omega)
    have n10 : w1.cell? ⟨1, 10, none⟩ = some (.string ⟨#[117, 117]⟩) := ht1 10 (by omega)
    have n11 : w1.cell? ⟨1, 11, none⟩ = some (.string ⟨#[115, 99, 97, 110, 100, 105, 99, 117, 115]⟩) := ht1 11 (by omega)
    have n12 : w1.cell? ⟨1, 12, none⟩ = some (.string ⟨#[100, 100]⟩) := ht1 12 (by omega)
    have n13 : w1.cell? ⟨1, 13, none⟩ = some (.string ⟨#[99, 108, 105, 109, 97, 99, 117, 115]⟩) := ht1 13 (by omega)
    clear ht1
    have i0 := neu_0
    have i1 := neu_1
    have i2 := neu_2
    have i3 := neu_3
    have i4 := neu_4
    have i5 := neu_5
    have i6 := neu_6
    go_wp2
    go_rounds 2
    go_ret
    exact ⟨rfl, bl_step hb1 (by (repeat' (first | (with_reducible exact Below.refl _ _) | (with_reducible refine Below.alloc ?_ ?_ _) | (with_reducible refine Below.drew ?_) | (with_reducible refine Below.setCell ?_ ?_ _) | (with_reducible refine bl_step ?_ (by assumption)) | go_size)))⟩
  by_cases h2 : s.data.toList = [100]
  · have HE : Hid (nnm s = ⟨#[99, 108, 105, 118, 105, 115]⟩) := by show _ = _; rw [HN.out]; simp [nnl, h2, nCli]
    have e0 : s.toList.isEmpty = false := em_f h0
    have e0' : (s.toList == []) = false := by rw [sq_r]; simpa using h0
    have e0'' : (([] : List UInt8) == s.toList) = false := by rw [sq_l]; simpa [eq_comm] using h0
    have e1 : (s.toList == [117]) = false := by rw [sq_r]; simpa using h1
    have e1' : ([117] == s.toList) = false := by rw [sq_l]; simpa [eq_comm] using h1
    have e2 : (s.toList == [100]) = true := by rw [sq_r]; simpa using h2
    have e2' : ([100] == s.toList) = true := by rw [sq_l]; simpa [eq_comm] using h2
    clear h0 h1 h2
    rw [HE.out]
    go_enter Tryd.func36, Tryd.ntmps36
    go_wp2_with (fail)
    (go_at_call 31; refine (KC.out _).mono ?_; rintro e w1 ⟨rfl, hb1⟩)
    have ht1 := HT.out.below hb1
    have n0 : w1.cell? ⟨1, 0, none⟩ = some (.string ⟨#[]⟩) := ht1 0 (by omega)
    have n1 : w1.cell? ⟨1, 1, none⟩ = some (.string ⟨#[112, 117, 110, 99, 116, 117, 109]⟩) := ht1 1 (by omega)
    have n2 : w1.cell? ⟨1, 2, none⟩ = some (.string ⟨#[117]⟩) := ht1 2 (by omega)
    have n3 : w1.cell? ⟨1, 3, none⟩ = some (.string ⟨#[112, 101, 115]⟩) := ht1 3 (by omega)
    have n4 : w1.cell? ⟨1, 4, none⟩ = some (.string ⟨#[100]⟩) := ht1 4 (by omega)
    have n5 : w1.cell? ⟨1, 5, none⟩ = some (.string ⟨#[99, 108, 105, 118, 105, 115]⟩) := ht1 5 (by omega)
    have n6 : w1.cell? ⟨1, 6, none⟩ = some (.string ⟨#[117, 100]⟩) := ht1 6 (by omega)
    have n7 : w1.cell? ⟨1, 7, none⟩ = some (.string ⟨#[116, 111, 114, 99, 117, 108, 117, 115]⟩) := ht1 7 (by omega)
    have n8 : w1.cell? ⟨1, 8, none⟩ = some (.string ⟨#[100, 117]⟩) := ht1 8 (by omega)
    have n9 : w1.cell? ⟨1, 9, none⟩ = some (.string ⟨#[112, 111, 114, 114, 101, 99, 116, 117, 115]⟩) := ht1 9 (by omega)
    have n10 : w1.cell? ⟨1, 10, none⟩ = some (.string ⟨#[117, 117]⟩) := ht1 10 (by omega)
    have n11 : w1.cell? ⟨1, 11, none⟩ = some (.string ⟨#[115, 99, 97, 110, 100, 105, 99, 117, 115]⟩) := ht1 11 (by omega)
    have n12 : w1.cell? ⟨1, 12, none⟩ = some (.string ⟨#[100, 100]⟩) := ht1 12 (by omega)
    have n13 : w1.cell? ⟨1, 13, none⟩ = some (.string ⟨#[99, 108, 105, 109, 97, 99, 117, 115]⟩) := ht1 13 (by omega)
    clear ht1
    have i0 := neu_0
    have i1 := neu_1
    have i2 := neu_2
    have i3 := neu_3
    have i4 := neu_4
    have i5 := neu_5
    have i6 := neu_6
    go_wp2
    go_rounds 3
    go_ret
    exact ⟨rfl, bl_step hb1 (by (repeat' (first | (with_reducible exact Below.refl _ _) | (with_reducible refine Below.alloc ?_ ?_ _) | (with_reducible refine Below.drew ?_) | (with_reducible refine Below.setCell ?_ ?_ _) | (with_reducible refine bl_step ?_ (by assumption)) | go_size)))⟩
  by_cases h3 : s.data.toList = [117, 100]
  · have HE : Hid (nnm s = ⟨#[116, 111, 114, 99, 117, 108, 117, 115]⟩) := by show _ = _; rw [HN.out]; simp [nnl, h3, nTor]
    have e0 : s.toList.isEmpty = false := em_f h0
    have e0' : (s.toList == []) = false := by rw [sq_r]; simpa using h0
    have e0'' : (([] : List UInt8) == s.toList) = false := by rw [sq_l]; simpa [eq_comm] using h0
    have e1 : (s.toList == [117]) = false := by rw [sq_r]; simpa using h1
    have e1' : ([117] == s.toList) = false := by rw [sq_l]; simpa [eq_comm] using h1
    have e2 : (s.toList == [100]) = false := by rw [sq_r]; simpa using h2
    have e2' : ([100] == s.toList) = false := by rw [sq_l]; simpa [eq_comm] using h2
    have e3 : (s.toList == [117, 100]) = true := by rw [sq_r]; simpa using h3
    have e3' : ([117, 100] == s.toList) = true := by rw [sq_l]; simpa [eq_comm] using h3
    clear h0 h1 h2 h3
    rw [HE.out]
    go_enter Tryd.func36, Tryd.ntmps36
    go_wp2_with (fail)
    (go_at_call 31; refine (KC.out _).mono ?_; rintro e w1 ⟨rfl, hb1⟩)
    have ht1 := HT.out.below hb1
    have n0 : w1.cell? ⟨1, 0, none⟩ = some (.string ⟨#[]⟩) := ht1 0 (by omega)
    have n1 : w1.cell? ⟨1, 1, none⟩ = some (.string ⟨#[112, 117, 110, 99, 116, 117, 109]⟩) := ht1 1 (by omega)
    have n2 : w1.cell? ⟨1, 2, none⟩ = some (.string ⟨#[117]⟩) := ht1 2 (by omega)
    have n3 : w1.cell? ⟨1, 3, none⟩ = some (.string ⟨#[112, 101, 115]⟩) := ht1 3 (by omega)
    have n4 : w1.cell? ⟨1, 4, none⟩ = some (.string ⟨#[100]⟩) := ht1 4 (by omega)
    have n5 : w1.cell? ⟨1, 5, none⟩ = some (.string ⟨#[99, 108, 105, 118, 105, 115]⟩) := ht1 5 (by omega)
    have n6 : w1.cell? ⟨1, 6, none⟩ = some (.string ⟨#[117, 100]⟩) := ht1 6 (by omega)
    have n7 : w1.cell? ⟨1, 7, none⟩ = some (.string ⟨#[116, 111, 114, 99, 117, 108, 117, 115]⟩) := ht1 7 (by omega)
    have n8 : w1.cell? ⟨1, 8, none⟩ = some (.string ⟨#[100, 117]⟩) := ht1 8 (by omega)
    have n9 : w1.cell? ⟨1, 9, none⟩ = some (.string ⟨#[112, 111, 114, 114, 101, 99, 116, 117, 115]⟩) := ht1 9 (by omega)
    have n10 : w1.cell? ⟨1, 10, none⟩ = some (.string ⟨#[117, 117]⟩) := ht1 10 (by omega)
    have n11 : w1.cell? ⟨1, 11, none⟩ = some (.string ⟨#[115, 99, 97, 110, 100, 105, 99, 117, 115]⟩) := ht1 11 (by omega)
    have n12 : w1.cell? ⟨1, 12, none⟩ = some (.string ⟨#[100, 100]⟩) := ht1 12 (by omega)
    have n13 : w1.cell? ⟨1, 13, none⟩ = some (.string ⟨#[99, 108, 105, 109, 97, 99, 117, 115]⟩) := ht1 13 (by omega)
    clear ht1
    have i0 := neu_0
    have i1 := neu_1
    have i2 := neu_2
    have i3 := neu_3
    have i4 := neu_4
    have i5 := neu_5
    have i6 := neu_6
    go_wp2
    go_rounds 4
    go_ret
    exact ⟨rfl, bl_step hb1 (by (repeat' (first | (with_reducible exact Below.refl _ _) | (with_reducible refine Below.alloc ?_ ?_ _) | (with_reducible refine Below.drew ?_) | (with_reducible refine Below.setCell ?_ ?_ _) | (with_reducible refine bl_step ?_ (by assumption)) | go_size)))⟩
  by_cases h4 : s.data.toList = [100, 117]
  · have HE : Hid (nnm s = ⟨#[112, 111, 114, 114, 101, 99, 116, 117, 115]⟩) := by show _ = _; rw [HN.out]; simp [nnl, h4, nPor]
    have e0 : s.toList.isEmpty = false := em_f h0
    have e0' : (s.toList == []) = false := by rw [sq_r]; simpa using h0
    have e0'' : (([] : List UInt8) == s.toList) = false := by rw [sq_l]; simpa [eq_comm] using h0
    have e1 : (s.toList == [117]) = false := by rw [sq_r]; simpa using h1
    have e1' : ([117] == s.toList) = false := by rw [sq_l]; simpa [eq_comm] using h1
    have e2 : (s.toList == [100]) = false := by rw [sq_r]; simpa using h2
    have e2' : ([100] == s.toList) = false := by rw [sq_l]; simpa [eq_comm] using h2
    have e3 : (s.toList == [117, 100]) = false := by rw [sq_r]; simpa using h3
    have e3' : ([117, 100] == s.toList) = false := by rw [sq_l]; simpa [eq_comm] using h3
    have e4 : (s.toList == [100, 117]) = true := by rw [sq_r]; simpa using h4
    have e4' : ([100, 117] == s.toList) = true := by rw [sq_l]; simpa [eq_comm] using h4
    clear h0 h1 h2 h3 h4
    rw [HE.out]
    go_enter Tryd.func36, Tryd.ntmps36
    go_wp2_with (fail)
    (go_at_call 31; refine (KC.out _).mono ?_; rintro e w1 ⟨rfl, hb1⟩)
    have ht1 := HT.out.below hb1
    have n0 : w1.cell? ⟨1, 0, none⟩ = some (.string ⟨#[]⟩) := ht1 0 (by omega)
    have n1 : w1.cell? ⟨1, 1, none⟩ = some (.string ⟨#[112, 117, 110, 99, 116, 117, 109]⟩) := ht1 1 (by omega)
    have n2 : w1.cell? ⟨1, 2, none⟩ = some (.string ⟨#[117]⟩) := ht1 2 (by omega)
    have n3 : w1.cell? ⟨1, 3, none⟩ = some (.string ⟨#[112, 101, 115]⟩) := ht1 3 (by omega)
    have n4 : w1.cell? ⟨1, 4, none⟩ = some (.string ⟨#[100]⟩) := ht1 4 (by omega)
    have n5 : w1.cell? ⟨1, 5, none⟩ = some (.string ⟨#[99, 108, 105, 118, 105, 115]⟩) := ht1 5 (by omega)
    have n6 : w1.cell? ⟨1, 6, none⟩ = some (.string ⟨#[117, 100]⟩) := ht1 6 (by omega)
    have n7 : w1.cell? ⟨1, 7, none⟩ = some (.string ⟨#[116, 111, 114, 99, 117, 108, 117, 115]⟩) := ht1 7 (by omega)
    have n8 : w1.cell? ⟨1, 8, none⟩ = some (.string ⟨#[100, 117]⟩) := ht1 8 (by omega)
    have n9 : w1.cell? ⟨1, 9, none⟩ = some (.string ⟨#[112, 111, 114, 114, 101, 99, 116, 117, 115]⟩) := ht1 9 (by omega)
    have n10 : w1.cell? ⟨1, 10, none⟩ = some (.string ⟨#[117, 117]⟩) := ht1 10 (by omega)
    have n11 : w1.cell? ⟨1, 11, none⟩ = some (.string ⟨#[115, 99, 97, 110, 100, 105, 99, 117, 115]⟩) := ht1 11 (by omega)
    have n12 : w1.cell? ⟨1, 12, none⟩ = some (.string ⟨#[100, 100]⟩) := ht1 12 (by omega)
    have n13 : w1.cell? ⟨1, 13, none⟩ = some (.string ⟨#[99, 108, 105, 109, 97, 99, 117, 115]⟩) := ht1 13 (by omega)
    clear ht1
    have i0 := neu_0
    have i1 := neu_1
    have i2 := neu_2
    have i3 := neu_3
    have i4 := neu_4
    have i5 := neu_5
    have i6 := neu_6
    go_wp2
    go_rounds 5
    go_ret
    exact ⟨rfl, bl_step hb1 (by (repeat' (first | (with_reducible exact Below.refl _ _) | (with_reducible refine Below.alloc ?_ ?_ _) | (with_reducible refine Below.drew ?_) | (with_reducible refine Below.setCell ?_ ?_ _) | (with_reducible refine bl_step ?_ (by assumption)) | go_size)))⟩
  by_cases h5 : s.data.toList = [117, 117]
  · have HE : Hid (nnm s = ⟨#[115, 99, 97, 110, 100, 105, 99, 117, 115]⟩) := by show _ = _; rw [HN.out]; simp [nnl, h5, nSca]
    have e0 : s.toList.isEmpty = false := em_f h0
    have e0' : (s.toList == []) = false := by rw [sq_r]; simpa using h0
    have e0'' : (([] : List UInt8) == s.toList) = false := by rw [sq_l]; simpa [eq_comm] using h0
    have e1 : (s.toList == [117]) = false := by rw [sq_r]; simpa using h1
    have e1' : ([117] == s.toList) = false := by rw [sq_l]; simpa [eq_comm] using h1
    have e2 : (s.toList == [100]) = false := by rw [sq_r]; simpa using h2
    have e2' : ([100] == s.toList) = false := by rw [sq_l]; simpa [eq_comm] using h2
    have e3 : (s.toList == [117, 100]) = false := by rw [sq_r]; simpa using h3
    have e3' : ([117, 100] == s.toList) = false := by rw [sq_l]; simpa [eq_comm] using h3
    have e4 : (s.toList == [100, 117]) = false := by rw [sq_r]; simpa using h4
    have e4' : ([100, 117] == s.toList) = false := by rw [sq_l]; simpa [eq_comm] using h4
    have e5 : (s.toList == [117, 117]) = true := by rw [sq_r]; simpa using h5
    have e5' : ([117, 117] == s.toList) = true := by rw [sq_l]; simpa [eq_comm] using h5
    clear h0 h1 h2 h3 h4 h5
    rw [HE.out]
    go_enter Tryd.func36, Tryd.ntmps36
    go_wp2_with (fail)
    (go_at_call 31; refine (KC.out _).mono ?_; rintro e w1 ⟨rfl, hb1⟩)
    have ht1 := HT.out.below hb1
    have n0 : w1.cell? ⟨1, 0, none⟩ = some (.string ⟨#[]⟩) := ht1 0 (by omega)
    have n1 : w1.cell? ⟨1, 1, none⟩ = some (.string ⟨#[112, 117, 110, 99, 116, 117, 109]⟩) := ht1 1 (by omega)
    have n2 : w1.cell? ⟨1, 2, none⟩ = some (.string ⟨#[117]⟩) := ht1 2 (by omega)
    have n3 : w1.cell? ⟨1, 3, none⟩ = some (.string ⟨#[112, 101, 115]⟩) := ht1 3 (by omega)
    have n4 : w1.cell? ⟨1, 4, none⟩ = some (.string ⟨#[100]⟩) := ht1 4 (by omega)
    have n5 : w1.cell? ⟨1, 5, none⟩ = some (.string ⟨#[99, 108, 105, 118, 105, 115]⟩) := ht1 5 (by omega)
    have n6 : w1.cell? ⟨1, 6, none⟩ = some (.string ⟨#[117, 100]⟩) := ht1 6 (by omega)
    have n7 : w1.cell? ⟨1, 7, none⟩ = some (.string ⟨#[116, 111, 114, 99, 117, 108, 117, 115]⟩) := ht1 7 (by omega)
    have n8 : w1.cell? ⟨1, 8, none⟩ = some (.string ⟨#[100, 117]⟩) := ht1 8 (by omega)
    have n9 : w1.cell? ⟨1, 9, none⟩ = some (.string ⟨#[112, 111, 114, 114, 101, 99, 116, 117, 115]⟩) := ht1 9 (by omega)
    have n10 : w1.cell? ⟨1, 10, none⟩ = some (.string ⟨#[117, 117]⟩) := ht1 10 (by omega)
    have n11 : w1.cell? ⟨1, 11, none⟩ = some (.string ⟨#[115, 99, 97, 110, 100, 105, 99, 117, 115]⟩) := ht1 11 (by omega)
    have n12 : w1.cell? ⟨1, 12, none⟩ = some (.string ⟨#[100, 100]⟩) := ht1 12 (by omega)
    have n13 : w1.cell? ⟨1, 13, none⟩ = some (.string ⟨#[99, 108, 105, 109, 97, 99, 117, 115]⟩) := ht1 13 (by omega)
    clear ht1
    have i0 := neu_0
    have i1 := neu_1
    have i2 := neu_2
    have i3 := neu_3
    have i4 := neu_4
    have i5 := neu_5
    have i6 := neu_6
    go_wp2
    go_rounds 6
    go_ret
    exact ⟨rfl, bl_step hb1 (by (repeat' (first | (with_reducible exact Below.refl _ _) | (with_reducible refine Below.alloc ?_ ?_ _) | (with_reducible refine Below.drew ?_) | (with_reducible refine Below.setCell ?_ ?_ _) | (with_reducible refine bl_step ?_ (by assumption)) | go_size)))⟩
  by_cases h6 : s.data.toList = [100, 100]
  · have HE : Hid (nnm s = ⟨#[99, 108, 105, 109, 97, 99, 117, 115]⟩) := by show _ = _; rw [HN.out]; simp [nnl, h6, nClm]
    have e0 : s.toList.isEmpty = false := em_f h0
    have e0' : (s.toList == []) = false := by rw [sq_r]; simpa using h0
    have e0'' : (([] : List UInt8) == s.toList) = false := by rw [sq_l]; simpa [eq_comm] using h0
    have e1 : (s.toList == [117]) = false := by rw [sq_r]; simpa using h1
    have e1' : ([117] == s.toList) = false := by rw [sq_l]; simpa [eq_comm] using h1
    have e2 : (s.toList == [100]) = false := by rw [sq_r]; simpa using h2
    have e2' : ([100] == s.toList) = false := by rw [sq_l]; simpa [eq_comm] using h2
    have e3 : (s.toList == [117, 100]) = false := by rw [sq_r]; simpa using h3
    have e3' : ([117, 100] == s.toList) = false := by rw [sq_l]; simpa [eq_comm] using h3
    have e4 : (s.toList == [100, 117]) = false := by rw [sq_r]; simpa using h4
    have e4' : ([100, 117] == s.toList) = false := by rw [sq_l]; simpa [eq_comm] using h4
    have e5 : (s.toList == [117, 117]) = false := by rw [sq_r]; simpa using h5
    have e5' : ([117, 117] == s.toList) = false := by rw [sq_l]; simpa [eq_comm] using h5
    have e6 : (s.toList == [100, 100]) = true := by rw [sq_r]; simpa using h6
    have e6' : ([100, 100] == s.toList) = true := by rw [sq_l]; simpa [eq_comm] using h6
    clear h0 h1 h2 h3 h4 h5 h6
    rw [HE.out]
    go_enter Tryd.func36, Tryd.ntmps36
    go_wp2_with (fail)
    (go_at_call 31; refine (KC.out _).mono ?_; rintro e w1 ⟨rfl, hb1⟩)
    have ht1 := HT.out.below hb1
    have n0 : w1.cell? ⟨1, 0, none⟩ = some (.string ⟨#[]⟩) := ht1 0 (by omega)
    have n1 : w1.cell? ⟨1, 1, none⟩ = some (.string ⟨#[112, 117, 110, 99, 116, 117, 109]⟩) := ht1 1 (by omega)
    have n2 : w1.cell? ⟨1, 2, none⟩ = some (.string ⟨#[117]⟩) := ht1 2 (by omega)
    have n3 : w1.cell? ⟨1, 3, none⟩ = some (.string ⟨#[112, 101, 115]⟩) := ht1 3 (by omega)
    have n4 : w1.cell? ⟨1, 4, none⟩ = some (.string ⟨#[100]⟩) := ht1 4 (by omega)
    have n5 : w1.cell? ⟨1, 5, none⟩ = some (.string ⟨#[99, 108, 105, 118, 105, 115]⟩) := ht1 5 (by omega)
    have n6 : w1.cell? ⟨1, 6, none⟩ = some (.string ⟨#[117, 100]⟩) := ht1 6 (by omega)
    have n7 : w1.cell? ⟨1, 7, none⟩ = some (.string ⟨#[116, 111, 114, 99, 117, 108, 117, 115]⟩) := ht1 7 (by omega)
    have n8 : w1.cell? ⟨1, 8, none⟩ = some (.string ⟨#[100, 117]⟩) := ht1 8 (by omega)
    have n9 : w1.cell? ⟨1, 9, none⟩ = some (.string ⟨#[112, 111, 114, 114, 101, 99, 116, 117, 115]⟩) := ht1 9 (by omega)
    have n10 : w1.cell? ⟨1, 10, none⟩ = some (.string ⟨#[117, 117]⟩) := ht1 10 (by omega)
    have n11 : w1.cell? ⟨1, 11, none⟩ = some (.string ⟨#[115, 99, 97, 110, 100, 105, 99, 117, 115]⟩) := ht1 11 (by omega)
    have n12 : w1.cell? ⟨1, 12, none⟩ = some (.string ⟨#[100, 100]⟩) := ht1 12 (by omega)
    have n13 : w1.cell? ⟨1, 13, none⟩ = some (.string ⟨#[99, 108, 105, 109, 97, 99, 117, 115]⟩) := ht1 13 (by omega)
    clear ht1
    have i0 := neu_0
    have i1 := neu_1
    have i2 := neu_2
    have i3 := neu_3
    have i4 := neu_4
    have i5 := neu_5
    have i6 := neu_6
    go_wp2
    go_rounds 7
    go_ret
    exact ⟨rfl, bl_step hb1 (by (repeat' (first | (with_reducible exact Below.refl _ _) | (with_reducible refine Below.alloc ?_ ?_ _) | (with_reducible refine Below.drew ?_) | (with_reducible refine Below.setCell ?_ ?_ _) | (with_reducible refine bl_step ?_ (by assumption)) | go_size)))⟩
  have HE : Hid (nnm s = ⟨(nGrp ++ s.data.toList).toArray⟩) := by show _ = _; rw [HN.out]; simp [nnl, h0, h1, h2, h3, h4, h5, h6]
  have e0 : s.toList.isEmpty = false := em_f h0
  have e0' : (s.toList == []) = false := by rw [sq_r]; simpa using h0
  have e0'' : (([] : List UInt8) == s.toList) = false := by rw [sq_l]; simpa [eq_comm] using h0
  have e1 : (s.toList == [117]) = false := by rw [sq_r]; simpa using h1
  have e1' : ([117] == s.toList) = false := by rw [sq_l]; simpa [eq_comm] using h1
  have e2 : (s.toList == [100]) = false := by rw [sq_r]; simpa using h2
  have e2' : ([100] == s.toList) = false := by rw [sq_l]; simpa [eq_comm] using h2
  have e3 : (s.toList == [117, 100]) = false := by rw [sq_r]; simpa using h3
  have e3' : ([117, 100] == s.toList) = false := by rw [sq_l]; simpa [eq_comm] using h3
  have e4 : (s.toList == [100, 117]) = false := by rw [sq_r]; simpa using h4
  have e4' : ([100, 117] == s.toList) = false := by rw [sq_l]; simpa [eq_comm] using h4
  have e5 : (s.toList == [117, 117]) = false := by rw [sq_r]; simpa using h5
  have e5' : ([117, 117] == s.toList) = false := by rw [sq_l]; simpa [eq_comm] using h5
  have e6 : (s.toList == [100, 100]) = false := by rw [sq_r]; simpa using h6
  have e6' : ([100, 100] == s.toList) = false := by rw [sq_l]; simpa [eq_comm] using h6
  clear h0 h1 h2 h3 h4 h5 h6
  rw [HE.out]
  generalize (⟨(nGrp ++ s.data.toList).toArray⟩ : ByteArray) = o at hadd HE ⊢
  go_enter Tryd.func36, Tryd.ntmps36
  go_wp2_with (fail)
  (go_at_call 31; refine (KC.out _).mono ?_; rintro e w1 ⟨rfl, hb1⟩)
  have ht1 := HT.out.below hb1
  have n0 : w1.cell? ⟨1, 0, none⟩ = some (.string ⟨#[]⟩) := ht1 0 (by omega)
  have n1 : w1.cell? ⟨1, 1, none⟩ = some (.string ⟨#[112, 117, 110, 99, 116, 117, 109]⟩) := ht1 1 (by omega)
  have n2 : w1.cell? ⟨1, 2, none⟩ = some (.string ⟨#[117]⟩) := ht1 2 (by omega)
  have n3 : w1.cell? ⟨1, 3, none⟩ = some (.string ⟨#[112, 101, 115]⟩) := ht1 3 (by omega)
  have n4 : w1.cell? ⟨1, 4, none⟩ = some (.string ⟨#[100]⟩) := ht1 4 (by omega)
  have n5 : w1.cell? ⟨1, 5, none⟩ = some (.string ⟨#[99, 108, 105, 118, 105, 115]⟩) := ht1 5 (by omega)
  have n6 : w1.cell? ⟨1, 6, none⟩ = some (.string ⟨#[117, 100]⟩) := ht1 6 (by omega)
  have n7 : w1.cell? ⟨1, 7, none⟩ = some (.string ⟨#[116, 111, 114, 99, 117, 108, 117, 115]⟩) := ht1 7 (by omega)
  have n8 : w1.cell? ⟨1, 8, none⟩ = some (.string ⟨#[100, 117]⟩) := ht1 8 (by omega)
  have n9 : w1.cell? ⟨1, 9, none⟩ = some (.string ⟨#[112, 111, 114, 114, 101, 99, 116, 117, 115]⟩) := ht1 9 (by omega)
  have n10 : w1.cell? ⟨1, 10, none⟩ = some (.string ⟨#[117, 117]⟩) := ht1 10 (by omega)
  have n11 : w1.cell? ⟨1, 11, none⟩ = some (.string ⟨#[115, 99, 97, 110, 100, 105, 99, 117, 115]⟩) := ht1 11 (by omega)
  have n12 : w1.cell? ⟨1, 12, none⟩ = some (.string ⟨#[100, 100]⟩) := ht1 12 (by omega)
  have n13 : w1.cell? ⟨1, 13, none⟩ = some (.string ⟨#[99, 108, 105, 109, 97, 99, 117, 115]⟩) := ht1 13 (by omega)
  clear ht1
  have i0 := neu_0
  have i1 := neu_1
  have i2 := neu_2
  have i3 := neu_3
  have i4 := neu_4
  have i5 := neu_5
  have i6 := neu_6
  go_wp2
  go_rounds 8
  go_ret
  exact ⟨rfl, bl_step hb1 (by (repeat' (first | (with_reducible exact Below.refl _ _) | (with_reducible refine Below.alloc ?_ ?_ _) | (with_reducible refine Below.drew ?_) | (with_reducible refine Below.setCell ?_ ?_ _) | (with_reducible refine bl_step ?_ (by assumption)) | go_size)))⟩
end Go.Proofs.YtkjimilapgkajabDoor
