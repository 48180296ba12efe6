/-
  The rhythmic modes in both programs.
-/
import Derived.Test.YtaelkgpebhdlhaaGreatDoorRhm
import Derived.Test.YtaelkgpebhdlhaaGreatDoorIb
import Derived.Test.YtaelkgpebhdlhaaGreatDoorIv
namespace Go.Proofs.YtaelkgpebhdlhaaGreatDoor
open Go.RowKit
set_option maxRecDepth 100000
set_option linter.unusedVariables false

theorem l6In8 (n lo hi : Int) (w : World) : Calls Tryz.prog 74 #[.int .i64 n, .int .i64 lo, .int .i64 hi] w fun e w' => e = .returned (.bool (decide (lo ≤ n) && decide (n ≤ hi))) ∧ w = w' := by
  by_cases h : lo ≤ n
  · have e : (decide (lo ≤ n) && decide (n ≤ hi)) = decide (n ≤ hi) := by simp [h]
    rw [e]
    go_enter Tryz.func74, Tryz.ntmps74
    go_wp2
    go_ret
    exact ⟨rfl, rfl⟩
  · have e : (decide (lo ≤ n) && decide (n ≤ hi)) = false := by simp [h]
    rw [e]
    go_enter Tryz.func74, Tryz.ntmps74
    go_wp2
    go_ret
    exact ⟨rfl, rfl⟩

/-- a row that was written out -/
theorem lit_row {W : World} {lo g : Nat} {zs : List Int} {cs : Array Value} (hh : W.heap[g]? = some (.cells cs 3 (0, 0))) (hc : cs.toList = zs.map (Value.int .i64)) (hm : zs.length ≤ 100) (hlo : lo ≤ g) :
    IRow W lo W.heap.size (.slice (some ⟨g, 0, none⟩) zs.length zs.length) zs := by
  have hg : g < W.heap.size := by
    rcases Nat.lt_or_ge g W.heap.size with h | h
    · exact h
    · rw [Array.getElem?_eq_none h] at hh; cases hh
  have hs : cs.size = zs.length := by have := congrArg List.length hc; simpa using this
  refine ⟨⟨by simp, .inr ⟨g, zs.length, cs, rfl, hlo, hh, Nat.le_refl _, by unfold maxLen; omega, by omega, ?_⟩⟩, fun b hb => ?_⟩
  · rw [Nat.mul_one, hc, List.take_of_length_le (by simp)]
  · have : b = g := by simpa [Value.ownBlock] using hb.symm
    omega
theorem lit_made (w : World) (zs : List Int) (cs : Array Value) (hc : cs.toList = zs.map (Value.int .i64)) (hm : zs.length ≤ 100) :
    IbMade w zs (.returned (.slice (some ⟨w.heap.size, 0, none⟩) zs.length zs.length)) (w.alloc (.cells cs 3)) :=
  ⟨_, rfl, lit_row (heap_alloc_new w _) hc hm (Nat.le_refl _), (Below.refl _ _).alloc (Nat.le_refl _) _⟩

set_option maxHeartbeats 2000000 in
theorem rhythmFoot_any (m : Int) (w : World) : Calls Tryz.prog 79 #[.int .i64 m] w (IbMade w (foot m)) := by
  by_cases h : 1 ≤ m ∧ m ≤ 6
  case neg =>
    rw [foot_no h]
    have HN := Lib.hid (lit_made w [] #[] rfl (by simp))
    go_enter Tryz.func79, Tryz.ntmps79
    go_wp2
    go_ret
    exact HN.out
  rcases six h with rfl | rfl | rfl | rfl | rfl | rfl
  · have HN := Lib.hid (lit_made w [2, 1] #[.int .i64 2, .int .i64 1] rfl (by simp))
    go_enter Tryz.func79, Tryz.ntmps79
    go_wp2
    go_ret
    exact HN.out
  · have HN := Lib.hid (lit_made w [1, 2] #[.int .i64 1, .int .i64 2] rfl (by simp))
    go_enter Tryz.func79, Tryz.ntmps79
    go_wp2
    go_ret
    exact HN.out
  · have HN := Lib.hid (lit_made w [3, 1, 2] #[.int .i64 3, .int .i64 1, .int .i64 2] rfl (by simp))
    go_enter Tryz.func79, Tryz.ntmps79
    go_wp2
    go_ret
    exact HN.out
  · have HN := Lib.hid (lit_made w [1, 2, 3] #[.int .i64 1, .int .i64 2, .int .i64 3] rfl (by simp))
    go_enter Tryz.func79, Tryz.ntmps79
    go_wp2
    go_ret
    exact HN.out
  · have HN := Lib.hid (lit_made w [3, 3] #[.int .i64 3, .int .i64 3] rfl (by simp))
    go_enter Tryz.func79, Tryz.ntmps79
    go_wp2
    go_ret
    exact HN.out
  · have HN := Lib.hid (lit_made w [1, 1, 1] #[.int .i64 1, .int .i64 1, .int .i64 1] rfl (by simp))
    go_enter Tryz.func79, Tryz.ntmps79
    go_wp2
    go_ret
    exact HN.out

theorem alloc_old {w : World} {o x : Obj} {g : Nat} (h : w.heap[g]? = some x) : (w.alloc o).heap[g]? = some x := by
  have hg : g < w.heap.size := by
    rcases Nat.lt_or_ge g w.heap.size with h1 | h1
    · exact h1
    · rw [Array.getElem?_eq_none h1] at h; cases h
  exact (Below.heap_alloc w o g hg).trans h
theorem new_at {w : World} {o : Obj} {n : Nat} (h : w.heap.size = n) : (w.alloc o).heap[n]? = some o := by
  subst h; exact heap_alloc_new w o

set_option maxHeartbeats 4000000 in
theorem sRhythmFoot_any (m : Int) (w : World) : Calls Tryz.prog 80 #[.int .i64 m] w (IbMade w (foot m)) := by
  by_cases h : 1 ≤ m ∧ m ≤ 6
  case neg =>
    rw [foot_no h]
    have HN := Lib.hid (lit_made w [] #[] rfl (by simp))
    have HI := Lib.hid (l6In8 m 1 6)
    have e : (decide (1 ≤ m) && decide (m ≤ 6)) = false := by rw [Bool.and_eq_false_iff]; simp; omega
    rw [e] at HI
    clear e
    go_enter Tryz.func80, Tryz.ntmps80
    go_wp2_with (fail)
    (go_at_call 74; refine (HI.out _).mono ?_; rintro e w1 ⟨rfl, rfl⟩)
    go_wp2
    go_ret
    exact HN.out
  have HI := Lib.hid (l6In8 m 1 6)
  have e : (decide (1 ≤ m) && decide (m ≤ 6)) = true := by simp [h]
  rw [e] at HI
  clear e
  rcases six h with rfl | rfl | rfl | rfl | rfl | rfl
  all_goals
    go_enter Tryz.func80, Tryz.ntmps80
    go_wp2_with (fail)
    (go_at_call 74; refine (HI.out _).mono ?_; rintro e w1 ⟨rfl, rfl⟩)
    go_wp2
    go_ret
    refine ⟨_, rfl, lit_row ?_ rfl (by decide) (by omega), ?_⟩
    focus (repeat (first | (exact new_at (by simp [World.size_alloc])) | (refine alloc_old ?_)))
    focus (repeat (first | (exact Below.refl _ _) | (refine Below.alloc ?_ (by simp [World.size_alloc] <;> omega) _)))

/-- what an ordo's function answers -/
def Ordo2 (w : World) (m n : Int) (e : Ending) (w' : World) : Prop :=
  ∃ v, e = .returned (.tuple #[v, .int .i64 (oRst m n), .bool (oOk m n)]) ∧ IRow w' w.heap.size w'.heap.size v (oLst m n) ∧ Below w.heap.size w w'
theorem Ordo2.no {w w' : World} {m n : Int} (h : oOk m n = false) (hs : Below w.heap.size w w') : Ordo2 w m n (.returned (.tuple #[.slice (some ⟨w'.heap.size, 0, none⟩) 0 0, .int .i64 0, .bool false])) (w'.alloc (.cells #[] 3)) := by
  refine ⟨_, by rw [(oNo h).2, h], ?_, hs.alloc hs.size _⟩
  rw [(oNo h).1]
  exact lit_row (zs := []) (heap_alloc_new w' _) rfl (by simp) hs.size
theorem Ordo2.yes {w w1 wr : World} {m n : Int} {v : Value} {k : Nat} (h : oOk m n = true) (hs : Below w.heap.size w w1) (hi : IbInv w1 wr v (cyc (foot m) k)) (hk : (k : Int) = n) :
    Ordo2 w m n (.returned (.tuple #[v, .int .i64 (rst (foot m) k), .bool true])) wr := by
  have e : n.toNat = k := by omega
  refine ⟨v, by rw [(oYes h).2, h, e], ?_, bl_step hs hi.bl⟩
  rw [(oYes h).1, e]
  refine ⟨?_, fun g hg => (own_ltb hi.own hg).2⟩
  obtain ⟨hl, h0 | ⟨g, cap, cur, hv, hg, hr⟩⟩ := hi.own
  · exact ⟨hl, .inl h0⟩
  · exact ⟨hl, .inr ⟨g, cap, cur, hv, Nat.le_trans hs.size hg, hr⟩⟩
/-- a cell of a foot, wherever the program has come to -/
theorem foot_cell {w1 wr : World} {lo hi : Nat} {vf : Value} {f : List Int} (h : IRow w1 lo hi vf f) (hh : hi ≤ w1.heap.size) (hb : Below w1.heap.size w1 wr) (j : Nat) (hj : j < f.length) :
    ∃ g cap, vf = .slice (some ⟨g, 0, none⟩) f.length cap ∧ wr.cell? ⟨g, j, none⟩ = some (.int .i64 (f.getD j 0)) := by
  rcases (h.below hb (.inr (Nat.le_refl _))).form with ⟨rfl, rfl⟩ | ⟨g, cap, cur, rfl, hg, hg2, hgs, hcap, hmax, hh, hsz, htk, hc, hfz⟩
  · simp at hj
  · exact ⟨g, cap, rfl, hc j hj⟩
end Go.Proofs.YtaelkgpebhdlhaaGreatDoor
