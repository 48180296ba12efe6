/-
  The draw of a rhythmic mode and a number.
-/
import Derived.Test.YtaelkgpebhdlhaaGreatDoorDraw2
import Derived.Test.YtaelkgpebhdlhaaGreatDoorCode
namespace Go.Proofs.YtaelkgpebhdlhaaGreatDoor
open Go.RowKit
set_option maxRecDepth 100000
set_option linter.unusedVariables false

/-- a rhythmic mode of a draw, and the reader -/
def FtPicked (B A q : Nat) (w : World) (e : Ending) (w' : World) : Prop :=
  ∃ k : Int, e = .returned (.int .i64 k) ∧ -1 ≤ k ∧ k ≤ 7 ∧ Rd w' B A (q + 2) ∧ w.grownBy w' (some B)

set_option maxHeartbeats 4000000 in
theorem l92Foot_any (B A q : Nat) (hq : q ≤ 900000) (w : World) (h : Rd w B A q) :
    Calls Tryz.prog 78 #[.pointer (some ⟨B, 0, none⟩)] w (FtPicked B A q w) := by
  have hB := h.lt
  have hA := h.ltA
  go_enter Tryz.func78, Tryz.ntmps78
  go_wp2_with (fail)
  (go_at_call 37; refine (pick_any 12 B A q (by omega) (by omega) (by omega) _ h).mono ?_; rintro e w1 ⟨k1, rfl, h10, h11, hr1, hb1⟩)
  have hB1 := hr1.lt
  have hA1 := hr1.ltA
  by_cases g : k1 = 0
  · subst g
    go_wp2_with (fail)
    (go_at_call 37; refine (pick_any 3 B A (q + 1) (by omega) (by omega) (by omega) _ (hr1.alloc _)).mono ?_; rintro e w2 ⟨k2, rfl, h20, h21, hr2, hb2⟩)
    have hwB : w1.heap.size ≠ B := by omega
    have hn2 := (hb2.block w1.heap.size (by simp) (by simpa using hwB)).trans (heap_alloc_new w1 _)
    have e4 : w2.cell? ⟨w1.heap.size, k2.toNat, none⟩ = some (.int .i64 (sel3 0 7 (-1) k2)) := by simp [World.cell?, hn2, sel3_arr h20 h21]
    have hbd := sel3_bd (k := k2) (x := 0) (y := 7) (z := -1) (-1) 7 (by omega) (by omega) (by omega)
    have HG := Lib.hid (gb_step (gb_alloc hb1 (.cells #[.int .i64 0, .int .i64 7, .int .i64 (-1)] 3)) hb2)
    clear hn2
    go_wp2
    go_ret
    exact ⟨sel3 0 7 (-1) k2, rfl, hbd.1, hbd.2, hr2, HG.out⟩
  · have e1 : (k1 == 0) = false := by simpa using g
    clear g
    go_wp2_with (fail)
    (go_at_call 37; refine (pick_any 6 B A (q + 1) (by omega) (by omega) (by omega) _ hr1).mono ?_; rintro e w2 ⟨k2, rfl, h20, h21, hr2, hb2⟩)
    go_wp2
    go_ret
    exact ⟨_, rfl, by omega, by omega, hr2, by (repeat' (first | (with_reducible exact gb_refl _ _) | (with_reducible refine gb_alloc ?_ _) | (with_reducible refine gb_drew ?_) | (with_reducible refine gb_set ?_ ?_ _) | (with_reducible refine gb_step ?_ (by assumption)) | (with_reducible refine gb_bl ?_ (by assumption)) | (left; rfl) | (right; go_size) | go_size))⟩

def DrewOrdo (w : World) (e : Ending) (w' : World) : Prop :=
  ∃ (m : Int) (n : Nat), e = .returned (.tuple #[.int .i64 m, .int .i64 (n : Int)]) ∧ -1 ≤ m ∧ m ≤ 7 ∧ n ≤ 13 ∧ Below w.heap.size w w'
set_option maxHeartbeats 4000000 in
theorem drawRhythmOrdo_any (a : Option Addr) (n cap : Nat) (w : World) (h : CodeAt w a n) (hc : n ≤ cap) (hcap : cap ≤ maxLen) :
    Calls Tryz.prog 33 #[.slice a n cap] w (DrewOrdo w) := by
  go_enter Tryz.func33, Tryz.ntmps33
  go_wp2_with (fail)
  (go_at_call 36; refine (open_any a n cap _ h hc hcap).mono ?_; rintro e w1 ⟨A, rfl, hr1, hb1, hs1⟩)
  go_wp2_with (fail)
  (go_at_call 78; refine (l92Foot_any w.heap.size A 0 (by omega) _ hr1).mono ?_; rintro e w2 ⟨k, rfl, h0, h9, hr2, hb2⟩)
  go_wp2_with (fail)
  (go_at_call 37; refine (pick_any 14 w.heap.size A 2 (by omega) (by omega) (by omega) _ hr2).mono ?_; rintro e w3 ⟨k2, rfl, h20, h21, hr3, hb3⟩)
  have HE := Lib.hid (below_gb (below_gb hb1 hb2 (Nat.le_refl _)) hb3 (Nat.le_refl _))
  obtain ⟨kn, rfl⟩ : ∃ q : Nat, k2 = (q : Int) := ⟨k2.toNat, by omega⟩
  clear hr1 hb1 hr2 hb2 hr3 hb3
  go_wp2
  go_ret2
  exact ⟨k, kn, rfl, h0, h9, by omega, HE.out⟩
end Go.Proofs.YtaelkgpebhdlhaaGreatDoor
