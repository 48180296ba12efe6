/-
  The promises' helpers on lists of integers, wherever they begin.
-/
import Derived.Test.YtaelkgpebhdlhaaGreatDoorIv
import Derived.Test.YtaelkgpebhdlhaaGreatDoorRhm
import Derived.IntWalk
import Derived.BigQuiet
namespace Go.Proofs.YtaelkgpebhdlhaaGreatDoor
open Go.RowKit
set_option maxRecDepth 100000
set_option linter.unusedVariables false

set_option maxHeartbeats 1000000 in
theorem sameIntsV_yes (v u : Value) (xs : List Int) (w : World) (h : IV w v xs) (k : IV w u xs) :
    Calls Tryz.prog 19 #[v, u] w fun e w' => e = .returned (.bool true) ∧ Below w.heap.size w w' := by
  obtain ⟨a, c, rfl, ha, hc1, hc2⟩ := h
  obtain ⟨a', c', rfl, ha', hc1', hc2'⟩ := k
  unfold maxLen at hc2 hc2'
  have hlen : xs.length ≤ 9223372036854775807 := by omega
  have HA := Lib.hid ha
  have HA' := Lib.hid ha'
  clear ha ha'
  go_enter Tryz.func19, Tryz.ntmps19
  go_wp2
  go_loopw [5] (fun i wr => ∃ k : Nat, k ≤ xs.length ∧ i = .int .i64 k ∧ Below w.heap.size w wr) (fun i _ => xs.length - (intOf i).toNat)
  case atStart => exact ⟨0, Nat.zero_le _, rfl, Below.refl _ _⟩
  case round =>
    obtain ⟨k, hk, rfl, hb⟩ := hrel
    by_cases hlt : k < xs.length
    · have hne : xs ≠ [] := by rintro rfl; simp at hlt
      rcases HA.out with h | ⟨A, off, rfl, hA, hc⟩
      · exact absurd h hne
      rcases HA'.out with h | ⟨A', off', rfl, hA', hc'⟩
      · exact absurd h hne
      have e1 : wr.cell? ⟨A, off + k, none⟩ = some (.int .i64 (xs.getD k 0)) := (hb.cell (p := ⟨A, off + k, none⟩) hA).trans (hc k hlt)
      have e2 : wr.cell? ⟨A', off' + k, none⟩ = some (.int .i64 (xs.getD k 0)) := (hb.cell (p := ⟨A', off' + k, none⟩) hA').trans (hc' k hlt)
      have hk0 : (0 : Int) ≤ (k : Int) := by omega
      have hk1 : (k : Int) < (xs.length : Int) := by omega
      clear hc hc' hne
      generalize xs.getD k 0 = z at e1 e2
      go_wp2
      go_quiet (fail)
      go_wp2
      go_roundw
      case rel => exact ⟨k + 1, by omega, by go_num, ⟨hb.os, hb.tape, hb.output, hb.size, hb.block⟩⟩
      case measure => simp [intOf]; omega
    · go_wp2
      go_ret
      exact ⟨rfl, hb⟩
end Go.Proofs.YtaelkgpebhdlhaaGreatDoor
