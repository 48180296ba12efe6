/-
  The promises' helpers on lists of integers, wherever they begin.
-/
import Derived.Test.YthmkjdmjhngpjaaIv
import Derived.Test.YthmkjdmjhngpjaaRhm
import Derived.IntWalk
import Derived.BigQuiet
namespace Go.Proofs.Ythmkjdmjhngpjaa
open Go.RowKit
set_option maxRecDepth 100000
set_option linter.unusedVariables false

set_option maxHeartbeats 1000000 in
theorem sameIntsV_yes (v u : Value) (xs : List Int) (w : World) (h : IV w v xs) (k : IV w u xs) :
    Calls Try.prog 13 #[v, u] w fun e w' => e = .returned (.bool true) ∧ Below w.heap.size w w' := by
  obtain ⟨a, c, rfl, ha, hc1, hc2⟩ := h
  obtain ⟨a', c', rfl, ha', hc1', hc2'⟩ := k
  unfold maxLen at hc2 hc2'
  have hlen : xs.length ≤ 9223372036854775807 := by omega
  have HA := Lib.hid ha
  have HA' := Lib.hid ha'
  clear ha ha'
  go_enter Try.func13, Try.ntmps13
  go_wp2
  go_loopw [5] (fun i wr => ∃ k : Nat, k ≤ xs.length ∧ i = .int .i64 k ∧ Below w.heap.size w wr) (fun i _ => xs.length - (intOf i).toNat)
  case atStart => exact ⟨0, Nat.zero_le _, rfl, Below.refl _ _⟩
  case round =>
    obtain ⟨k, hk, rfl, hb⟩ := hrel
    by_cases hlt : k < xs.length
    · have hne : xs ≠ [] := by rintro rfl; simp at hlt
      rcases HA.out with h | ⟨A, off, rfl, hA, hc⟩
      · exact absurd h hne
      rcases HA'.out with h | ⟨A', off', rfl, hA', hc'⟩
      · exact absurd h hne
      have e1 : wr.cell? ⟨A, off + k, none⟩ = some (.int .i64 (xs.getD k 0)) := (hb.cell (p := ⟨A, off + k, none⟩) hA).trans (hc k hlt)
      have e2 : wr.cell? ⟨A', off' + k, none⟩ = some (.int .i64 (xs.getD k 0)) := (hb.cell (p := ⟨A', off' + k, none⟩) hA').trans (hc' k hlt)
      have hk0 : (0 : Int) ≤ (k : Int) := by omega
      have hk1 : (k : Int) < (xs.length : Int) := by omega
      clear hc hc' hne
      generalize xs.getD k 0 = z at e1 e2
      go_wp2
      go_quiet (fail)
      go_wp2
      go_roundw
      case rel => exact ⟨k + 1, by omega, by go_num, ⟨hb.os, hb.tape, hb.output, hb.size, hb.block⟩⟩
      case measure => simp [intOf]; omega
    · go_wp2
      go_ret
      exact ⟨rfl, hb⟩

set_option maxHeartbeats 4000000 in
theorem sumOfV_any (v : Value) (xs : List Int) (w : World) (h : IV w v xs) (hb : ∀ z ∈ xs, 0 ≤ z ∧ z ≤ 3) (hl : xs.length ≤ 100) :
    Calls Try.prog 14 #[v] w fun e w' => e = .returned (.int .i64 (smL xs)) ∧ w = w' := by
  obtain ⟨a, c, rfl, ha, hc1, hc2⟩ := h
  unfold maxLen at hc2
  have HA := Lib.hid ha
  have HB := Lib.hid (fun k => smL_in (xs := xs.take k) (a := 3) fun z hz => hb z (List.mem_of_mem_take hz))
  have HC := Lib.hid hb
  clear ha hb
  go_enter Try.func14, Try.ntmps14
  go_wp2
  go_loop [3, 4] (fun r i => ∃ k : Nat, k ≤ xs.length ∧ i = .int .i64 (k : Int) ∧ r = .int .i64 (smL (xs.take k))) (fun _ i => xs.length - (intOf i).toNat)
  case atStart => exact ⟨0, by omega, rfl, rfl⟩
  case round =>
    obtain ⟨k, hk, rfl, rfl⟩ := hrel
    by_cases hlt : k < xs.length
    · rcases HA.out with h0 | ⟨A, off, rfl, hA, hc⟩
      · subst h0; simp at hlt
      have e1 := hc k hlt
      have HX := Lib.hid (smL_take hlt)
      have h1 := HB.out k
      have h2 := HC.out (xs.getD k 0) (by rw [List.getD_eq_getElem?_getD, List.getElem?_eq_getElem hlt]; exact List.getElem_mem hlt)
      have h3 : (xs.take k).length ≤ 100 := by simp; omega
      generalize xs.getD k 0 = z at e1 HX h2
      generalize smL (xs.take k) = s at h1 HX
      have wz : IntKind.i64.wrap (s + z) = s + z := IntWalk.i64_in _ (by omega)
      clear hc
      go_wp2
      go_round
      case rel => exact ⟨k + 1, by omega, by go_num, by rw [HX.out]⟩
      case measure => simp [intOf]; omega
    · have hkn : k = xs.length := by omega
      subst hkn
      rw [List.take_length]
      go_wp2
      go_ret
      exact ⟨rfl, rfl⟩
end Go.Proofs.Ythmkjdmjhngpjaa
