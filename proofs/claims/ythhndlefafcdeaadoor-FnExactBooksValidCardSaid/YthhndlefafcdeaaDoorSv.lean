/-
  Lists of texts: what a law's argument holds, what a call reads, rows of a call's own, and the exact laws' helpers on them.
-/
import Derived.Test.YthhndlefafcdeaaDoorIv
import Derived.SliceStrings
namespace Go.Proofs.YthhndlefafcdeaaDoor
open Go.RowKit Go.ChangeShapes Go.WideShapes Go.ChangeAt
set_option maxRecDepth 100000
set_option linter.unusedVariables false

/-- texts at an address -/
def ArgS (w : World) (a : Option Addr) (ss : List ByteArray) : Prop :=
  ss = [] ∨ ∃ A off, a = some ⟨A, off, none⟩ ∧ A < w.heap.size ∧ ∀ i s, ss[i]? = some s → w.cell? ⟨A, off + i, none⟩ = some (.string s)
/-- v is read as the texts ss -/
def SV (w : World) (v : Value) (ss : List ByteArray) : Prop := ∃ a c, v = .slice a ss.length c ∧ ArgS w a ss ∧ ss.length ≤ c ∧ c ≤ maxLen
theorem ArgS.below {w w' : World} {a : Option Addr} {ss : List ByteArray} (h : ArgS w a ss) (hb : Below w.heap.size w w') : ArgS w' a ss := by
  rcases h with h | ⟨A, off, ha, hA, hc⟩
  · exact .inl h
  · exact .inr ⟨A, off, ha, Nat.lt_of_lt_of_le hA hb.size, fun i s hi => (hb.cell (p := ⟨A, off + i, none⟩) hA).trans (hc i s hi)⟩
theorem SV.below {w w' : World} {v : Value} {ss : List ByteArray} (h : SV w v ss) (hb : Below w.heap.size w w') : SV w' v ss := by
  obtain ⟨a, c, e, ha, h1, h2⟩ := h
  exact ⟨a, c, e, ha.below hb, h1, h2⟩
theorem SV.len {w : World} {v : Value} {ss : List ByteArray} (h : SV w v ss) : ss.length ≤ 9223372036854775807 := by
  obtain ⟨a, c, e, ha, h1, h2⟩ := h
  unfold maxLen at h2
  omega
theorem ss_get {ss : List ByteArray} {k : Nat} (h : k < ss.length) : ∃ s, ss[k]? = some s := ⟨ss[k], List.getElem?_eq_getElem h⟩

section
variable {H : Type} {enc : TypeId × Value → H} {w : World} {base : Nat} {spare : Nat → Bool} {held : Bool}
theorem strings_in {a : Option Addr} {n c : Nat} {d : DataW H} {p : List MemPlace} (h : DataW.Trod enc Tryd.prog w base spare held 22 (.slice a n c) d p) : ∃ ss : List ByteArray, n = ss.length ∧ (ArgS w a ss ∧ ∀ s ∈ ss, s.size ≤ maxLen) ∧ n ≤ c ∧ c ≤ maxLen := by
  obtain ⟨fuel, hf⟩ := h
  rcases open_strings Tryd.underlying22 Tryd.underlying9 (by kernel_rfl) hf with ⟨hcs, _⟩ | ⟨x, l, c', ss, hcs, _, hl, hm, hz, _, hcell, hwz⟩
  · simp [Value.cells] at hcs
    obtain ⟨rfl, rfl, rfl⟩ := hcs
    exact ⟨[], rfl, ⟨.inl rfl, by simp⟩, Nat.le_refl _, Nat.zero_le _⟩
  · simp [Value.cells] at hcs
    obtain ⟨rfl, rfl, rfl⟩ := hcs
    have hlen : n ≤ ss.length := by rw [hz]; split <;> omega
    refine ⟨ss.take n, by simp; omega, ⟨?_, fun s hs => hwz s (List.mem_of_mem_take hs)⟩, hl, hm⟩
    by_cases hn : n = 0
    · subst hn; exact .inl rfl
    obtain ⟨A, off, spot⟩ := x
    have h0 := hcell 0 (by omega)
    have hspot : spot = none := by simpa [Addr.add] using World.cell?_spot h0
    subst hspot
    refine .inr ⟨A, off, rfl, ?_, fun i s hi => ?_⟩
    · exact World.block_lt_of_cell? w ⟨A, off, none⟩ (by simpa [Addr.add] using h0)
    · have hin : i < n := by
        have := (List.getElem?_eq_some_iff.1 hi).1
        simp at this
        omega
      rw [List.getElem?_take_of_lt hin] at hi
      have := hcell i (by omega)
      rw [List.getD_eq_getElem?_getD, hi, Option.getD_some, Go.WideShapes.add_plain] at this
      exact this
end

/-- how much a list of texts holds -/
def szt (ss : List ByteArray) : Nat := (ss.map fun s => s.size).sum
theorem szt_succ {ss : List ByteArray} {k : Nat} {s : ByteArray} (h : ss[k]? = some s) : szt (ss.take (k + 1)) = szt (ss.take k) + s.size := by
  unfold szt
  rw [List.take_add_one, h]
  simp
theorem sumt_take_le (l : List Nat) (k : Nat) : (l.take k).sum ≤ l.sum := by
  induction l generalizing k with
  | nil => simp
  | cons a r ih => cases k with
    | zero => simp
    | succ j => simp; exact ih j
theorem szt_take_le (ss : List ByteArray) (k : Nat) : szt (ss.take k) ≤ szt ss := by
  unfold szt
  rw [List.map_take]
  exact sumt_take_le _ _
theorem szt_get {ss : List ByteArray} {k : Nat} {s : ByteArray} (h : ss[k]? = some s) : s.size ≤ szt ss := by
  have h1 := szt_succ h
  have h2 := szt_take_le ss (k + 1)
  omega

theorem szt_mem {ss : List ByteArray} {s : ByteArray} (h : s ∈ ss) : s.size ≤ szt ss := by
  obtain ⟨k, hk⟩ := List.getElem?_of_mem h
  exact szt_get hk
theorem bl_ofN {w w' : World} (h : ∃ m, w' = w.drewN m) : Below w.heap.size w w' := by
  obtain ⟨m, rfl⟩ := h
  exact ⟨rfl, rfl, rfl, Nat.le_refl _, fun _ _ => rfl⟩

/-- what the measure says of so many -/
def stAns (n : Nat) : Int := if n ≤ 1048576 then 1048576 - (n : Int) else -1
theorem stAns_yes {n : Nat} (h : n ≤ 1048576) : stAns n = 1048576 - (n : Int) := by unfold stAns; rw [if_pos h]
theorem stAns_no {n : Nat} (h : ¬ n ≤ 1048576) : stAns n = -1 := by unfold stAns; rw [if_neg h]
set_option maxHeartbeats 4000000 in
theorem szStringS_any (a : Option Addr) (c : Nat) (ss : List ByteArray) (w : World) (h : ArgS w a ss) (hss : ∀ s ∈ ss, s.size ≤ maxLen) (hc1 : ss.length ≤ c) (hc2 : c ≤ maxLen) :
    Calls Tryd.prog 15 #[.slice a ss.length c, .int .i64 1048576] w fun e w' => e = .returned (.int .i64 (stAns (ss.length + szt ss))) ∧ Below w.heap.size w w' := by
  unfold maxLen at hc2 hss
  have hlen : ss.length ≤ 9223372036854775807 := by omega
  by_cases h0 : ss.length ≤ 1048576
  · have g0 : decide ((1048576 : Int) - (ss.length : Int) < 0) = false := by simp; omega
    have HA := Lib.hid h
    have HS := Lib.hid hss
    clear h hss
    go_enter Tryd.func15, Tryd.ntmps15
    go_wp2
    go_loopw [1, 5] (fun l i wr => ∃ k q : Nat, k ≤ ss.length ∧ i = .int .i64 k ∧ l = .int .i64 q ∧ ss.length + szt (ss.take k) + q = 1048576 ∧ Below w.heap.size w wr) (fun _ i _ => ss.length - (intOf i).toNat)
    case atStart => exact ⟨0, 1048576 - ss.length, Nat.zero_le _, rfl, by go_num, by simp [szt]; omega, by (repeat' (first | (with_reducible exact Below.refl _ _) | (with_reducible refine Below.alloc ?_ ?_ _) | (with_reducible refine Below.drew ?_) | (with_reducible refine Below.setCell ?_ ?_ _) | (with_reducible refine bl_step ?_ (by assumption)) | go_size))⟩
    case round =>
      obtain ⟨k, q, hk, rfl, rfl, hq, hb⟩ := hrel
      by_cases hlt : k < ss.length
      · obtain ⟨s, hx⟩ := ss_get hlt
        have hne : ss ≠ [] := by rintro rfl; simp at hlt
        rcases HA.out with h | ⟨A, off, rfl, hA, hc⟩
        · exact absurd h hne
        have e1 := (hb.cell (p := ⟨A, off + k, none⟩) hA).trans (hc k _ hx)
        have hsm := HS.out s (List.mem_of_getElem? hx)
        have hk0 : (0 : Int) ≤ (k : Int) := by omega
        have hk1 : (k : Int) < (ss.length : Int) := by omega
        have h1 := szt_succ hx
        have h2 := szt_take_le ss (k + 1)
        have HX := Lib.hid hx
        clear hc hne hx
        by_cases hxq : s.size ≤ q
        · have g : decide ((q : Int) - (s.size : Int) < 0) = false := by simp; omega
          go_wp2
          go_roundw
          case rel => exact ⟨k + 1, q - s.size, by omega, by go_num, by (congr 1; omega), by omega, hb⟩
          case measure => simp [intOf]; omega
        · have g : decide ((q : Int) - (s.size : Int) < 0) = true := by simp; omega
          have hB := Lib.hid (stAns_no (n := ss.length + szt ss) (by omega))
          go_wp2
          go_ret
          exact ⟨by rw [hB.out]; rfl, hb⟩
      · have hkn : k = ss.length := by omega
        rw [hkn, List.take_length] at hq
        have hq2 : Hid ((q : Int) = (1048576 : Int) - ((ss.length + szt ss : Nat) : Int)) := (by omega : (q : Int) = (1048576 : Int) - ((ss.length + szt ss : Nat) : Int))
        have hE := Lib.hid (stAns_yes (n := ss.length + szt ss) (by omega))
        clear hq
        subst hkn
        go_wp2
        go_ret
        exact ⟨by rw [hE.out, ← hq2.out]; rfl, hb⟩
  · have g0 : decide ((1048576 : Int) - (ss.length : Int) < 0) = true := by simp; omega
    have hB := Lib.hid (stAns_no (n := ss.length + szt ss) (by omega))
    clear h hss
    go_enter Tryd.func15, Tryd.ntmps15
    go_wp2
    go_ret
    exact ⟨by rw [hB.out]; rfl, Below.refl _ _⟩

set_option maxHeartbeats 1000000 in
theorem eqStringV_any (v u : Value) (ss : List ByteArray) (w : World) (h : SV w v ss) (k : SV w u ss) :
    Calls Tryd.prog 19 #[v, u] w fun e w' => e = .returned (.bool true) ∧ Below w.heap.size w w' := by
  obtain ⟨a, c, rfl, ha, hc1, hc2⟩ := h
  obtain ⟨a', c', rfl, ha', hc1', hc2'⟩ := k
  unfold maxLen at hc2 hc2'
  have hlen : ss.length ≤ 9223372036854775807 := by omega
  have HA := Lib.hid ha
  have HA' := Lib.hid ha'
  clear ha ha'
  go_enter Tryd.func19, Tryd.ntmps19
  go_wp2
  go_loopw [5] (fun i wr => ∃ k : Nat, k ≤ ss.length ∧ i = .int .i64 k ∧ Below w.heap.size w wr) (fun i _ => ss.length - (intOf i).toNat)
  case atStart => exact ⟨0, Nat.zero_le _, rfl, Below.refl _ _⟩
  case round =>
    obtain ⟨k, hk, rfl, hb⟩ := hrel
    by_cases hlt : k < ss.length
    · have hne : ss ≠ [] := by rintro rfl; simp at hlt
      rcases HA.out with h | ⟨A, off, rfl, hA, hc⟩
      · exact absurd h hne
      rcases HA'.out with h | ⟨A', off', rfl, hA', hc'⟩
      · exact absurd h hne
      obtain ⟨s, hs⟩ := ss_get hlt
      have e1 : wr.cell? ⟨A, off + k, none⟩ = some (.string s) := (hb.cell (p := ⟨A, off + k, none⟩) hA).trans (hc k s hs)
      have e2 : wr.cell? ⟨A', off' + k, none⟩ = some (.string s) := (hb.cell (p := ⟨A', off' + k, none⟩) hA').trans (hc' k s hs)
      have hk0 : (0 : Int) ≤ (k : Int) := by omega
      have hk1 : (k : Int) < (ss.length : Int) := by omega
      clear hc hc' hne hs
      go_wp2
      go_quiet (fail)
      go_wp2
      go_roundw
      case rel => exact ⟨k + 1, by omega, by go_num, ⟨hb.os, hb.tape, hb.output, hb.size, hb.block⟩⟩
      case measure => simp [intOf]; omega
    · go_wp2
      go_ret
      exact ⟨rfl, hb⟩
end Go.Proofs.YthhndlefafcdeaaDoor
