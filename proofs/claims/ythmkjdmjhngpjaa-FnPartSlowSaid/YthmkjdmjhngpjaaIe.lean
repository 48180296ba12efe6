/-
  Two lists of integers compared, wherever they begin in their blocks, in the model and in the library's function.
-/
import Derived.Test.YthmkjdmjhngpjaaIv
import Derived.Test.YthmkjdmjhngpjaaEqI
namespace Go.Proofs.Ythmkjdmjhngpjaa
open Go.RowKit
set_option maxRecDepth 100000
set_option linter.unusedVariables false

set_option maxHeartbeats 2000000 in
theorem l2SameV_any (v u : Value) (xs ys : List Int) (w : World) (h : IV w v xs) (k : IV w u ys) :
    Calls Try.prog 42 #[v, u] w fun e w' => e = .returned (.bool (ieq xs ys)) ∧ Below w.heap.size w w' := by
  obtain ⟨a, c, rfl, ha, hc1, hc2⟩ := h
  obtain ⟨a', c', rfl, ha', hc1', hc2'⟩ := k
  by_cases hl : xs.length = ys.length
  case neg =>
    rw [ieq_len hl]
    have hl' : ((xs.length : Int) != (ys.length : Int)) = true := by simp; omega
    clear ha ha' hl
    go_enter Try.func42, Try.ntmps42
    go_wp2
    go_ret
    exact ⟨rfl, Below.refl _ _⟩
  unfold maxLen at hc2 hc2'
  have HC := Lib.hid ha
  have HC' := Lib.hid ha'
  have HL := Lib.hid hl
  have hl' : ((xs.length : Int) != (ys.length : Int)) = false := by simp; omega
  clear ha ha' hl
  go_enter Try.func42, Try.ntmps42
  go_wp2
  go_loopw [5] (fun i wr => ∃ k : Nat, k ≤ xs.length ∧ i = .int .i64 k ∧ (∀ i, i < k → xs.getD i 0 = ys.getD i 0) ∧ Below w.heap.size w wr) (fun i _ => xs.length - (intOf i).toNat)
  case atStart => exact ⟨0, Nat.zero_le _, rfl, fun i hi => by omega, Below.refl _ _⟩
  case round =>
    obtain ⟨k, hk, rfl, hq, hb⟩ := hrel
    have HQ := Lib.hid hq
    clear hq
    by_cases hlt : k < xs.length
    · have hlt2 : k < ys.length := by have := HL.out; omega
      rcases HC.out with h | ⟨A, off, rfl, hA, hc⟩
      · subst h; simp at hlt
      rcases HC'.out with h | ⟨A', off', rfl, hA', hc'⟩
      · subst h; simp at hlt2
      have e1 := (hb.cell (p := ⟨A, off + k, none⟩) hA).trans (hc k hlt)
      have e2 := (hb.cell (p := ⟨A', off' + k, none⟩) hA').trans (hc' k hlt2)
      have hk0 : (0 : Int) ≤ (k : Int) := by omega
      have hk1 : (k : Int) < (xs.length : Int) := by omega
      have hk2 : (k : Int) < (ys.length : Int) := by omega
      clear hc hc'
      by_cases he : xs.getD k 0 = ys.getD k 0
      · have HX : Hid (∀ i, i < k + 1 → xs.getD i 0 = ys.getD i 0) := fun i hi => by
          by_cases e : i = k
          · subst e; exact he
          · exact HQ.out i (by omega)
        have hd : (xs.getD k 0 != ys.getD k 0) = false := by simpa using he
        clear he
        generalize xs.getD k 0 = x at e1 hd
        generalize ys.getD k 0 = y at e2 hd
        go_wp2
        go_quiet (fail)
        go_wp2
        go_roundw
        case rel => exact ⟨k + 1, by omega, by go_num, HX.out, bl_drewN7 hb _⟩
        case measure => simp [intOf]; omega
      · have HX := Lib.hid (ieq_at he)
        have hd : (xs.getD k 0 != ys.getD k 0) = true := by simpa using he
        clear he
        generalize xs.getD k 0 = x at e1 hd
        generalize ys.getD k 0 = y at e2 hd
        go_wp2
        go_quiet (fail)
        go_wp2
        go_ret
        exact ⟨by rw [HX.out]; rfl, bl_drewN7 hb _⟩
    · have hk0 : k = xs.length := by omega
      subst hk0
      have HE := Lib.hid (ieq_all HL.out HQ.out)
      go_wp2
      go_ret
      exact ⟨by rw [HE.out]; rfl, hb⟩

set_option maxHeartbeats 2000000 in
theorem slEqualV_any (v u : Value) (xs ys : List Int) (w : World) (h : IV w v xs) (k : IV w u ys) :
    Calls Try.prog 41 #[v, u] w fun e w' => e = .returned (.bool (ieq xs ys)) ∧ Below w.heap.size w w' := by
  obtain ⟨a, c, rfl, ha, hc1, hc2⟩ := h
  obtain ⟨a', c', rfl, ha', hc1', hc2'⟩ := k
  by_cases hl : xs.length = ys.length
  case neg =>
    rw [ieq_len hl]
    have hl' : ((xs.length : Int) != (ys.length : Int)) = true := by simp; omega
    clear ha ha' hl
    go_enter Try.func41, Try.ntmps41
    go_wp2
    go_ret
    exact ⟨rfl, Below.refl _ _⟩
  unfold maxLen at hc2 hc2'
  have HC := Lib.hid ha
  have HC' := Lib.hid ha'
  have HL := Lib.hid hl
  have hl' : ((xs.length : Int) != (ys.length : Int)) = false := by simp; omega
  clear ha ha' hl
  go_enter Try.func41, Try.ntmps41
  go_wp2
  go_loopw [13] (fun i wr => ∃ k : Nat, k ≤ xs.length ∧ i = .int .i64 k ∧ (∀ i, i < k → xs.getD i 0 = ys.getD i 0) ∧ Below w.heap.size w wr) (fun i _ => xs.length - (intOf i).toNat)
  case atStart => exact ⟨0, Nat.zero_le _, rfl, fun i hi => by omega, Below.refl _ _⟩
  case round =>
    obtain ⟨k, hk, rfl, hq, hb⟩ := hrel
    have HQ := Lib.hid hq
    clear hq
    by_cases hlt : k < xs.length
    · have hlt2 : k < ys.length := by have := HL.out; omega
      rcases HC.out with h | ⟨A, off, rfl, hA, hc⟩
      · subst h; simp at hlt
      rcases HC'.out with h | ⟨A', off', rfl, hA', hc'⟩
      · subst h; simp at hlt2
      have e1 := (hb.cell (p := ⟨A, off + k, none⟩) hA).trans (hc k hlt)
      have e2 := (hb.cell (p := ⟨A', off' + k, none⟩) hA').trans (hc' k hlt2)
      have hk0 : (0 : Int) ≤ (k : Int) := by omega
      have hk1 : (k : Int) < (xs.length : Int) := by omega
      have hk2 : (k : Int) < (ys.length : Int) := by omega
      clear hc hc'
      by_cases he : xs.getD k 0 = ys.getD k 0
      · have HX : Hid (∀ i, i < k + 1 → xs.getD i 0 = ys.getD i 0) := fun i hi => by
          by_cases e : i = k
          · subst e; exact he
          · exact HQ.out i (by omega)
        have hd : (xs.getD k 0 != ys.getD k 0) = false := by simpa using he
        clear he
        generalize xs.getD k 0 = x at e1 hd
        generalize ys.getD k 0 = y at e2 hd
        go_wp2
        go_quiet (fail)
        go_wp2
        go_roundw
        case rel => exact ⟨k + 1, by omega, by go_num, HX.out, bl_drewN7 hb _⟩
        case measure => simp [intOf]; omega
      · have HX := Lib.hid (ieq_at he)
        have hd : (xs.getD k 0 != ys.getD k 0) = true := by simpa using he
        clear he
        generalize xs.getD k 0 = x at e1 hd
        generalize ys.getD k 0 = y at e2 hd
        go_wp2
        go_quiet (fail)
        go_wp2
        go_ret
        exact ⟨by rw [HX.out]; rfl, bl_drewN7 hb _⟩
    · have hk0 : k = xs.length := by omega
      subst hk0
      have HE := Lib.hid (ieq_all HL.out HQ.out)
      go_wp2
      go_ret
      exact ⟨by rw [HE.out]; rfl, hb⟩

end Go.Proofs.Ythmkjdmjhngpjaa
