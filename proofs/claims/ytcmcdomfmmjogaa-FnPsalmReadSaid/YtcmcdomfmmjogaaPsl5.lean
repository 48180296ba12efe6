/-
  Two melodies compared, in the model and in the library's function.
-/
import Derived.Test.YtcmcdomfmmjogaaPsa
import Derived.Deep.RegionHeld3
import Derived.Deep.RegionWith
import Derived.Shelf.RegionOpen
namespace Go.Proofs.Ytcmcdomfmmjogaa
open Go.RowKit
set_option maxRecDepth 100000
set_option linter.unusedVariables false

theorem teq_at {xs ys : List (Int × Bool)} {k : Nat} (h : xs[k]? ≠ ys[k]?) : decide (xs = ys) = false := decide_eq_false (fun e => h (by rw [e]))
theorem teq_len {xs ys : List (Int × Bool)} (h : xs.length ≠ ys.length) : decide (xs = ys) = false := decide_eq_false (fun e => h (by rw [e]))
theorem teq_all {xs ys : List (Int × Bool)} (hl : xs.length = ys.length) (h : ∀ i, i < xs.length → xs[i]? = ys[i]?) : decide (xs = ys) = true := decide_eq_true (List.ext_getElem? fun i => by
  rcases Nat.lt_or_ge i xs.length with hi | hi
  · exact h i hi
  · rw [List.getElem?_eq_none hi, List.getElem?_eq_none (by omega)])
theorem bl_drewT {B : Nat} {a w : World} (h : Below B a w) (n : Nat) : Below B a (w.drewN n) := ⟨h.os, h.tape, h.output, h.size, h.block⟩

set_option maxHeartbeats 2000000 in
theorem l4Equal_any (v u : Value) (xs ys : List (Int × Bool)) (w : World) (h : LV w v xs) (k : LV w u ys) :
    Calls Try.prog 68 #[v, u] w fun e w' => e = .returned (.bool (decide (xs = ys))) ∧ Below w.heap.size w w' := by
  obtain ⟨a, c, rfl, hc1, hc2⟩ := h.sl
  obtain ⟨a', c', rfl, hc1', hc2'⟩ := k.sl
  by_cases hl : xs.length = ys.length
  case neg =>
    rw [teq_len hl]
    have hl' : ((xs.length : Int) != (ys.length : Int)) = true := by simp; omega
    clear h k hl
    go_enter Try.func68, Try.ntmps68
    go_wp2
    go_ret
    exact ⟨rfl, Below.refl _ _⟩
  unfold maxLen at hc2 hc2'
  have HC := Lib.hid (fun i s b (hx : xs[i]? = some (s, b)) => h.cells hx)
  have HC' := Lib.hid (fun i s b (hx : ys[i]? = some (s, b)) => k.cells hx)
  have HL := Lib.hid hl
  have hl' : ((xs.length : Int) != (ys.length : Int)) = false := by simp; omega
  clear h k hl
  go_enter Try.func68, Try.ntmps68
  go_wp2
  go_loopw [5] (fun i wr => ∃ k : Nat, k ≤ xs.length ∧ i = .int .i64 k ∧ (∀ i, i < k → xs[i]? = ys[i]?) ∧ Below w.heap.size w wr) (fun i _ => xs.length - (intOf i).toNat)
  case atStart => exact ⟨0, Nat.zero_le _, rfl, fun i hi => by omega, Below.refl _ _⟩
  case round =>
    obtain ⟨k, hk, rfl, hq, hb⟩ := hrel
    have HQ := Lib.hid hq
    clear hq
    by_cases hlt : k < xs.length
    · have hlt2 : k < ys.length := by have := HL.out; omega
      obtain ⟨⟨s, b⟩, hx⟩ : ∃ q, xs[k]? = some q := ⟨xs[k], List.getElem?_eq_getElem hlt⟩
      obtain ⟨⟨s', b'⟩, hy⟩ : ∃ q, ys[k]? = some q := ⟨ys[k], List.getElem?_eq_getElem hlt2⟩
      obtain ⟨A, rfl, hA, e1, e2⟩ := HC.out k s b hx
      obtain ⟨A', rfl, hA', f1, f2⟩ := HC'.out k s' b' hy
      have e1 := (hb.cell (p := ⟨A, k * 2, none⟩) hA).trans e1
      have e2 := (hb.cell (p := ⟨A, k * 2 + 1, none⟩) hA).trans e2
      have f1 := (hb.cell (p := ⟨A', k * 2, none⟩) hA').trans f1
      have f2 := (hb.cell (p := ⟨A', k * 2 + 1, none⟩) hA').trans f2
      have hk0 : (0 : Int) ≤ (k : Int) := by omega
      have hk1 : (k : Int) < (xs.length : Int) := by omega
      have hk2 : (k : Int) < (ys.length : Int) := by omega
      by_cases he : (s, b) = (s', b')
      · obtain ⟨rfl, rfl⟩ := Prod.mk.inj he
        have HX : Hid (∀ i, i < k + 1 → xs[i]? = ys[i]?) := fun i hi => by
          by_cases e : i = k
          · subst e; rw [hx, hy]
          · exact HQ.out i (by omega)
        clear hx hy he
        go_wp2
        go_quiet (fail)
        go_wp2
        go_roundw
        case rel => exact ⟨k + 1, by omega, by go_num, HX.out, bl_drewT hb _⟩
        case measure => simp [intOf]; omega
      · have HX := Lib.hid (teq_at (xs := xs) (ys := ys) (k := k) (by rw [hx, hy]; intro e; exact he (Option.some.inj e)))
        clear hx hy
        by_cases hs : s = s'
        · subst hs
          have hbb : b' = !b := by cases b <;> cases b' <;> simp_all
          subst hbb
          clear he
          cases b
          all_goals
            go_wp2
            go_quiet (fail)
            go_wp2
            go_ret
            exact ⟨by rw [HX.out]; rfl, bl_drewT hb _⟩
        · have hs1 : (s == s') = false := by simpa using hs
          have hs2 : (s != s') = true := by simpa using hs
          have hs3 : decide (s = s') = false := decide_eq_false hs
          clear he
          go_wp2
          go_quiet (fail)
          go_wp2
          go_ret
          exact ⟨by rw [HX.out]; rfl, bl_drewT hb _⟩
    · have hk0 : k = xs.length := by omega
      subst hk0
      have HE := Lib.hid (teq_all HL.out HQ.out)
      go_wp2
      go_ret
      exact ⟨by rw [HE.out]; rfl, hb⟩

set_option maxHeartbeats 2000000 in
theorem slEqualT_any (v u : Value) (xs ys : List (Int × Bool)) (w : World) (h : LV w v xs) (k : LV w u ys) :
    Calls Try.prog 66 #[v, u] w fun e w' => e = .returned (.bool (decide (xs = ys))) ∧ Below w.heap.size w w' := by
  obtain ⟨a, c, rfl, hc1, hc2⟩ := h.sl
  obtain ⟨a', c', rfl, hc1', hc2'⟩ := k.sl
  by_cases hl : xs.length = ys.length
  case neg =>
    rw [teq_len hl]
    have hl' : ((xs.length : Int) != (ys.length : Int)) = true := by simp; omega
    clear h k hl
    go_enter Try.func66, Try.ntmps66
    go_wp2
    go_ret
    exact ⟨rfl, Below.refl _ _⟩
  unfold maxLen at hc2 hc2'
  have HC := Lib.hid (fun i s b (hx : xs[i]? = some (s, b)) => h.cells hx)
  have HC' := Lib.hid (fun i s b (hx : ys[i]? = some (s, b)) => k.cells hx)
  have HL := Lib.hid hl
  have hl' : ((xs.length : Int) != (ys.length : Int)) = false := by simp; omega
  clear h k hl
  go_enter Try.func66, Try.ntmps66
  go_wp2
  go_loopw [13] (fun i wr => ∃ k : Nat, k ≤ xs.length ∧ i = .int .i64 k ∧ (∀ i, i < k → xs[i]? = ys[i]?) ∧ Below w.heap.size w wr) (fun i _ => xs.length - (intOf i).toNat)
  case atStart => exact ⟨0, Nat.zero_le _, rfl, fun i hi => by omega, Below.refl _ _⟩
  case round =>
    obtain ⟨k, hk, rfl, hq, hb⟩ := hrel
    have HQ := Lib.hid hq
    clear hq
    by_cases hlt : k < xs.length
    · have hlt2 : k < ys.length := by have := HL.out; omega
      obtain ⟨⟨s, b⟩, hx⟩ : ∃ q, xs[k]? = some q := ⟨xs[k], List.getElem?_eq_getElem hlt⟩
      obtain ⟨⟨s', b'⟩, hy⟩ : ∃ q, ys[k]? = some q := ⟨ys[k], List.getElem?_eq_getElem hlt2⟩
      obtain ⟨A, rfl, hA, e1, e2⟩ := HC.out k s b hx
      obtain ⟨A', rfl, hA', f1, f2⟩ := HC'.out k s' b' hy
      have e1 := (hb.cell (p := ⟨A, k * 2, none⟩) hA).trans e1
      have e2 := (hb.cell (p := ⟨A, k * 2 + 1, none⟩) hA).trans e2
      have f1 := (hb.cell (p := ⟨A', k * 2, none⟩) hA').trans f1
      have f2 := (hb.cell (p := ⟨A', k * 2 + 1, none⟩) hA').trans f2
      have hk0 : (0 : Int) ≤ (k : Int) := by omega
      have hk1 : (k : Int) < (xs.length : Int) := by omega
      have hk2 : (k : Int) < (ys.length : Int) := by omega
      by_cases he : (s, b) = (s', b')
      · obtain ⟨rfl, rfl⟩ := Prod.mk.inj he
        have HX : Hid (∀ i, i < k + 1 → xs[i]? = ys[i]?) := fun i hi => by
          by_cases e : i = k
          · subst e; rw [hx, hy]
          · exact HQ.out i (by omega)
        clear hx hy he
        go_wp2
        go_quiet (fail)
        go_wp2
        go_roundw
        case rel => exact ⟨k + 1, by omega, by go_num, HX.out, bl_drewT hb _⟩
        case measure => simp [intOf]; omega
      · have HX := Lib.hid (teq_at (xs := xs) (ys := ys) (k := k) (by rw [hx, hy]; intro e; exact he (Option.some.inj e)))
        clear hx hy
        by_cases hs : s = s'
        · subst hs
          have hbb : b' = !b := by cases b <;> cases b' <;> simp_all
          subst hbb
          clear he
          cases b
          all_goals
            go_wp2
            go_quiet (fail)
            go_wp2
            go_ret
            exact ⟨by rw [HX.out]; rfl, bl_drewT hb _⟩
        · have hs1 : (s == s') = false := by simpa using hs
          have hs2 : (s != s') = true := by simpa using hs
          have hs3 : decide (s = s') = false := decide_eq_false hs
          clear he
          go_wp2
          go_quiet (fail)
          go_wp2
          go_ret
          exact ⟨by rw [HX.out]; rfl, bl_drewT hb _⟩
    · have hk0 : k = xs.length := by omega
      subst hk0
      have HE := Lib.hid (teq_all HL.out HQ.out)
      go_wp2
      go_ret
      exact ⟨by rw [HE.out]; rfl, hb⟩
end Go.Proofs.Ytcmcdomfmmjogaa
