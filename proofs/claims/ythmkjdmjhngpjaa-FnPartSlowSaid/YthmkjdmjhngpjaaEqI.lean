/-
  Two lists of integers compared, in the model and in the library's function.
-/
import Derived.Test.YthmkjdmjhngpjaaInts
namespace Go.Proofs.Ythmkjdmjhngpjaa
open Go.RowKit
set_option maxRecDepth 100000
set_option linter.unusedVariables false

theorem bl_drewN7 {B : Nat} {a w : World} (h : Below B a w) (n : Nat) : Below B a (w.drewN n) := ⟨h.os, h.tape, h.output, h.size, h.block⟩
/-- are two lists equal? -/
def ieq (xs ys : List Int) : Bool := decide (xs = ys)
theorem ieq_len {xs ys : List Int} (h : xs.length ≠ ys.length) : ieq xs ys = false := by
  unfold ieq; rw [decide_eq_false_iff_not]; intro e; exact h (by rw [e])
theorem ieq_at {xs ys : List Int} {k : Nat} (h : xs.getD k 0 ≠ ys.getD k 0) : ieq xs ys = false := by
  unfold ieq; rw [decide_eq_false_iff_not]; intro e; exact h (by rw [e])
theorem ieq_all {xs ys : List Int} (h : xs.length = ys.length) (g : ∀ i, i < xs.length → xs.getD i 0 = ys.getD i 0) : ieq xs ys = true := by
  unfold ieq
  rw [decide_eq_true_iff]
  apply List.ext_getElem h
  intro i h1 h2
  have := g i h1
  simpa [List.getD_eq_getElem?_getD, List.getElem?_eq_getElem h1, List.getElem?_eq_getElem h2] using this
theorem irow_len {w : World} {lo hi : Nat} {v : Value} {xs : List Int} (h : IRow w lo hi v xs) : ∃ a c, v = .slice a xs.length c := by
  rcases h.form with ⟨rfl, rfl⟩ | ⟨g, cap, cur, rfl, _⟩
  · exact ⟨none, 0, rfl⟩
  · exact ⟨_, _, rfl⟩

set_option maxHeartbeats 2000000 in
theorem l2Same_any (lo hi lo' hi' : Nat) (v u : Value) (xs ys : List Int) (w : World) (h : IRow w lo hi v xs) (k : IRow w lo' hi' u ys) :
    Calls Try.prog 42 #[v, u] w fun e w' => e = .returned (.bool (ieq xs ys)) ∧ Below w.heap.size w w' := by
  obtain ⟨va, vc, hv⟩ := irow_len h
  obtain ⟨ua, uc, hu⟩ := irow_len k
  by_cases hl : xs.length = ys.length
  case neg =>
    rw [ieq_len hl]
    have hl' : ((xs.length : Int) != (ys.length : Int)) = true := by simp; omega
    subst hv hu
    clear h k hl
    go_enter Try.func42, Try.ntmps42
    go_wp2
    go_ret
    exact ⟨rfl, Below.refl _ _⟩
  rcases h.form with ⟨rfl, rfl⟩ | ⟨g, cap, cur, rfl, _, _, hgs, hcap, hmax, _, _, _, hc, _⟩
  · have hy : ys = [] := List.eq_nil_of_length_eq_zero hl.symm
    subst hy
    have HE : Hid (ieq [] [] = true) := (rfl : ieq [] [] = true)
    subst hu
    clear hv h k hl
    go_enter Try.func42, Try.ntmps42
    go_wp2
    go_rounds 1
    go_ret
    exact ⟨by rw [HE.out]; rfl, Below.refl _ _⟩
  by_cases hx0 : xs.length = 0
  · have hxe : xs = [] := List.eq_nil_of_length_eq_zero hx0
    subst hxe
    have hy : ys = [] := List.eq_nil_of_length_eq_zero hl.symm
    subst hy
    have HE : Hid (ieq [] [] = true) := (rfl : ieq [] [] = true)
    subst hu
    clear hv h k hl hc
    go_enter Try.func42, Try.ntmps42
    go_wp2
    go_rounds 1
    go_ret
    exact ⟨by rw [HE.out]; rfl, Below.refl _ _⟩
  rcases k.form with ⟨rfl, rfl⟩ | ⟨g', cap', cur', rfl, _, _, hgs', hcap', hmax', _, _, _, hc', _⟩
  · exact absurd (by simpa using hl) hx0
  unfold maxLen at hmax hmax'
  have HC := Lib.hid hc
  have HC' := Lib.hid hc'
  have HL := Lib.hid hl
  have hl' : ((xs.length : Int) != (ys.length : Int)) = false := by simp; omega
  clear h k hc hc' hv hu hl hx0
  go_enter Try.func42, Try.ntmps42
  go_wp2
  go_loopw [5] (fun i wr => ∃ k : Nat, k ≤ xs.length ∧ i = .int .i64 k ∧ (∀ i, i < k → xs.getD i 0 = ys.getD i 0) ∧ Below w.heap.size w wr) (fun i _ => xs.length - (intOf i).toNat)
  case atStart => exact ⟨0, Nat.zero_le _, rfl, fun i hi => by omega, Below.refl _ _⟩
  case round =>
    obtain ⟨k, hk, rfl, hq, hb⟩ := hrel
    have HQ := Lib.hid hq
    clear hq
    by_cases hlt : k < xs.length
    · have e1 := (hb.cell (p := ⟨g, k, none⟩) hgs).trans (HC.out k hlt)
      have e2 := (hb.cell (p := ⟨g', k, none⟩) hgs').trans (HC'.out k (by have := HL.out; omega))
      have hk0 : (0 : Int) ≤ (k : Int) := by omega
      have hk1 : (k : Int) < (xs.length : Int) := by omega
      have hk2 : (k : Int) < (ys.length : Int) := by have := HL.out; omega
      by_cases he : xs.getD k 0 = ys.getD k 0
      · have HX : Hid (∀ i, i < k + 1 → xs.getD i 0 = ys.getD i 0) := fun i hi => by
          by_cases e : i = k
          · subst e; exact he
          · exact HQ.out i (by omega)
        have hd : (xs.getD k 0 != ys.getD k 0) = false := by simpa using he
        clear he
        generalize xs.getD k 0 = x at e1 hd
        generalize ys.getD k 0 = y at e2 hd
        go_wp2
        go_quiet (fail)
        go_wp2
        go_roundw
        case rel => exact ⟨k + 1, by omega, by go_num, HX.out, bl_drewN7 hb _⟩
        case measure => simp [intOf]; omega
      · have HX := Lib.hid (ieq_at he)
        have hd : (xs.getD k 0 != ys.getD k 0) = true := by simpa using he
        clear he
        generalize xs.getD k 0 = x at e1 hd
        generalize ys.getD k 0 = y at e2 hd
        go_wp2
        go_quiet (fail)
        go_wp2
        go_ret
        exact ⟨by rw [HX.out]; rfl, bl_drewN7 hb _⟩
    · have hk0 : k = xs.length := by omega
      subst hk0
      have HE := Lib.hid (ieq_all HL.out HQ.out)
      go_wp2
      go_ret
      exact ⟨by rw [HE.out]; rfl, hb⟩

set_option maxHeartbeats 2000000 in
theorem slEqual_any (lo hi lo' hi' : Nat) (v u : Value) (xs ys : List Int) (w : World) (h : IRow w lo hi v xs) (k : IRow w lo' hi' u ys) :
    Calls Try.prog 41 #[v, u] w fun e w' => e = .returned (.bool (ieq xs ys)) ∧ Below w.heap.size w w' := by
  obtain ⟨va, vc, hv⟩ := irow_len h
  obtain ⟨ua, uc, hu⟩ := irow_len k
  by_cases hl : xs.length = ys.length
  case neg =>
    rw [ieq_len hl]
    have hl' : ((xs.length : Int) != (ys.length : Int)) = true := by simp; omega
    subst hv hu
    clear h k hl
    go_enter Try.func41, Try.ntmps41
    go_wp2
    go_ret
    exact ⟨rfl, Below.refl _ _⟩
  rcases h.form with ⟨rfl, rfl⟩ | ⟨g, cap, cur, rfl, _, _, hgs, hcap, hmax, _, _, _, hc, _⟩
  · have hy : ys = [] := List.eq_nil_of_length_eq_zero hl.symm
    subst hy
    have HE : Hid (ieq [] [] = true) := (rfl : ieq [] [] = true)
    subst hu
    clear hv h k hl
    go_enter Try.func41, Try.ntmps41
    go_wp2
    go_rounds 1
    go_ret
    exact ⟨by rw [HE.out]; rfl, Below.refl _ _⟩
  by_cases hx0 : xs.length = 0
  · have hxe : xs = [] := List.eq_nil_of_length_eq_zero hx0
    subst hxe
    have hy : ys = [] := List.eq_nil_of_length_eq_zero hl.symm
    subst hy
    have HE : Hid (ieq [] [] = true) := (rfl : ieq [] [] = true)
    subst hu
    clear hv h k hl hc
    go_enter Try.func41, Try.ntmps41
    go_wp2
    go_rounds 1
    go_ret
    exact ⟨by rw [HE.out]; rfl, Below.refl _ _⟩
  rcases k.form with ⟨rfl, rfl⟩ | ⟨g', cap', cur', rfl, _, _, hgs', hcap', hmax', _, _, _, hc', _⟩
  · exact absurd (by simpa using hl) hx0
  unfold maxLen at hmax hmax'
  have HC := Lib.hid hc
  have HC' := Lib.hid hc'
  have HL := Lib.hid hl
  have hl' : ((xs.length : Int) != (ys.length : Int)) = false := by simp; omega
  clear h k hc hc' hv hu hl hx0
  go_enter Try.func41, Try.ntmps41
  go_wp2
  go_loopw [13] (fun i wr => ∃ k : Nat, k ≤ xs.length ∧ i = .int .i64 k ∧ (∀ i, i < k → xs.getD i 0 = ys.getD i 0) ∧ Below w.heap.size w wr) (fun i _ => xs.length - (intOf i).toNat)
  case atStart => exact ⟨0, Nat.zero_le _, rfl, fun i hi => by omega, Below.refl _ _⟩
  case round =>
    obtain ⟨k, hk, rfl, hq, hb⟩ := hrel
    have HQ := Lib.hid hq
    clear hq
    by_cases hlt : k < xs.length
    · have e1 := (hb.cell (p := ⟨g, k, none⟩) hgs).trans (HC.out k hlt)
      have e2 := (hb.cell (p := ⟨g', k, none⟩) hgs').trans (HC'.out k (by have := HL.out; omega))
      have hk0 : (0 : Int) ≤ (k : Int) := by omega
      have hk1 : (k : Int) < (xs.length : Int) := by omega
      have hk2 : (k : Int) < (ys.length : Int) := by have := HL.out; omega
      by_cases he : xs.getD k 0 = ys.getD k 0
      · have HX : Hid (∀ i, i < k + 1 → xs.getD i 0 = ys.getD i 0) := fun i hi => by
          by_cases e : i = k
          · subst e; exact he
          · exact HQ.out i (by omega)
        have hd : (xs.getD k 0 != ys.getD k 0) = false := by simpa using he
        clear he
        generalize xs.getD k 0 = x at e1 hd
        generalize ys.getD k 0 = y at e2 hd
        go_wp2
        go_quiet (fail)
        go_wp2
        go_roundw
        case rel => exact ⟨k + 1, by omega, by go_num, HX.out, bl_drewN7 hb _⟩
        case measure => simp [intOf]; omega
      · have HX := Lib.hid (ieq_at he)
        have hd : (xs.getD k 0 != ys.getD k 0) = true := by simpa using he
        clear he
        generalize xs.getD k 0 = x at e1 hd
        generalize ys.getD k 0 = y at e2 hd
        go_wp2
        go_quiet (fail)
        go_wp2
        go_ret
        exact ⟨by rw [HX.out]; rfl, bl_drewN7 hb _⟩
    · have hk0 : k = xs.length := by omega
      subst hk0
      have HE := Lib.hid (ieq_all HL.out HQ.out)
      go_wp2
      go_ret
      exact ⟨by rw [HE.out]; rfl, hb⟩
end Go.Proofs.Ythmkjdmjhngpjaa
