/-
  Parts of lists of tones and of integers, cut out of what a call has been given or has made.
-/
import Derived.Test.YtmipkodgkldmbaaDoorTL2
import Derived.Test.YtmipkodgkldmbaaDoorTI
namespace Go.Proofs.YtmipkodgkldmbaaDoor
open Go.RowKit
set_option maxRecDepth 100000
set_option linter.unusedVariables false

theorem elemTonesA : Tryd.prog.underlying 28 = some (.slice (Tryd.prog.elem 28)) := by simp [Program.elem, Tryd.underlying28]
theorem sizeTonesA (W : World) : (Go.sizeOf (Tryd.prog.elem 28)).run Tryd.prog W = .ok 2 W := by
  have e : Tryd.prog.elem 28 = 33 := by simp [Program.elem, Tryd.underlying28]
  rw [e]
  exact Tryd.sizeOf33 W
theorem tslice_hi (a : Option Addr) (L cap q : Nat) (hq : q ≤ cap) (W : World) : (Instr.slice 28 (.slice a L cap) none (some (.int .i64 (q : Int))) none).run Tryd.prog W = .ok (.slice a q cap) W := by
  rw [run_slice_h W _ a L cap elemTonesA .i64 _ (by omega) (by omega), sizeTonesA]
  simp [Result.andThen, sliced, Addr.add]
theorem tslice_lo (a : Option Addr) (L cap q : Nat) (hq : q ≤ L) (W : World) : (Instr.slice 28 (.slice a L cap) (some (.int .i64 (q : Int))) none none).run Tryd.prog W = .ok (.slice (if cap = q then a else a.map (·.add (q * 2))) (L - q) (cap - q)) W := by
  rw [run_slice_l W _ a L cap elemTonesA .i64 _ (by omega) (by omega), sizeTonesA]
  simp [Result.andThen, sliced]
theorem ArgT.takeA {w : World} {a : Option Addr} {ys : List (Int × Bool)} (h : ArgT w a ys) (q : Nat) : ArgT w a (ys.take q) := by
  rcases h with rfl | ⟨A, off, rfl, hA, hc⟩
  · exact .inl (by simp)
  · refine .inr ⟨A, off, rfl, hA, fun i t ht => hc i t ?_⟩
    rw [List.getElem?_take] at ht
    split at ht
    · exact ht
    · cases ht
theorem ArgT.dropA {w : World} {a : Option Addr} {ys : List (Int × Bool)} {cap q : Nat} (h : ArgT w a ys) (hl : ys.length ≤ cap) (hq : q ≤ ys.length) : ArgT w (if cap = q then a else a.map (·.add (q * 2))) (ys.drop q) := by
  rcases h with rfl | ⟨A, off, rfl, hA, hc⟩
  · exact .inl (by simp)
  · by_cases e : cap = q
    · exact .inl (List.drop_of_length_le (by omega))
    · rw [if_neg e]
      refine .inr ⟨A, off + q * 2, by simp [Addr.add], hA, fun i t ht => ?_⟩
      rw [List.getElem?_drop] at ht
      have := hc (q + i) t ht
      rw [show off + q * 2 + i * 2 = off + (q + i) * 2 by omega]
      exact this
theorem TRow.argA {w : World} {lo hi : Nat} {v : Value} {xs : List (Int × Bool)} (h : TRow w lo hi v xs) : ∃ a c, v = .slice a xs.length c ∧ xs.length ≤ c ∧ c ≤ maxLen ∧ ArgT w a xs := by
  rcases h.form with ⟨rfl, rfl⟩ | ⟨g, cap, rfl, _, _, hg, hc, hm, hcell⟩
  · exact ⟨none, 0, rfl, Nat.le_refl _, Nat.zero_le _, .inl rfl⟩
  · refine ⟨_, cap, rfl, hc, hm, .inr ⟨g, 0, rfl, hg, fun i t ht => ?_⟩⟩
    rw [Nat.zero_add]
    exact hcell i t ht

theorem elemIntsA : Tryd.prog.underlying 35 = some (.slice (Tryd.prog.elem 35)) := by simp [Program.elem, Tryd.underlying35]
theorem sizeIntsA (W : World) : (Go.sizeOf (Tryd.prog.elem 35)).run Tryd.prog W = .ok 1 W := by
  have e : Tryd.prog.elem 35 = 3 := by simp [Program.elem, Tryd.underlying35]
  rw [e]
  exact Tryd.sizeOf3 W
theorem islice_hi (a : Option Addr) (L cap q : Nat) (hq : q ≤ cap) (W : World) : (Instr.slice 35 (.slice a L cap) none (some (.int .i64 (q : Int))) none).run Tryd.prog W = .ok (.slice a q cap) W := by
  rw [run_slice_h W _ a L cap elemIntsA .i64 _ (by omega) (by omega), sizeIntsA]
  simp [Result.andThen, sliced, Addr.add]
theorem islice_lo (a : Option Addr) (L cap q : Nat) (hq : q ≤ L) (W : World) : (Instr.slice 35 (.slice a L cap) (some (.int .i64 (q : Int))) none none).run Tryd.prog W = .ok (.slice (if cap = q then a else a.map (·.add q)) (L - q) (cap - q)) W := by
  rw [run_slice_l W _ a L cap elemIntsA .i64 _ (by omega) (by omega), sizeIntsA]
  simp [Result.andThen, sliced]
theorem ArgI.take {w : World} {a : Option Addr} {zs : List Int} (h : ArgI w a zs) (q : Nat) : ArgI w a (zs.take q) := by
  rcases h with rfl | ⟨A, off, rfl, hA, hc⟩
  · exact .inl (by simp)
  · refine .inr ⟨A, off, rfl, hA, fun i hi => ?_⟩
    rw [List.length_take] at hi
    have e : (zs.take q).getD i 0 = zs.getD i 0 := by simp [List.getD_eq_getElem?_getD, List.getElem?_take_of_lt (by omega : i < q)]
    rw [e]
    exact hc i (by omega)
theorem ArgI.drop {w : World} {a : Option Addr} {zs : List Int} {cap q : Nat} (h : ArgI w a zs) (hl : zs.length ≤ cap) (hq : q ≤ zs.length) : ArgI w (if cap = q then a else a.map (·.add q)) (zs.drop q) := by
  rcases h with rfl | ⟨A, off, rfl, hA, hc⟩
  · exact .inl (by simp)
  · by_cases e : cap = q
    · exact .inl (List.drop_of_length_le (by omega))
    · rw [if_neg e]
      refine .inr ⟨A, off + q, by simp [Addr.add], hA, fun i hi => ?_⟩
      rw [List.length_drop] at hi
      have e2 : (zs.drop q).getD i 0 = zs.getD (q + i) 0 := by simp [List.getD_eq_getElem?_getD, List.getElem?_drop]
      rw [e2, show off + q + i = off + (q + i) by omega]
      exact hc (q + i) (by omega)
theorem IRow.argA {w : World} {lo hi : Nat} {v : Value} {zs : List Int} (h : IRow w lo hi v zs) : ∃ a c, v = .slice a zs.length c ∧ zs.length ≤ c ∧ c ≤ maxLen ∧ ArgI w a zs := by
  rcases h.form with ⟨rfl, rfl⟩ | ⟨g, cap, cur, rfl, _, _, hg, hc, hm, _, _, _, hcell, _⟩
  · exact ⟨none, 0, rfl, Nat.le_refl _, Nat.zero_le _, .inl rfl⟩
  · refine ⟨_, cap, rfl, hc, hm, .inr ⟨g, 0, rfl, hg, fun i hi => ?_⟩⟩
    rw [Nat.zero_add]
    exact hcell i hi
end Go.Proofs.YtmipkodgkldmbaaDoor
