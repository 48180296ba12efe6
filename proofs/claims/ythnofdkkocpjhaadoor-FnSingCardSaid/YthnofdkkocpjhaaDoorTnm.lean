/-
  The names of a tone in all its hexachords: plain mathematics.
-/
import Derived.Test.YthnofdkkocpjhaaDoorHexAll2
import Derived.Test.YthnofdkkocpjhaaDoorJn
import Derived.Test.YthnofdkkocpjhaaDoorSyl
namespace Go.Proofs.YthnofdkkocpjhaaDoor
open Go.RowKit
set_option maxRecDepth 100000
set_option linter.unusedVariables false

/-- the name that a tone has in a hexachord -/
def snm (s : Int) (b : Bool) (n : Int) : ByteArray := syl (hsy n s b).toNat
/-- the hexachords of a tone from the i-th one on, downward -/
def tnl (s : Int) (b : Bool) (i : Nat) : List Int := ((rowsOf.drop i).filter (inHex s b)).reverse
def tnw (s : Int) (b : Bool) (i : Nat) : List ByteArray := (tnl s b i).map (snm s b)
def tnm (s : Int) (b : Bool) : ByteArray := jns (tnw s b 0)
theorem tnw_end (s : Int) (b : Bool) : tnw s b 7 = [] := rfl
theorem drop_row {i : Nat} (h : i < 7) : rowsOf.drop i = rowAt i :: rowsOf.drop (i + 1) := by
  have : i = 0 ∨ i = 1 ∨ i = 2 ∨ i = 3 ∨ i = 4 ∨ i = 5 ∨ i = 6 := by omega
  rcases this with rfl | rfl | rfl | rfl | rfl | rfl | rfl <;> rfl
theorem tnw_hit {s : Int} {b : Bool} {i : Nat} (hi : i < 7) (h : 0 ≤ hsy (rowAt i) s b) : tnw s b i = tnw s b (i + 1) ++ [syl (hsy (rowAt i) s b).toNat] := by
  unfold tnw tnl
  rw [drop_row hi, List.filter_cons, if_pos (by simpa [inHex] using h), List.reverse_cons, List.map_append]
  rfl
theorem tnw_miss {s : Int} {b : Bool} {i : Nat} (hi : i < 7) (h : hsy (rowAt i) s b < 0) : tnw s b i = tnw s b (i + 1) := by
  unfold tnw tnl
  rw [drop_row hi, List.filter_cons, if_neg (by simp [inHex]; omega)]
theorem tnw_len (s : Int) (b : Bool) (i : Nat) : (tnw s b i).length ≤ 7 := by
  unfold tnw tnl
  rw [List.length_map, List.length_reverse]
  refine Nat.le_trans (List.length_filter_le _ _) ?_
  rw [List.length_drop]
  show 7 - i ≤ 7
  omega
theorem tnw_jn (s : Int) (b : Bool) (i : Nat) : (jnw (tnw s b i)).length ≤ 28 := by
  have h := jnw_len (ws := tnw s b i) (m := 3) (fun x hx => by
    unfold tnw at hx
    obtain ⟨n, _, rfl⟩ := List.mem_map.1 hx
    exact syl_size _)
  have := tnw_len s b i
  omega
theorem hsy_le (n s : Int) (b : Bool) : hsy n s b ≤ 5 := by
  unfold hsy
  split
  · rename_i h
    rw [Bool.and_eq_true] at h
    exact (hok_in h.1).2.2
  · omega
/-- in the model: the same names, from the list's end on -/
def mnw (s : Int) (b : Bool) (l : List Int) : List ByteArray := l.reverse.map (snm s b)
theorem tnm_all (s : Int) (b : Bool) : mnw s b (hall s b 21) = tnw s b 0 := by
  rw [hall_rall]
  rfl
theorem mnw_next {s : Int} {b : Bool} {l : List Int} {i : Nat} {n : Int} (h : l[i]? = some n) : mnw s b (l.drop i) = mnw s b (l.drop (i + 1)) ++ [snm s b n] := by
  obtain ⟨hi, rfl⟩ := List.getElem?_eq_some_iff.1 h
  unfold mnw
  rw [List.drop_eq_getElem_cons hi, List.reverse_cons, List.map_append]
  rfl
theorem mnw_len (s : Int) (b : Bool) (l : List Int) : (mnw s b l).length = l.length := by simp [mnw]
theorem mnw_jn (s : Int) (b : Bool) (l : List Int) : (jnw (mnw s b l)).length ≤ 4 * l.length := by
  have h := jnw_len (ws := mnw s b l) (m := 3) (fun x hx => by
    unfold mnw at hx
    obtain ⟨n, _, rfl⟩ := List.mem_map.1 hx
    exact syl_size _)
  rw [mnw_len] at h
  omega
theorem hall_in {s : Int} {b : Bool} {k : Nat} {n : Int} (h : n ∈ hall s b k) : 0 ≤ hsy n s b := by
  unfold hall at h
  simpa [inHex] using (List.mem_filter.1 h).2
theorem syl_ne {k : Nat} (h : k < 6) : (syl k).data.toList ≠ [] := by
  have : k = 0 ∨ k = 1 ∨ k = 2 ∨ k = 3 ∨ k = 4 ∨ k = 5 := by omega
  rcases this with rfl | rfl | rfl | rfl | rfl | rfl <;> decide
theorem mnw_ne {s : Int} {b : Bool} {l : List Int} (hl : l ≠ []) (h : ∀ n ∈ l, 0 ≤ hsy n s b) : jnw (mnw s b l) ≠ [] := by
  cases hr : l.reverse with
  | nil => exact absurd (List.reverse_eq_nil_iff.1 hr) hl
  | cons n r =>
    have hn := h n (by rw [← List.mem_reverse, hr]; exact List.mem_cons_self)
    have h5 := hsy_le n s b
    unfold mnw
    rw [hr, List.map_cons, jnw_cons]
    intro e
    exact syl_ne (k := (hsy n s b).toNat) (by omega) (List.append_eq_nil_iff.1 e).1
end Go.Proofs.YthnofdkkocpjhaaDoor
