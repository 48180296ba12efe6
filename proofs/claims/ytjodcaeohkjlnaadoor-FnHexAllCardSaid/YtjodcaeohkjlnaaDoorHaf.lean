/-
  The hexachords of a tone and its names in them, counted: plain mathematics.
-/
import Derived.Test.YtjodcaeohkjlnaaDoorTnm
import Derived.Test.YtjodcaeohkjlnaaDoorNms
import Derived.Test.YtjodcaeohkjlnaaDoorTxm
namespace Go.Proofs.YtjodcaeohkjlnaaDoor
open Go.RowKit
set_option maxRecDepth 100000
set_option linter.unusedVariables false

theorem flat_count {r : List ByteArray} (h : ∀ x ∈ r, ∀ c ∈ x.data.toList, c ≠ 32) : ((r.map fun y => 32 :: y.data.toList).flatten).count 32 = r.length := by
  induction r with
  | nil => rfl
  | cons x r ih =>
    have h0 : x.data.toList.count 32 = 0 := by
      rw [List.count_eq_zero]
      intro hm
      exact h x List.mem_cons_self 32 hm rfl
    rw [List.map_cons, List.flatten_cons, List.count_append, ih (fun y hy => h y (List.mem_cons_of_mem _ hy)), List.count_cons_self, h0, List.length_cons]
    omega
theorem nmc_jnw {ws : List ByteArray} (h0 : ∀ x ∈ ws, x.data.toList ≠ []) (h : ∀ x ∈ ws, ∀ c ∈ x.data.toList, c ≠ 32) : nmc (jnw ws) = ws.length := by
  cases ws with
  | nil => rfl
  | cons x r =>
    rw [jnw_cons]
    have hx0 := h0 x List.mem_cons_self
    have hx : x.data.toList.count 32 = 0 := by
      rw [List.count_eq_zero]
      intro hm
      exact h x List.mem_cons_self 32 hm rfl
    unfold nmc
    rw [if_neg (fun e => hx0 (List.append_eq_nil_iff.1 e).1), List.count_append, hx, flat_count (fun y hy => h y (List.mem_cons_of_mem _ hy)), List.length_cons]
    omega
theorem syl_sp {k : Nat} (h : k < 6) : ∀ c ∈ (syl k).data.toList, c ≠ 32 := by
  have : k = 0 ∨ k = 1 ∨ k = 2 ∨ k = 3 ∨ k = 4 ∨ k = 5 := by omega
  rcases this with rfl | rfl | rfl | rfl | rfl | rfl <;> decide
theorem tnm_names (s : Int) (b : Bool) : nmc (tnm s b).data.toList = (hall s b 21).length := by
  have hw : ∀ x ∈ tnw s b 0, ∃ k : Nat, k < 6 ∧ x = syl k := by
    intro x hx
    unfold tnw tnl at hx
    obtain ⟨n, hn, rfl⟩ := List.mem_map.1 hx
    have h0 : 0 ≤ hsy n s b := by
      have := (List.mem_filter.1 (List.mem_reverse.1 hn)).2
      simpa [inHex] using this
    have := hsy_le n s b
    exact ⟨(hsy n s b).toNat, by omega, rfl⟩
  have e : (tnm s b).data.toList = jnw (tnw s b 0) := rfl
  rw [e, nmc_jnw]
  · unfold tnw
    rw [List.length_map, hall_rall]
    show (((rowsOf.drop 0).filter (inHex s b)).reverse).length = ((rowsOf.take 7).filter (inHex s b)).length
    rw [List.length_reverse]; rfl
  · intro x hx
    obtain ⟨k, hk, rfl⟩ := hw x hx
    exact syl_ne hk
  · intro x hx
    obtain ⟨k, hk, rfl⟩ := hw x hx
    exact syl_sp hk
theorem tnm_size (s : Int) (b : Bool) : (tnm s b).size ≤ 28 := by
  show (jnw (tnw s b 0)).toArray.size ≤ 28
  rw [List.size_toArray]
  exact tnw_jn s b 0
theorem hall_vd {s : Int} {b : Bool} {n : Int} (h : 0 ≤ hsy n s b) : vd s b = true ∧ hxv n = true := by
  unfold hsy at h
  split at h
  · rename_i g
    rw [Bool.and_eq_true] at g
    obtain ⟨g1, g2⟩ := g
    have e : b = hsf n (s - n) := by simpa using g2
    have := vd_hex g1
    rw [show n + (s - n) = s by omega, ← e] at this
    exact ⟨this, (hok_in g1).1⟩
  · omega
theorem hall_threeA : ∀ t ∈ allT, (hall t.1 t.2 21).length ≤ 3 := by decide +kernel
theorem hall_three {s : Int} {b : Bool} (h : vd s b = true) : (hall s b 21).length ≤ 3 := by
  have := hall_threeA (s, b) (vd_allT h)
  exact this
theorem hall_kindA : ∀ t ∈ allT, ∀ k ∈ List.range 21, 0 ≤ hsy ((k : Nat) : Int) t.1 t.2 → t.1 % 7 = 2 → ((((k : Nat) : Int) % 7 == 6) != t.2) = false := by decide +kernel
theorem hall_kind {s : Int} {b : Bool} {k : Nat} (hk : k < 21) (h : 0 ≤ hsy (k : Int) s b) (hB : s % 7 = 2) : (((k : Int) % 7 == 6) != b) = false := by
  have := hall_kindA (s, b) (vd_allT (hall_vd h).1) k (List.mem_range.2 hk)
  exact this h hB
/-- the list so far is the list's beginning -/
theorem hall_pre (s : Int) (b : Bool) (k d : Nat) : hall s b k <+: hall s b (k + d) := by
  induction d with
  | zero => exact List.prefix_refl _
  | succ d ih =>
    refine ih.trans ?_
    by_cases h : 0 ≤ hsy ((k + d : Nat) : Int) s b
    · rw [show k + (d + 1) = k + d + 1 by omega, hall_hit h]; exact List.prefix_append _ _
    · rw [show k + (d + 1) = k + d + 1 by omega, hall_miss (by omega)]; exact List.prefix_refl _
theorem hall_at {s : Int} {b : Bool} {k : Nat} (hk : k < 21) (h : 0 ≤ hsy (k : Int) s b) : (hall s b k).length < (hall s b 21).length ∧ (hall s b 21).getD (hall s b k).length 0 = (k : Int) := by
  have hp := hall_pre s b (k + 1) (21 - (k + 1))
  rw [show k + 1 + (21 - (k + 1)) = 21 by omega, hall_hit h] at hp
  obtain ⟨r, hr⟩ := hp
  rw [← hr]
  constructor
  · simp
  · rw [List.getD_eq_getElem?_getD, List.append_assoc, List.getElem?_append_right (Nat.le_refl _), Nat.sub_self]
    rfl
end Go.Proofs.YtjodcaeohkjlnaaDoor
