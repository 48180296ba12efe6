/-
  The text of a sung melody: its words.
-/
import Derived.Test.YthnofdkkocpjhaaDoorSing4
import Derived.Test.YthnofdkkocpjhaaDoorFlat
import Derived.Test.YthnofdkkocpjhaaDoorSmI
import Derived.Test.YthnofdkkocpjhaaDoorJn
import Derived.Test.YthnofdkkocpjhaaDoorSyl
namespace Go.Proofs.YthnofdkkocpjhaaDoor
open Go.RowKit
set_option maxRecDepth 100000
set_option linter.unusedVariables false

/-- the names of the first k syllables -/
def sgw (xs : List (Int × Bool)) (zs : List Int) (k : Nat) : List ByteArray :=
  (List.range k).map fun i => syl (hsy (zs.getD i 0) (xs.getD i (0, false)).1 (xs.getD i (0, false)).2).toNat
def sgt (xs : List (Int × Bool)) (zs : List Int) : ByteArray := if sok xs zs = true then jns (sgw xs zs xs.length) else ⟨#[]⟩
theorem sgt_no {xs : List (Int × Bool)} {zs : List Int} (h : sok xs zs = false) : sgt xs zs = ⟨#[]⟩ := by simp [sgt, h]

theorem sgt_yes {xs : List (Int × Bool)} {zs : List Int} (h : sok xs zs = true) : sgt xs zs = jns (sgw xs zs xs.length) := by simp [sgt, h]

theorem sgw_len (xs : List (Int × Bool)) (zs : List Int) (k : Nat) : (sgw xs zs k).length = k := by simp [sgw]

theorem sgw_succ {xs : List (Int × Bool)} {zs : List Int} {k : Nat} {t : Int × Bool} (ht : xs[k]? = some t) : sgw xs zs (k + 1) = sgw xs zs k ++ [syl (hsy (zs.getD k 0) t.1 t.2).toNat] := by
  unfold sgw
  rw [List.range_succ, List.map_append]
  simp [List.getD_eq_getElem?_getD, ht]

theorem sgw_jn (xs : List (Int × Bool)) (zs : List Int) {k : Nat} (hk : k ≤ 24) : (jnw (sgw xs zs k)).length ≤ 96 := by
  have h := jnw_len (ws := sgw xs zs k) (m := 3) (fun x hx => by
    unfold sgw at hx
    obtain ⟨i, _, rfl⟩ := List.mem_map.1 hx
    exact syl_size _)
  rw [sgw_len] at h
  omega

theorem sok_hit {xs : List (Int × Bool)} {zs : List Int} (h : sok xs zs = true) {k : Nat} {t : Int × Bool} (ht : xs[k]? = some t) : 0 ≤ hsy (zs.getD k 0) t.1 t.2 := by
  have hk : k < xs.length := (List.getElem?_eq_some_iff.1 ht).1
  have h3 : sung xs zs xs.length = true := by simp [sok] at h; exact h.2
  unfold sung at h3
  rw [List.all_eq_true] at h3
  have := h3 k (by simpa using hk)
  simp [List.getD_eq_getElem?_getD, ht] at this ⊢
  exact this

theorem sok_parts2 {xs : List (Int × Bool)} {zs : List Int} (h : sok xs zs = true) : zs.length = xs.length ∧ xs.length ≤ 24 := by
  simp [sok, mv] at h
  exact ⟨h.1.2, h.1.1.1⟩
end Go.Proofs.YthnofdkkocpjhaaDoor
