/-
  In how many ways groups begin: the numbers.
-/
import Derived.Test.YtjodcaeohkjlnaaBase
import Derived.WalkLawsBesides
import Derived.Handy
import Derived.Laws.OwnMore
namespace Go.Proofs.Ytjodcaeohkjlnaa
open Go.RowKit
set_option maxRecDepth 100000
set_option linter.unusedVariables false

/-- how many lists of sizes are groups of so many tones -/
def gmA : List Int := [1, 1, 2, 4, 8, 15, 29, 56, 108, 208, 401, 773, 1490, 2872, 5536, 10671, 20569, 39648, 76424, 147312, 283953, 547337, 1055026, 2033628, 3919944]
def gmAt (k : Nat) : Int := gmA.getD k 0
/-- the sum over the first c sizes -/
def gsum (t c : Nat) : Int := ((List.range c).map fun i => gmAt (t - (i + 1))).foldl (· + ·) 0
def gmv (n : Int) : Int := if 0 ≤ n ∧ n ≤ 24 then gmAt n.toNat else -1
theorem gmv_no {n : Int} (h : n < 0 ∨ 24 < n) : gmv n = -1 := by unfold gmv; rw [if_neg (by omega)]
theorem gmv_yes {m : Nat} (h : m ≤ 24) : gmv (m : Int) = gmAt m := by unfold gmv; rw [if_pos (by omega)]; simp
theorem gsum_zero (t : Nat) : gsum t 0 = 0 := rfl
theorem gsum_succ (t c : Nat) : gsum t (c + 1) = gsum t c + gmAt (t - (c + 1)) := by simp [gsum, List.range_succ]
theorem gm_all : ∀ t, t < 25 → 1 ≤ t → gsum t (min 4 t) = gmAt t := by decide +kernel
theorem gsum_bd : ∀ t, t < 25 → ∀ c, c < 5 → 0 ≤ gsum t c ∧ gsum t c ≤ 100000000 := by decide +kernel
theorem gmAt_bd : ∀ t, t < 25 → 1 ≤ gmAt t ∧ gmAt t ≤ 100000000 := by decide +kernel
theorem gm_take : ∀ t, t < 25 → (gmA.take (t + 1)).map (Value.int .i64) = (gmA.take t).map (Value.int .i64) ++ [.int .i64 (gmAt t)] := by
  intro t h
  have hl : t < gmA.length := h
  rw [List.take_add_one, List.getElem?_eq_getElem hl, List.map_append]
  congr 1
  simp [gmAt, List.getD_eq_getElem?_getD, hl]
theorem gm_cell {t j : Nat} (h : j < t) (h2 : t ≤ 25) : ((gmA.take t).map (Value.int .i64))[j]? = some (.int .i64 (gmAt j)) := by
  have hl : j < gmA.length := by show j < 25; omega
  rw [List.getElem?_map, List.getElem?_take, if_pos h, List.getElem?_eq_getElem hl]
  simp [gmAt, List.getD_eq_getElem?_getD, hl]

theorem infoIntG : (Try.prog.info? 3).map (fun i => (i.zero, i.size, i.bytes)) = some (some (.int .i64 0), 1, 8) := by kernel_rfl
theorem gnews {w : World} {z : Int} {t : TypeId} : ∀ j u, ([.int .i64 z] : List Value)[j]? = some u → (w.alloc (.cells #[.int .i64 z] t)).cell? ((⟨w.heap.size, 0, none⟩ : Addr).add j) = some u := by
  intro j u hj
  match j, hj with
  | 0, hj => simp at hj; subst hj; simp [Addr.add]
theorem gnews_one {z : Int} : ∀ u ∈ ([.int .i64 z] : List Value), u.oneCell' = true := by
  intro u hu; simp at hu; subst hu; rfl

/-- the list that is being built: the numbers of fewer tones -/
def GmInv (w wr : World) (v : Value) (t : Nat) : Prop :=
  wr.ownsRow w.heap.size 3 1 v t ((gmA.take t).map (Value.int .i64)) ∧ Below w.heap.size w wr
theorem GmInv.start (w : World) : GmInv w (w.alloc (.cells #[.int .i64 1] 3)) (.slice (some ⟨w.heap.size, 0, none⟩) 1 1) 1 :=
  ⟨World.ownsRow_lit w #[.int .i64 1] 1 (Nat.le_refl _) (by simp [maxLen]) (by simp), (Below.refl _ _).alloc (Nat.le_refl _) _⟩
theorem GmInv.drew {w wr : World} {v : Value} {t : Nat} (h : GmInv w wr v t) : GmInv w wr.drew v t := ⟨h.1.drew, h.2.drew⟩
theorem GmInv.form {w wr : World} {v : Value} {t : Nat} (h : GmInv w wr v t) (ht : 1 ≤ t) (h2 : t ≤ 25) : ∃ g cap, v = .slice (some ⟨g, 0, none⟩) t cap ∧ t ≤ cap ∧ cap ≤ maxLen ∧ ∀ j, j < t → wr.cell? ⟨g, j, none⟩ = some (.int .i64 (gmAt j)) := by
  rcases h.1.2 with ⟨_, hz⟩ | ⟨g, cap, cur, rfl, _, _, hc, hm, _, _⟩
  · omega
  · exact ⟨g, cap, rfl, hc, hm, fun j hj => (h.1.cellAt j (by omega)).trans (gm_cell hj h2)⟩
end Go.Proofs.Ytjodcaeohkjlnaa
