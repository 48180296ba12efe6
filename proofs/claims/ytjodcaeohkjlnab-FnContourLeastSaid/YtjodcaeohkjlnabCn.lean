/-
  Contours counted: the rows of numbers that both programs write.
-/
import Derived.Test.YtjodcaeohkjlnabCm
import Derived.Test.YtjodcaeohkjlnabFr
namespace Go.Proofs.Ytjodcaeohkjlnab
open Go.RowKit
set_option maxRecDepth 100000
set_option linter.unusedVariables false

theorem infoIntN : (Try.prog.info? 3).map (fun i => (i.zero, i.size, i.bytes)) = some (some (.int .i64 0), 1, 8) := by kernel_rfl
/-- the row after the first a steps and, of the next one, the first b places -/
def eaf (c : UInt8) (e : Nat → Int) (a b : Nat) : Nat → Int := fun p => if p < b then cpart c e p (a + 1) else cpart c e p a
theorem eaf_at (c : UInt8) (e : Nat → Int) (a b : Nat) : eaf c e a b b = cpart c e b a := by unfold eaf; rw [if_neg (Nat.lt_irrefl b)]
theorem ea_hit {w : World} {B N a b : Nat} {c : UInt8} {e : Nat → Int} (h : FR w B N N (eaf c e a b)) (hb : b < N) (hc : wy a b = c) : FR (w.setCell ⟨B, b, none⟩ (.int .i64 (cpart c e b a + e a))) B N N (eaf c e a (b + 1)) := by
  refine (h.set hb _).congr fun p hp => ?_
  unfold eaf
  by_cases g : p = b
  · subst g
    rw [if_pos (by omega), if_pos rfl, cpart_succ, if_pos hc]
  · by_cases k : p < b
    · rw [if_pos (by omega), if_neg g, if_pos k]
    · rw [if_neg (by omega), if_neg g, if_neg k]
theorem ea_miss {w : World} {B N a b : Nat} {c : UInt8} {e : Nat → Int} (h : FR w B N N (eaf c e a b)) (hc : ¬ wy a b = c) : FR w B N N (eaf c e a (b + 1)) := by
  refine h.congr fun p hp => ?_
  unfold eaf
  by_cases g : p = b
  · subst g
    rw [if_pos (by omega), if_neg (Nat.lt_irrefl p), cpart_succ, if_neg hc, Int.add_zero]
  · by_cases k : p < b
    · rw [if_pos (by omega), if_pos k]
    · rw [if_neg (by omega), if_neg k]
theorem ea_row {w : World} {B N a : Nat} {c : UInt8} {e : Nat → Int} (h : FR w B N N (eaf c e a N)) : FR w B N N (eaf c e (a + 1) 0) := by
  refine h.congr fun p hp => ?_
  unfold eaf
  rw [if_neg (Nat.not_lt_zero p), if_pos hp]
theorem ea_start {w : World} {B N : Nat} (c : UInt8) (e : Nat → Int) (h : FR w B N N (fun _ => 0)) : FR w B N N (eaf c e 0 0) := by
  refine h.congr fun p hp => ?_
  unfold eaf
  rw [if_neg (Nat.not_lt_zero p)]
  rfl
theorem ea_done {w : World} {B m : Nat} {c : UInt8} {l : List UInt8} (h : FR w B (m + 1) (m + 1) (eaf c (cfin m l cone) (m + 1) 0)) : FR w B (m + 1) (m + 1) (cfin m (l ++ [c]) cone) := by
  refine h.congr fun p hp => ?_
  rw [cfin_snoc]
  unfold eaf
  rw [if_neg (Nat.not_lt_zero p)]
theorem ea_bd {m : Nat} (hm : m ≤ 20) {l : List UInt8} (hl : l.length ≤ 8) (c : UInt8) (b a : Nat) (ha : a ≤ 21) : 0 ≤ cpart c (cfin m l cone) b a ∧ cpart c (cfin m l cone) b a ≤ 794280046581 := by
  have := cpart_bd (c := c) (b := b) (cfin_one_bd hm hl) a
  have := mul_bd (n := a) (M := 37822859361) ha (by decide)
  omega
theorem tot_bd {m : Nat} (hm : m ≤ 20) {l : List UInt8} (hl : l.length ≤ 8) {i : Nat} (hi : i ≤ 21) : 0 ≤ ctot (cfin m l cone) i ∧ ctot (cfin m l cone) i ≤ 794280046581 := by
  have := ctot_bd (cfin_one_bd hm hl) i
  have := mul_bd (n := i) (M := 37822859361) hi (by decide)
  omega
/-- what ContourMany returns -/
def cmv (s : ByteArray) (most : Int) : Int := if cv s = true ∧ s.size ≤ 8 ∧ 0 ≤ most ∧ most ≤ 20 then ccnt most.toNat s.data.toList else -1
theorem cmv_no1 {s : ByteArray} {most : Int} (h : cv s = false) : cmv s most = -1 := by unfold cmv; rw [if_neg (by rw [h]; simp)]
theorem cmv_no2 {s : ByteArray} {most : Int} (h : 8 < s.size) : cmv s most = -1 := by unfold cmv; rw [if_neg (by omega)]
theorem cmv_no3 {s : ByteArray} {most : Int} (h : most < 0 ∨ 20 < most) : cmv s most = -1 := by unfold cmv; rw [if_neg (by omega)]
theorem cmv_yes {s : ByteArray} {m : Nat} (h : cv s = true) (h8 : s.size ≤ 8) (hm : m ≤ 20) : cmv s (m : Int) = ccnt m s.data.toList := by
  unfold cmv; rw [if_pos ⟨h, h8, by omega, by omega⟩]; rfl
theorem take_ways (s : ByteArray) {k : Nat} (hk : k < s.size) : s.data.toList.take (k + 1) = s.data.toList.take k ++ [s[k]] := take_snoc s k hk
theorem take_all_b (s : ByteArray) : s.data.toList.take s.size = s.data.toList := by
  exact List.take_of_length_le (by simp)
theorem take_len_b (s : ByteArray) (k : Nat) : (s.data.toList.take k).length ≤ k := by rw [List.length_take]; omega
theorem wy_lit {a b : Nat} : (a < b → wy a b = 117) ∧ (b < a → wy a b = 100) ∧ (a = b → wy a b = 115) := by
  unfold wy
  refine ⟨fun h => by rw [if_pos h], fun h => by rw [if_neg (by omega), if_pos h], fun h => by rw [if_neg (by omega), if_neg (by omega)]⟩
end Go.Proofs.Ytjodcaeohkjlnab
