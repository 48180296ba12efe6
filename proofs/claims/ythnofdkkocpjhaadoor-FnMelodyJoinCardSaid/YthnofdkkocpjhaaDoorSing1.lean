/-
  How many lists sing a melody, in both programs.
-/
import Derived.Test.YthnofdkkocpjhaaDoorMelV
import Derived.Test.YthnofdkkocpjhaaDoorHexAll2
import Derived.Deep.LoopGhost
import Derived.IntWalk
namespace Go.Proofs.YthnofdkkocpjhaaDoor
open Go.RowKit
set_option maxRecDepth 100000
set_option linter.unusedVariables false

/-- in how many hexachords a tone is -/
def ic (t : Int × Bool) : Int := (hall t.1 t.2 21).length
theorem ic_bd {t : Int × Bool} (h : vd t.1 t.2 = true) : 0 ≤ ic t ∧ ic t ≤ 3 := by
  obtain ⟨s, b⟩ := t
  obtain ⟨h0, h1⟩ := vd_in h
  have hc : s = 0 ∨ s = 1 ∨ s = 2 ∨ s = 3 ∨ s = 4 ∨ s = 5 ∨ s = 6 ∨ s = 7 ∨ s = 8 ∨ s = 9 ∨ s = 10 ∨ s = 11 ∨ s = 12 ∨ s = 13 ∨ s = 14 ∨ s = 15 ∨ s = 16 ∨ s = 17 ∨ s = 18 ∨ s = 19 ∨ s = 20 := by omega
  clear h h0 h1
  unfold ic
  dsimp only
  rw [hall_rall]
  rcases hc with rfl | rfl | rfl | rfl | rfl | rfl | rfl | rfl | rfl | rfl | rfl | rfl | rfl | rfl | rfl | rfl | rfl | rfl | rfl | rfl | rfl <;> cases b <;> decide +kernel

def manyOf (xs : List (Int × Bool)) : Int := xs.foldl (fun m t => m * ic t) 1
def sangM (xs : List (Int × Bool)) : Int := if mv xs then manyOf xs else -1
theorem sangM_no {xs : List (Int × Bool)} (h : mv xs = false) : sangM xs = -1 := by simp [sangM, h]
theorem sangM_yes {xs : List (Int × Bool)} (h : mv xs = true) : sangM xs = manyOf xs := by simp [sangM, h]
theorem manyOf_snoc {xs : List (Int × Bool)} {j : Nat} {t : Int × Bool} (h : xs[j]? = some t) : manyOf (xs.take (j + 1)) = manyOf (xs.take j) * ic t := by
  unfold manyOf; rw [List.take_add_one, h, List.foldl_append]; rfl
theorem manyOf_bd {xs : List (Int × Bool)} (ha : allv xs = true) (j : Nat) : 0 ≤ manyOf (xs.take j) ∧ manyOf (xs.take j) ≤ 3 ^ j := by
  induction j with
  | zero => simp [manyOf]
  | succ j ih =>
    by_cases hlt : j < xs.length
    · have ht := List.getElem?_eq_getElem hlt
      have hb := ic_bd (List.all_eq_true.1 ha _ (List.mem_of_getElem? ht))
      rw [manyOf_snoc ht]
      refine ⟨Int.mul_nonneg ih.1 hb.1, ?_⟩
      have h1 : manyOf (xs.take j) * ic xs[j] ≤ 3 ^ j * 3 := Int.mul_le_mul ih.2 hb.2 hb.1 (Int.pow_nonneg (by decide))
      rw [Int.pow_succ]
      exact h1
    · have e : xs.take (j + 1) = xs.take j := by rw [List.take_of_length_le (by omega), List.take_of_length_le (by omega)]
      rw [e, Int.pow_succ]
      have : (0 : Int) ≤ 3 ^ j := Int.pow_nonneg (by decide)
      omega
theorem pow3_le {j : Nat} (h : j ≤ 24) : (3 : Int) ^ j ≤ 282429536481 := by
  have : (3 : Nat) ^ j ≤ 3 ^ 24 := Nat.pow_le_pow_right (by decide) h
  have e : ((3 ^ j : Nat) : Int) = (3 : Int) ^ j := by simp
  rw [← e]
  have : (3 : Nat) ^ 24 = 282429536481 := by decide
  omega

theorem IRow.len {w : World} {lo hi : Nat} {v : Value} {xs : List Int} (h : IRow w lo hi v xs) : ∃ a c, v = .slice a xs.length c := by
  rcases h.form with ⟨rfl, rfl⟩ | ⟨g, cap, cur, rfl, _⟩
  · exact ⟨none, 0, rfl⟩
  · exact ⟨_, _, rfl⟩

set_option maxHeartbeats 2000000 in
theorem singMany_any (lo hi : Nat) (v : Value) (xs : List (Int × Bool)) (w : World) (h : TRow w lo hi v xs) :
    Calls Tryd.prog 10 #[v] w fun e w' => e = .returned (.int .i64 (sangM xs)) ∧ Below w.heap.size w w' := by
  by_cases hv : mv xs = false
  · rw [sangM_no hv]
    go_enter Tryd.func10, Tryd.ntmps10
    go_wp2_with (fail)
    (go_at_call 21; refine (newMelody_any lo hi v xs _ h).mono ?_; rintro e w1 ⟨p, rfl, hm, hb1⟩)
    clear hm h
    go_wp2
    go_ret
    exact ⟨rfl, hb1⟩
  rw [Bool.not_eq_false] at hv
  rw [sangM_yes hv]
  have HV := Lib.hid (mvl_yes hv)
  have hav : allv xs = true := by simp [mv] at hv; exact hv.2
  have hlx : xs.length ≤ 24 := by simp [mv] at hv; exact hv.1
  have HA := Lib.hid hav
  clear hav
  go_enter Tryd.func10, Tryd.ntmps10
  go_wp2_with (fail)
  (go_at_call 21; refine (newMelody_any lo hi v xs _ h).mono ?_; rintro e w1 ⟨p, rfl, hm, hb1⟩)
  rw [HV.out] at hm
  have HM := Lib.hid hm
  clear hm h
  go_wp2
  go_loopg [3, 5] xs.length (fun k m x wr => ∃ j, j + k = xs.length ∧ (∃ q lo, m = .pointer q ∧ Mel wr lo q (xs.drop j)) ∧ x = .int .i64 (manyOf (xs.take j)) ∧ Below w.heap.size w wr)
  case atStart => exact ⟨0, by omega, ⟨_, _, rfl, by simpa using HM.out⟩, by simp [manyOf], hb1⟩
  case round =>
    obtain ⟨j, hj, ⟨q, lo', rfl, hm⟩, rfl, hb⟩ := hrel
    by_cases hlt : j < xs.length
    · have hd : xs.drop j = xs[j] :: xs.drop (j + 1) := List.drop_eq_getElem_cons hlt
      have ht : xs[j]? = some xs[j] := List.getElem?_eq_getElem hlt
      have HX : Hid (manyOf (xs.take (j + 1)) = manyOf (xs.take j) * ic xs[j]) := manyOf_snoc ht
      obtain ⟨m0, m1⟩ := manyOf_bd HA.out j
      have m2 := pow3_le (by omega : j ≤ 24)
      have hvt := List.all_eq_true.1 HA.out _ (List.mem_of_getElem? ht)
      obtain ⟨i0, i1⟩ := ic_bd hvt
      have m3 : manyOf (xs.take j) * ic xs[j] ≤ 282429536481 * 3 := Int.mul_le_mul (by omega) i1 i0 (by decide)
      have m4 : 0 ≤ manyOf (xs.take j) * ic xs[j] := Int.mul_nonneg m0 i0
      have HW : Hid (IntKind.i64.wrap (manyOf (xs.take j) * ic xs[j]) = manyOf (xs.take j) * ic xs[j]) := IntWalk.i64_in _ (by omega)
      rw [hd] at hm
      clear hd ht m0 m1 m2 i0 i1 m3 m4 hvt
      generalize xs[j] = t at hm HX HW
      generalize manyOf (xs.take j) = x at HX HW
      obtain ⟨s, b⟩ := t
      obtain ⟨B, r, rfl, hlo, hB, c0, c1, c2, hr⟩ := hm.head
      have HR := Lib.hid hr
      have HJ := Lib.hid hj
      clear hr hm hj
      have hic : ((hall s b 21).length : Int) = ic (s, b) := rfl
      have HIC := Lib.hid hic
      clear hic
      go_wp2_with (fail)
      (go_at_call 30; refine (hexAll_any s b _).mono ?_; rintro e w2 ⟨u, rfl, hru, hb2⟩)
      obtain ⟨ua, uc, rfl⟩ := hru.len
      have HR2 := Lib.hid (HR.out.below hb2)
      have d2 := (hb2.cell (p := ⟨B, 2, none⟩) hB).trans c2
      have hW := HW.out
      rw [← HIC.out, hall_rall] at hW
      clear hru c0 c1 c2
      go_wp2
      have hj := HJ.out
      go_roundg (gk - 1)
      case measure => omega
      case rel => exact ⟨j + 1, by omega, ⟨_, _, rfl, HR2.out⟩, by rw [HX.out, ← HIC.out, hall_rall], bl_step hb hb2⟩
    · have hj0 : j = xs.length := by omega
      subst hj0
      have hp : q = none := by simpa [Mel] using hm
      subst hp
      rw [List.take_length]
      clear hm
      go_wp2
      go_ret
      exact ⟨rfl, hb⟩
end Go.Proofs.YthnofdkkocpjhaaDoor
