/-
  How many lists sing a melody, in the model.
-/
import Derived.Test.YtbmgejiinnnomabSing1
namespace Go.Proofs.Ytbmgejiinnnomab
open Go.RowKit
set_option maxRecDepth 100000
set_option linter.unusedVariables false

set_option maxHeartbeats 2000000 in
theorem sSingMany_any (lo hi : Nat) (v : Value) (xs : List (Int × Bool)) (w : World) (h : TRow w lo hi v xs) :
    Calls Try.prog 16 #[v] w fun e w' => e = .returned (.int .i64 (sangM xs)) ∧ Below w.heap.size w w' := by
  by_cases hv : mv xs = false
  · rw [sangM_no hv]
    go_enter Try.func16, Try.ntmps16
    go_wp2_with (fail)
    (go_at_call 32; refine (sMelodyValid_any lo hi v xs _ h).mono ?_; rintro e w1 ⟨rfl, hb1⟩)
    clear h
    go_wp2
    go_ret
    exact ⟨rfl, hb1⟩
  rw [Bool.not_eq_false] at hv
  rw [sangM_yes hv]
  have hlx : xs.length ≤ 24 := by simp [mv] at hv; exact hv.1
  have HA : Hid (allv xs = true) := by simp [mv] at hv; exact hv.2
  rcases h.form with ⟨rfl, rfl⟩ | ⟨g, cap, rfl, hg, hg2, hgs, hcap, hmax, hc⟩
  · go_enter Try.func16, Try.ntmps16
    go_wp2_with (fail)
    (go_at_call 32; refine (sMelodyValid_any lo hi _ [] _ h).mono ?_; rintro e w1 ⟨rfl, hb1⟩)
    clear h
    go_wp2
    go_rounds 1
    go_ret
    exact ⟨by simp [manyOf], hb1⟩
  have HC := Lib.hid hc
  clear hc hmax
  go_enter Try.func16, Try.ntmps16
  go_wp2_with (fail)
  (go_at_call 32; refine (sMelodyValid_any lo hi _ xs _ h).mono ?_; rintro e w1 ⟨rfl, hb1⟩)
  clear h
  go_wp2
  go_loopw [3, 4] (fun x i wr => ∃ k : Nat, k ≤ xs.length ∧ i = .int .i64 k ∧ x = .int .i64 (manyOf (xs.take k)) ∧ Below w.heap.size w wr) (fun _ i _ => xs.length - (intOf i).toNat)
  case atStart => exact ⟨0, Nat.zero_le _, rfl, by simp [manyOf], hb1⟩
  case round =>
    obtain ⟨k, hk, rfl, rfl, hb⟩ := hrel
    by_cases hlt : k < xs.length
    · have ht : xs[k]? = some xs[k] := List.getElem?_eq_getElem hlt
      have HX : Hid (manyOf (xs.take (k + 1)) = manyOf (xs.take k) * ic xs[k]) := manyOf_snoc ht
      obtain ⟨m0, m1⟩ := manyOf_bd HA.out k
      have m2 := pow3_le (by omega : k ≤ 24)
      have hvt := List.all_eq_true.1 HA.out _ (List.mem_of_getElem? ht)
      obtain ⟨i0, i1⟩ := ic_bd hvt
      have m3 : manyOf (xs.take k) * ic xs[k] ≤ 282429536481 * 3 := Int.mul_le_mul (by omega) i1 i0 (by decide)
      have m4 : 0 ≤ manyOf (xs.take k) * ic xs[k] := Int.mul_nonneg m0 i0
      have HW : Hid (IntKind.i64.wrap (manyOf (xs.take k) * ic xs[k]) = manyOf (xs.take k) * ic xs[k]) := IntWalk.i64_in _ (by omega)
      obtain ⟨e1, e2⟩ := HC.out k _ ht
      have e1 := (hb.cell (p := ⟨g, k * 2, none⟩) hgs).trans e1
      have e2 := (hb.cell (p := ⟨g, k * 2 + 1, none⟩) hgs).trans e2
      clear ht m0 m1 m2 i0 i1 m3 m4 hvt
      generalize xs[k] = t at HX HW e1 e2
      generalize manyOf (xs.take k) = x at HX HW
      obtain ⟨s, b⟩ := t
      have hic : ((hall s b 21).length : Int) = ic (s, b) := rfl
      have HIC := Lib.hid hic
      have hk0 : (0 : Int) ≤ (k : Int) := by omega
      have hk1 : (k : Int) < (xs.length : Int) := by omega
      clear hic
      go_wp2_with (fail)
      (go_at_call 33; refine (sHexAll_any s b _).mono ?_; rintro e w2 ⟨u, rfl, hru, hb2⟩)
      obtain ⟨ua, uc, rfl⟩ := hru.len
      have hW := HW.out
      rw [← HIC.out] at hW
      clear hru e1 e2
      go_wp2
      go_roundw
      case rel => exact ⟨k + 1, by omega, by go_num, by rw [HX.out, ← HIC.out], bl_step hb hb2⟩
      case measure => simp [intOf]; omega
    · have hk0 : k = xs.length := by omega
      subst hk0
      rw [List.take_length]
      go_wp2
      go_ret
      exact ⟨rfl, hb⟩
end Go.Proofs.Ytbmgejiinnnomab
