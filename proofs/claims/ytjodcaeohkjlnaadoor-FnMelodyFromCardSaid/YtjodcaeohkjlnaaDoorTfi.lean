/-
  What a text tells, in the program: its two bytes are looked at.
-/
import Derived.Test.YtjodcaeohkjlnaaDoorTones
import Derived.Test.YtjodcaeohkjlnaaDoorTxm
import Derived.Test.YtjodcaeohkjlnaaDoorShelf
import Derived.Deep.QuietTactic
import Derived.BigQuiet
import Derived.IntWalk
namespace Go.Proofs.YtjodcaeohkjlnaaDoor
open Go.RowKit
set_option maxRecDepth 100000
set_option linter.unusedVariables false

theorem bl_drewN6 {B : Nat} {a w : World} (h : Below B a w) (n : Nat) : Below B a (w.drewN n) := ⟨h.os, h.tape, h.output, h.size, h.block⟩
theorem pl_soft {c0 : UInt8} (h : c0.toNat = 98) : pl c0 = 2 ∧ (c0 == 98) = true := by
  have : c0 = 98 := UInt8.toNat_inj.1 h
  subst this
  exact ⟨rfl, rfl⟩
theorem pl_hard {c0 : UInt8} (h : c0.toNat ≠ 98) : Lib.indexByte [71, 65, 66, 67, 68, 69, 70] c0 = pl c0 ∧ (c0 == 98) = false := by
  have : (c0 == 98) = false := by
    rw [beq_eq_false_iff_ne]
    intro e; subst e; exact h rfl
  exact ⟨by simp [pl, this], this⟩
theorem pl_bd (c0 : UInt8) : -1 ≤ pl c0 ∧ pl c0 ≤ 6 := by rcases pl_cases c0 with h | h | h <;> omega

set_option maxHeartbeats 4000000 in
theorem toneFrom_any (l : ByteArray) (hl : l.size ≤ 9223372036854775807) (w : World) :
    Calls Tryd.prog 23 #[.string l] w fun e w' => e = .returned (.tuple #[.agg #[.int .i64 (tfr l).1, .bool (tfr l).2.1], .bool (tfr l).2.2]) ∧ Below w.heap.size w w' := by
  by_cases h2 : l.size = 2
  case neg =>
    have HF := Lib.hid (tfr_len h2)
    have g0 : ((l.size : Int) != 2) = true := by simp; omega
    clear h2
    go_enter Tryd.func23, Tryd.ntmps23
    go_wp2
    refine bodyPost_ret (v := .tuple #[.agg #[.int .i64 0, .bool false], .bool false]) (by simp only [results, Tryd.results23]; go_simp) rfl ⟨by rw [HF.out], by (repeat' (first | (with_reducible exact Below.refl _ _) | (with_reducible refine Below.alloc ?_ ?_ _) | (with_reducible refine Below.drew ?_) | (with_reducible refine Below.setCell ?_ ?_ _) | (with_reducible refine bl_step ?_ (by assumption)) | go_size))⟩
  obtain ⟨c0, c1, rfl⟩ : ∃ c0 c1, l = ⟨#[c0, c1]⟩ := by
    obtain ⟨⟨d⟩⟩ := l
    match d, h2 with
    | [a, b], _ => exact ⟨a, b, rfl⟩
  have hc0 : c0.toNat < 256 := c0.toNat_lt
  have hc1 : c1.toNat < 256 := c1.toNat_lt
  obtain ⟨p0, p1⟩ := pl_bd c0
  have HN : Hid (pl c0 < 0 ∨ vd (st c0 c1) (c0 == 98) = false → tfr ⟨#[c0, c1]⟩ = (0, false, false)) := tfr_two_no rfl
  have HY : Hid (0 ≤ pl c0 → vd (st c0 c1) (c0 == 98) = true → tfr ⟨#[c0, c1]⟩ = (st c0 c1, (c0 == 98), true)) := tfr_two_yes rfl
  have HS : Hid (st c0 c1 = ((c1.toNat : Int) - 48) * 7 + pl c0) := (rfl : st c0 c1 = _)
  have hx0 : ∀ h, (⟨#[c0, c1]⟩ : ByteArray)[0]'h = c0 := fun _ => rfl
  have hx1 : ∀ h, (⟨#[c0, c1]⟩ : ByteArray)[1]'h = c1 := fun _ => rfl
  have hI : ∀ c : UInt8, ((c.toNat : Int).toNat.toUInt8) = c := fun c => by apply UInt8.toNat_inj.1; simp
  by_cases h98 : c0.toNat = 98
  · obtain ⟨q0, q1⟩ := pl_soft h98
    rw [q0] at HS
    rw [q0, q1] at HN HY
    have g1 : ((c0.toNat : Int) == 98) = true := by simp; omega
    have KB : ∀ W : World, Calls Tryd.prog 83 #[.string ⟨#[71, 65, 66, 67, 68, 69, 70]⟩, .int .u8 66] W fun e w' => e = .returned (.int .i64 2) ∧ W = w' := fun W => (Tryd.strings_IndexByte _ _ W).mono fun e w' ⟨h1, h2⟩ => ⟨h1, h2.symm⟩
    have HK := Lib.hid KB
    clear KB q0 q1 p0 p1 hc0 hI h98
    generalize hz : (c1.toNat : Int) = z at HS
    have z0 : 0 ≤ z := by omega
    have z1 : z ≤ 255 := by omega
    generalize st c0 c1 = s at HS HN HY
    have hs : s = (z - 48) * 7 + 2 := HS.out
    clear HS hc1
    subst hs
    by_cases hv : vd ((z - 48) * 7 + 2) true = false
    · have HF := Lib.hid (HN.out (.inr hv))
      clear HN HY
      go_enter Tryd.func23, Tryd.ntmps23
      go_wp2
      go_quiet (fail)
      go_wp2_with (fail)
      (go_at_call 83; refine (HK.out _).mono ?_; rintro e wx ⟨rfl, rfl⟩)
      go_wp2_with (fail)
      (go_at_call 78; refine (valid_any _ _ _).mono ?_; rintro e w1 ⟨rfl, hb1⟩)
      have r0 : w1.cell? ⟨w.heap.size, 0, none⟩ = some (.int .i64 0) := (hb1.cell (p := ⟨w.heap.size, 0, none⟩) (by simp; omega)).trans (by go_simp)
      have r1 : w1.cell? ⟨w.heap.size, 1, none⟩ = some (.bool false) := (hb1.cell (p := ⟨w.heap.size, 1, none⟩) (by simp; omega)).trans (by go_simp)
      have rf : ∀ o, w1.frozen? ⟨w.heap.size, o, none⟩ = false := fun o => (hb1.frozen (p := ⟨w.heap.size, o, none⟩) (by simp; omega)).trans (by go_simp)
      have u0 : w1.cell? ⟨w.heap.size + 1, 0, none⟩ = some (.int .i64 ((z - 48) * 7 + 2)) := (hb1.cell (p := ⟨w.heap.size + 1, 0, none⟩) (by simp)).trans (by go_simp)
      have u1 : w1.cell? ⟨w.heap.size + 1, 1, none⟩ = some (.bool true) := (hb1.cell (p := ⟨w.heap.size + 1, 1, none⟩) (by simp)).trans (by go_simp)
      have hbw : Below w.heap.size w w1 := bl_step (((bl_drewN6 ((Below.refl _ _).alloc (Nat.le_refl _) _) _).alloc (by simp) _)) hb1
      go_wp2
      refine bodyPost_ret (v := .tuple #[.agg #[.int .i64 0, .bool false], .bool false]) (by simp only [results, Tryd.results23]; go_simp) rfl ⟨by rw [HF.out], ?_⟩
      exact (hbw.setCell (Nat.le_refl _) _).setCell (Nat.le_refl _) _
    · rw [Bool.not_eq_false] at hv
      have HF := Lib.hid (HY.out (by omega) hv)
      clear HN HY
      go_enter Tryd.func23, Tryd.ntmps23
      go_wp2
      go_quiet (fail)
      go_wp2_with (fail)
      (go_at_call 83; refine (HK.out _).mono ?_; rintro e wx ⟨rfl, rfl⟩)
      go_wp2_with (fail)
      (go_at_call 78; refine (valid_any _ _ _).mono ?_; rintro e w1 ⟨rfl, hb1⟩)
      have r0 : w1.cell? ⟨w.heap.size, 0, none⟩ = some (.int .i64 0) := (hb1.cell (p := ⟨w.heap.size, 0, none⟩) (by simp; omega)).trans (by go_simp)
      have r1 : w1.cell? ⟨w.heap.size, 1, none⟩ = some (.bool false) := (hb1.cell (p := ⟨w.heap.size, 1, none⟩) (by simp; omega)).trans (by go_simp)
      have rf : ∀ o, w1.frozen? ⟨w.heap.size, o, none⟩ = false := fun o => (hb1.frozen (p := ⟨w.heap.size, o, none⟩) (by simp; omega)).trans (by go_simp)
      have u0 : w1.cell? ⟨w.heap.size + 1, 0, none⟩ = some (.int .i64 ((z - 48) * 7 + 2)) := (hb1.cell (p := ⟨w.heap.size + 1, 0, none⟩) (by simp)).trans (by go_simp)
      have u1 : w1.cell? ⟨w.heap.size + 1, 1, none⟩ = some (.bool true) := (hb1.cell (p := ⟨w.heap.size + 1, 1, none⟩) (by simp)).trans (by go_simp)
      have hbw : Below w.heap.size w w1 := bl_step (((bl_drewN6 ((Below.refl _ _).alloc (Nat.le_refl _) _) _).alloc (by simp) _)) hb1
      go_wp2
      refine bodyPost_ret (v := .tuple #[.agg #[.int .i64 ((z - 48) * 7 + 2), .bool true], .bool true]) (by simp only [results, Tryd.results23]; go_simp) rfl ⟨by rw [HF.out], ?_⟩
      exact (hbw.setCell (Nat.le_refl _) _).setCell (Nat.le_refl _) _
  · obtain ⟨q0, q1⟩ := pl_hard h98
    rw [q1] at HN HY
    have g1 : ((c0.toNat : Int) == 98) = false := by simp; omega
    have KB : ∀ W : World, Calls Tryd.prog 83 #[.string ⟨#[71, 65, 66, 67, 68, 69, 70]⟩, .int .u8 (c0.toNat : Int)] W fun e w' => e = .returned (.int .i64 (pl c0)) ∧ W = w' := fun W => (Tryd.strings_IndexByte _ _ W).mono fun e w' ⟨h1, h2⟩ => ⟨by rw [h1, hI]; rw [← q0], h2.symm⟩
    have HK := Lib.hid KB
    clear KB q0 q1 hc0 hI h98
    generalize hz : (c1.toNat : Int) = z at HS
    have z0 : 0 ≤ z := by omega
    have z1 : z ≤ 255 := by omega
    generalize st c0 c1 = s at HS HN HY
    generalize pl c0 = p at p0 p1 HS HN HY HK
    have hs : s = (z - 48) * 7 + p := HS.out
    clear HS hc1
    subst hs
    by_cases hp : p < 0
    · have HF := Lib.hid (HN.out (.inl hp))
      clear HN HY
      go_enter Tryd.func23, Tryd.ntmps23
      go_wp2
      go_quiet (fail)
      go_wp2_with (fail)
      (go_at_call 83; refine (HK.out _).mono ?_; rintro e wx ⟨rfl, rfl⟩)
      go_wp2
      refine bodyPost_ret (v := .tuple #[.agg #[.int .i64 0, .bool false], .bool false]) (by simp only [results, Tryd.results23]; go_simp) rfl ⟨by rw [HF.out], ?_⟩
      (repeat' (first | (with_reducible exact Below.refl _ _) | (with_reducible refine Below.alloc ?_ ?_ _) | (with_reducible refine Below.drew ?_) | (with_reducible refine bl_drewN6 ?_ _) | (with_reducible refine Below.setCell ?_ ?_ _) | go_size))
    have hp' : decide (p < 0) = false := by simpa using hp
    by_cases hv : vd ((z - 48) * 7 + p) false = false
    · have HF := Lib.hid (HN.out (.inr hv))
      clear HN HY hp
      go_enter Tryd.func23, Tryd.ntmps23
      go_wp2
      go_quiet (fail)
      go_wp2_with (fail)
      (go_at_call 83; refine (HK.out _).mono ?_; rintro e wx ⟨rfl, rfl⟩)
      go_wp2_with (fail)
      (go_at_call 78; refine (valid_any _ _ _).mono ?_; rintro e w1 ⟨rfl, hb1⟩)
      have r0 : w1.cell? ⟨w.heap.size, 0, none⟩ = some (.int .i64 0) := (hb1.cell (p := ⟨w.heap.size, 0, none⟩) (by simp; omega)).trans (by go_simp)
      have r1 : w1.cell? ⟨w.heap.size, 1, none⟩ = some (.bool false) := (hb1.cell (p := ⟨w.heap.size, 1, none⟩) (by simp; omega)).trans (by go_simp)
      have rf : ∀ o, w1.frozen? ⟨w.heap.size, o, none⟩ = false := fun o => (hb1.frozen (p := ⟨w.heap.size, o, none⟩) (by simp; omega)).trans (by go_simp)
      have u0 : w1.cell? ⟨w.heap.size + 1, 0, none⟩ = some (.int .i64 ((z - 48) * 7 + p)) := (hb1.cell (p := ⟨w.heap.size + 1, 0, none⟩) (by simp)).trans (by go_simp)
      have u1 : w1.cell? ⟨w.heap.size + 1, 1, none⟩ = some (.bool false) := (hb1.cell (p := ⟨w.heap.size + 1, 1, none⟩) (by simp)).trans (by go_simp)
      have hbw : Below w.heap.size w w1 := bl_step (((bl_drewN6 ((Below.refl _ _).alloc (Nat.le_refl _) _) _).alloc (by simp) _)) hb1
      go_wp2
      refine bodyPost_ret (v := .tuple #[.agg #[.int .i64 0, .bool false], .bool false]) (by simp only [results, Tryd.results23]; go_simp) rfl ⟨by rw [HF.out], ?_⟩
      exact (hbw.setCell (Nat.le_refl _) _).setCell (Nat.le_refl _) _
    · rw [Bool.not_eq_false] at hv
      have HF := Lib.hid (HY.out (by omega) hv)
      clear HN HY hp
      go_enter Tryd.func23, Tryd.ntmps23
      go_wp2
      go_quiet (fail)
      go_wp2_with (fail)
      (go_at_call 83; refine (HK.out _).mono ?_; rintro e wx ⟨rfl, rfl⟩)
      go_wp2_with (fail)
      (go_at_call 78; refine (valid_any _ _ _).mono ?_; rintro e w1 ⟨rfl, hb1⟩)
      have r0 : w1.cell? ⟨w.heap.size, 0, none⟩ = some (.int .i64 0) := (hb1.cell (p := ⟨w.heap.size, 0, none⟩) (by simp; omega)).trans (by go_simp)
      have r1 : w1.cell? ⟨w.heap.size, 1, none⟩ = some (.bool false) := (hb1.cell (p := ⟨w.heap.size, 1, none⟩) (by simp; omega)).trans (by go_simp)
      have rf : ∀ o, w1.frozen? ⟨w.heap.size, o, none⟩ = false := fun o => (hb1.frozen (p := ⟨w.heap.size, o, none⟩) (by simp; omega)).trans (by go_simp)
      have u0 : w1.cell? ⟨w.heap.size + 1, 0, none⟩ = some (.int .i64 ((z - 48) * 7 + p)) := (hb1.cell (p := ⟨w.heap.size + 1, 0, none⟩) (by simp)).trans (by go_simp)
      have u1 : w1.cell? ⟨w.heap.size + 1, 1, none⟩ = some (.bool false) := (hb1.cell (p := ⟨w.heap.size + 1, 1, none⟩) (by simp)).trans (by go_simp)
      have hbw : Below w.heap.size w w1 := bl_step (((bl_drewN6 ((Below.refl _ _).alloc (Nat.le_refl _) _) _).alloc (by simp) _)) hb1
      go_wp2
      refine bodyPost_ret (v := .tuple #[.agg #[.int .i64 ((z - 48) * 7 + p), .bool false], .bool true]) (by simp only [results, Tryd.results23]; go_simp) rfl ⟨by rw [HF.out], ?_⟩
      exact (hbw.setCell (Nat.le_refl _) _).setCell (Nat.le_refl _) _
end Go.Proofs.YtjodcaeohkjlnaaDoor
