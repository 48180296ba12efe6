/-
  The digits of a number, in the laws.
-/
import Derived.Test.YtaelkgpebhdlhaaGreatDoorExs
import Derived.Deep.QuietTactic
import Derived.BigQuiet
import Derived.IntWalk
namespace Go.Proofs.YtaelkgpebhdlhaaGreatDoor
open Go.RowKit
set_option maxRecDepth 100000
set_option linter.unusedVariables false

theorem dgt_one (c : UInt8) (w : World) :
    (convert 22 9 (.slice (some ⟨w.heap.size, 0, none⟩) 1 1)).run Tryz.prog (w.alloc (.cells #[.int .u8 (c.toNat : Int)] 5)) = .ok (.string ⟨#[c]⟩) (w.alloc (.cells #[.int .u8 (c.toNat : Int)] 5)) := by
  have h := run_convert_bytes_back (P := Tryz.prog) (w.alloc (.cells #[.int .u8 (c.toNat : Int)] 5)) 22 9 5 ⟨w.heap.size, 0, none⟩ 1 [c] Tryz.underlying22 Tryz.underlying5 Tryz.underlying9 (fun j hj => by
    have : j = 0 := by simpa using hj
    subst this
    simp [Addr.add])
  exact h
theorem dgt_u8 : ∀ d, d < 10 → (48 + d.toUInt8 : UInt8).toNat = 48 + d := by decide

set_option maxHeartbeats 1000000 in
theorem digits_one (d : Nat) (h : d < 10) (w : World) :
    Calls Tryz.prog 28 #[.int .i64 (d : Int)] w fun e w' => e = .returned (.string ⟨#[48 + d.toUInt8]⟩) ∧ Below w.heap.size w w' := by
  have cc := dgt_one (48 + d.toUInt8)
  rw [dgt_u8 d h] at cc
  have k0 : ((48 + d : Nat) : Int) = 48 + (d : Int) := by omega
  rw [k0] at cc
  have s1 : IntKind.i64.wrap (48 + (d : Int)) = 48 + (d : Int) := IntWalk.i64_in _ (by omega)
  have s2 : IntKind.u8.wrap (48 + (d : Int)) = 48 + (d : Int) := IntWalk.u8_in _ (by omega)
  have g1 : (d : Int) < 10 := by omega
  have g0 : (0 : Int) ≤ (d : Int) := by omega
  clear k0 h
  generalize (48 + d.toUInt8) = c at cc
  go_enter Tryz.func28, Tryz.ntmps28
  go_wp2_with (fail)
  go_ret
  exact ⟨rfl, by (repeat' (first | (with_reducible exact Below.refl _ _) | (with_reducible refine Below.alloc ?_ ?_ _) | (with_reducible refine Below.drew ?_) | (with_reducible refine Below.setCell ?_ ?_ _) | (with_reducible refine bl_step ?_ (by assumption)) | go_size))⟩

theorem dgt_conv (c : UInt8) (z : Int) (hz : (c.toNat : Int) = z) (B : Nat) (W : World) (h : W.cell? ⟨B, 0, none⟩ = some (.int .u8 z)) :
    (convert 22 9 (.slice (some ⟨B, 0, none⟩) 1 1)).run Tryz.prog W = .ok (.string ⟨#[c]⟩) W :=
  run_convert_bytes_back (P := Tryz.prog) W 22 9 5 ⟨B, 0, none⟩ 1 [c] Tryz.underlying22 Tryz.underlying5 Tryz.underlying9 (fun j hj => by
    have : j = 0 := by simpa using hj
    subst this
    simpa [Addr.add, hz] using h)

set_option maxHeartbeats 2000000 in
theorem digits_two (q r : Nat) (hq : 1 ≤ q) (hq9 : q < 10) (hr : r < 10) (w : World) :
    Calls Tryz.prog 28 #[.int .i64 (10 * (q : Int) + (r : Int))] w fun e w' => e = .returned (.string (⟨#[48 + q.toUInt8, 48 + r.toUInt8]⟩)) ∧ Below w.heap.size w w' := by
  have cc := dgt_one (48 + r.toUInt8)
  rw [dgt_u8 r hr] at cc
  have k0 : ((48 + r : Nat) : Int) = 48 + (r : Int) := by omega
  have HC : Hid (((48 + r.toUInt8 : UInt8).toNat : Int) = 48 + (r : Int)) := by show (((48 + r.toUInt8 : UInt8).toNat : Nat) : Int) = _; rw [dgt_u8 r hr, k0]
  rw [k0] at cc
  have HD := Lib.hid (digits_one q hq9)
  obtain ⟨n, hn⟩ : ∃ n : Int, 10 * (q : Int) + (r : Int) = n := ⟨_, rfl⟩
  have s1 : IntKind.i64.wrap (48 + (r : Int)) = 48 + (r : Int) := IntWalk.i64_in _ (by omega)
  have s2 : IntKind.u8.wrap (48 + (r : Int)) = 48 + (r : Int) := IntWalk.u8_in _ (by omega)
  have s3 : n.tdiv 10 = (q : Int) := by rw [Int.tdiv_eq_ediv_of_nonneg (by omega)]; omega
  have s4 : n.tmod 10 = (r : Int) := by rw [Int.tmod_eq_emod_of_nonneg (by omega)]; omega
  have s5 : IntKind.i64.wrap (q : Int) = (q : Int) := IntWalk.i64_in _ (by omega)
  have s6 : IntKind.i64.wrap (r : Int) = (r : Int) := IntWalk.i64_in _ (by omega)
  have s7 : n / 10 = (q : Int) := by omega
  have s8 : n % 10 = (r : Int) := by omega
  have g1 : ¬ (n < 10) := by omega
  have g0 : (0 : Int) ≤ n := by omega
  have hadd : ∀ W : World, (Op.stringOp .add ⟨#[48 + q.toUInt8]⟩ ⟨#[48 + r.toUInt8]⟩).run Tryz.prog W = .ok (.string ⟨#[48 + q.toUInt8, 48 + r.toUInt8]⟩) W := fun W =>
    run_string_add_sum W _ _ (by show 1 + 1 ≤ 9223372036854775807; omega)
  rw [hn]
  clear k0 hq hq9 hr hn
  generalize (48 + r.toUInt8) = c at cc hadd HC
  generalize (48 + q.toUInt8) = c2 at hadd HD
  have cc2 : (convert 22 9 (.slice (some ⟨w.heap.size, 0, none⟩) 1 1)).run Tryz.prog (w.alloc (.cells #[.int .u8 (48 + (r : Int))] 5)).drew = .ok (.string ⟨#[c]⟩) (w.alloc (.cells #[.int .u8 (48 + (r : Int))] 5)).drew := dgt_conv c _ HC.out w.heap.size _ (by go_simp)
  have cc3 : (convert 22 9 (.slice (some ⟨w.heap.size, 0, none⟩) 1 1)).run Tryz.prog (w.drew.alloc (.cells #[.int .u8 (48 + (r : Int))] 5)) = .ok (.string ⟨#[c]⟩) (w.drew.alloc (.cells #[.int .u8 (48 + (r : Int))] 5)) := dgt_conv c _ HC.out w.heap.size _ (by go_simp)
  go_enter Tryz.func28, Tryz.ntmps28
  go_wp2_with (fail)
  go_region_with (go_at_call 28; refine (HD.out _).mono ?_; rintro e w1 ⟨rfl, hb1⟩; (try (refine got (p := w1.cell? ⟨w.heap.size, 0, none⟩ = some (.int .u8 (48 + (r : Int)))) ?_ ?_; (focus (refine (hb1.cell (p := ⟨w.heap.size, 0, none⟩) ?_).trans ?_; (focus (go_size; done)); go_simp; done)); intro cz; have cc1 := dgt_conv c _ HC.out w.heap.size w1 cz)))
  all_goals go_wp2
  all_goals go_ret
  all_goals exact ⟨rfl, by ((repeat' (first | (with_reducible exact Below.refl _ _) | (with_reducible refine Below.alloc ?_ ?_ _) | (with_reducible refine Below.drew ?_) | (with_reducible refine Below.setCell ?_ ?_ _) | (with_reducible refine bl_step ?_ (by assumption)) | go_size)); all_goals (have := hb1.size; simp at this; omega))⟩


theorem dgt_cast {n : Nat} (h : n < 10) : UInt8.ofNat (48 + n) = 48 + n.toUInt8 := by
  have : n = 0 ∨ n = 1 ∨ n = 2 ∨ n = 3 ∨ n = 4 ∨ n = 5 ∨ n = 6 ∨ n = 7 ∨ n = 8 ∨ n = 9 := by omega
  rcases this with rfl | rfl | rfl | rfl | rfl | rfl | rfl | rfl | rfl | rfl <;> rfl
/-- the digits of a number are those that strconv.Itoa tells -/
theorem digits_any (n : Nat) (h : n < 100) (w : World) : Calls Tryz.prog 28 #[.int .i64 (n : Int)] w fun e w' => e = .returned (.string (itb (n : Int))) ∧ Below w.heap.size w w' := by
  rw [dg_itb h]
  unfold dg
  by_cases h1 : n < 10
  · rw [if_pos h1, dgt_cast h1]
    exact digits_one n h1 w
  · rw [if_neg h1, dgt_cast (by omega), dgt_cast (by omega)]
    have := digits_two (n / 10) (n % 10) (by omega) (by omega) (by omega) w
    rw [show 10 * ((n / 10 : Nat) : Int) + ((n % 10 : Nat) : Int) = (n : Int) by omega] at this
    exact this

set_option maxHeartbeats 2000000 in
theorem endLine_none (w : World) : Calls Tryz.prog 24 #[.int .i64 0, .int .i64 0] w fun e w' => e = .returned (.string (end9 0 0 ++ ⟨#[10]⟩)) ∧ Below w.heap.size w w' := by
  have HD := Lib.hid (fun w => digits_any 0 (by decide) w)
  have s1 : (itb ((0 : Nat) : Int)).size ≤ 2 := itb_small (by decide)
  have HE : Hid (end9 0 0 = ⟨#[116, 111, 110, 101, 115, 32]⟩ ++ itb ((0 : Nat) : Int) ++ ⟨#[32, 101, 110, 116, 114, 105, 101, 115, 32]⟩ ++ itb ((0 : Nat) : Int)) := rfl
  generalize end9 0 0 = q at HE ⊢
  have e0 : ((0 : Nat) : Int) = 0 := rfl
  rw [e0] at HD s1 HE
  generalize itb (0 : Int) = z at HD s1 HE
  have a1 : ∀ W : World, (Op.stringOp .add ⟨#[116, 111, 110, 101, 115, 32]⟩ z).run Tryz.prog W = .ok (.string (⟨#[116, 111, 110, 101, 115, 32]⟩ ++ z)) W := fun W => run_string_add_sum W _ _ (by show 6 + z.size ≤ _; omega)
  have z1 : ((⟨#[116, 111, 110, 101, 115, 32]⟩ : ByteArray) ++ z).size ≤ 10 := by rw [ByteArray.size_append]; show 6 + z.size ≤ _; omega
  generalize (⟨#[116, 111, 110, 101, 115, 32]⟩ : ByteArray) ++ z = p1 at a1 z1 HE
  have a2 : ∀ W : World, (Op.stringOp .add p1 ⟨#[32, 101, 110, 116, 114, 105, 101, 115, 32]⟩).run Tryz.prog W = .ok (.string (p1 ++ ⟨#[32, 101, 110, 116, 114, 105, 101, 115, 32]⟩)) W := fun W => run_string_add_sum W _ _ (by show p1.size + 9 ≤ _; omega)
  have z2 : (p1 ++ (⟨#[32, 101, 110, 116, 114, 105, 101, 115, 32]⟩ : ByteArray)).size ≤ 20 := by rw [ByteArray.size_append]; show p1.size + 9 ≤ _; omega
  generalize p1 ++ (⟨#[32, 101, 110, 116, 114, 105, 101, 115, 32]⟩ : ByteArray) = p2 at a2 z2 HE
  have a3 : ∀ W : World, (Op.stringOp .add p2 z).run Tryz.prog W = .ok (.string (p2 ++ z)) W := fun W => run_string_add_sum W _ _ (by omega)
  have z3 : (p2 ++ z).size ≤ 30 := by rw [ByteArray.size_append]; omega
  have e3 : p2 ++ z = q := HE.out.symm
  rw [e3] at a3 z3
  have a4 : ∀ W : World, (Op.stringOp .add q ⟨#[10]⟩).run Tryz.prog W = .ok (.string (q ++ ⟨#[10]⟩)) W := fun W => run_string_add_sum W _ _ (by show q.size + 1 ≤ _; omega)
  clear s1 z1 z2 z3 e3
  go_enter Tryz.func24, Tryz.ntmps24
  go_wp2_with (fail)
  (go_at_call 28; refine (HD.out _).mono ?_; rintro e w1 ⟨rfl, hb1⟩)
  go_wp2_with (fail)
  (go_at_call 28; refine (HD.out _).mono ?_; rintro e w2 ⟨rfl, hb2⟩)
  go_wp2
  go_ret
  exact ⟨rfl, bl_step hb1 hb2⟩

theorem ordS_is {m n : Nat} (hm : m < 100) (hn : n < 100) : (⟨#[111, 114, 100, 111, 32]⟩ : ByteArray) ++ itb (m : Int) ++ ⟨#[32]⟩ ++ itb (n : Int) ++ ⟨#[10]⟩ = ordS m n := by
  rw [dg_itb hm, dg_itb hn]
  unfold ordS
  simp [ByteArray.mk_append_mk]
theorem ordOut_is (m n : Nat) : wnb ⟨#[111, 114, 100, 111]⟩ (oLst m n) ++ ⟨#[32, 114, 101, 115, 116, 32]⟩ ++ itb (oRst m n) ++ ⟨#[10]⟩ ++ (end9 0 0 ++ ⟨#[10]⟩) = ordOut m n := by
  unfold ordOut ordT
  simp only [ByteArray.append_assoc]
end Go.Proofs.YtaelkgpebhdlhaaGreatDoor
