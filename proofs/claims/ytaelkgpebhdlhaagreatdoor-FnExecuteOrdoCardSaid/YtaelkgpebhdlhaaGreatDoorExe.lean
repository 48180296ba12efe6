/-
  The last line of a script's output, in the program.
-/
import Derived.Test.YtaelkgpebhdlhaaGreatDoorExo
import Derived.BigQuiet
namespace Go.Proofs.YtaelkgpebhdlhaaGreatDoor
open Go.RowKit
set_option maxRecDepth 100000
set_option linter.unusedVariables false

/-- "tones n entries m" -/
def end9 (n m : Nat) : ByteArray := ⟨#[116, 111, 110, 101, 115, 32]⟩ ++ itb n ++ ⟨#[32, 101, 110, 116, 114, 105, 101, 115, 32]⟩ ++ itb m
theorem itb_nat (i : Nat) : itb (i : Int) = ⟨(Lib.decDigits i).toArray⟩ := by
  unfold itb Lib.itoa
  rw [if_neg (by omega)]
  rfl
theorem itoaS (i : Nat) (hi : i < 100) (w : World) : Calls Tryz.prog 86 #[.int .i64 (i : Int)] w fun e w' => e = .returned (.string (itb (i : Int))) ∧ w' = w :=
  (Tryz.strconv_Itoa_small i hi w).mono fun e w' ⟨h1, h2⟩ => ⟨h1.trans (by rw [itb_nat]), h2⟩
theorem itb_small {i : Nat} (hi : i < 100) : (itb (i : Int)).size ≤ 2 := by
  have key : ∀ i, i < 100 → (Lib.decDigits i).length ≤ 2 := by decide +kernel
  rw [itb_nat]
  show (Lib.decDigits i).toArray.size ≤ 2
  simpa using key i hi

set_option maxHeartbeats 4000000 in
theorem ending_any (D n c m c' : Nat) (a a' : Option Addr) (w : World) (h : w.heap[D]? = some (.cells #[.slice a n c, .slice a' m c'] 58 (0, 0))) (hn : n < 100) (hm : m < 100) :
    Calls Tryz.prog 44 #[.pointer (some ⟨D, 0, none⟩)] w fun e w' => e = .returned (.string (end9 n m)) ∧ ∃ k, w' = w.drewN k := by
  have c0 : w.cell? ⟨D, 0, none⟩ = some (.slice a n c) := by simp [World.cell?, h]
  have c1 : w.cell? ⟨D, 1, none⟩ = some (.slice a' m c') := by simp [World.cell?, h]
  have HI := Lib.hid itoaS
  have s1 := itb_small hn
  have s2 := itb_small hm
  have HE : Hid (end9 n m = ⟨#[116, 111, 110, 101, 115, 32]⟩ ++ itb n ++ ⟨#[32, 101, 110, 116, 114, 105, 101, 115, 32]⟩ ++ itb m) := rfl
  generalize end9 n m = q at HE ⊢
  have HX : Hid (∃ x, itb (n : Int) = x) := ⟨_, rfl⟩
  have a1 : ∀ W : World, (Op.stringOp .add ⟨#[116, 111, 110, 101, 115, 32]⟩ (itb (n : Int))).run Tryz.prog W = .ok (.string (⟨#[116, 111, 110, 101, 115, 32]⟩ ++ itb (n : Int))) W := fun W => run_string_add_sum W _ _ (by show 6 + (itb (n : Int)).size ≤ _; omega)
  have z1 : ((⟨#[116, 111, 110, 101, 115, 32]⟩ : ByteArray) ++ itb (n : Int)).size ≤ 10 := by rw [ByteArray.size_append]; show 6 + (itb (n : Int)).size ≤ _; omega
  generalize (⟨#[116, 111, 110, 101, 115, 32]⟩ : ByteArray) ++ itb (n : Int) = p1 at a1 z1 HE
  have a2 : ∀ W : World, (Op.stringOp .add p1 ⟨#[32, 101, 110, 116, 114, 105, 101, 115, 32]⟩).run Tryz.prog W = .ok (.string (p1 ++ ⟨#[32, 101, 110, 116, 114, 105, 101, 115, 32]⟩)) W := fun W => run_string_add_sum W _ _ (by show p1.size + 9 ≤ _; omega)
  have z2 : (p1 ++ (⟨#[32, 101, 110, 116, 114, 105, 101, 115, 32]⟩ : ByteArray)).size ≤ 20 := by rw [ByteArray.size_append]; show p1.size + 9 ≤ _; omega
  generalize p1 ++ (⟨#[32, 101, 110, 116, 114, 105, 101, 115, 32]⟩ : ByteArray) = p2 at a2 z2 HE
  have a3 : ∀ W : World, (Op.stringOp .add p2 (itb (m : Int))).run Tryz.prog W = .ok (.string (p2 ++ itb (m : Int))) W := fun W => run_string_add_sum W _ _ (by omega)
  clear s1 s2 z1 z2 h
  go_enter Tryz.func44, Tryz.ntmps44
  go_wp2
  go_quiet (first | (go_at_call 86; exact Calls.quiet_of_same (HI.out _ (by assumption) _)))
  go_wp2
  go_ret
  exact ⟨by rw [HE.out]; rfl, _, rfl⟩
end Go.Proofs.YtaelkgpebhdlhaaGreatDoor
