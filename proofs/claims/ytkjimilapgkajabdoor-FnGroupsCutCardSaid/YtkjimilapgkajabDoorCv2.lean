/-
  ContourValid in both programs.
-/
import Derived.Test.YtkjimilapgkajabDoorCv
import Derived.Deep.QuietTactic
import Derived.BigQuiet
namespace Go.Proofs.YtkjimilapgkajabDoor
open Go.RowKit
set_option maxRecDepth 100000
set_option linter.unusedVariables false

set_option maxHeartbeats 4000000 in
theorem sContourValid_any (s : ByteArray) (hs : s.size ≤ 4611686018427387904) (w : World) :
    Calls Tryd.prog 117 #[.string s] w fun e w' => e = .returned (.bool (cv s)) ∧ Below w.heap.size w w' := by
  go_enter Tryd.func117, Tryd.ntmps117
  go_wp2
  go_loopw [3] (fun i wr => ∃ k : Nat, k ≤ s.size ∧ i = .int .i64 k ∧ Ways s k ∧ Below w.heap.size w wr) (fun i _ => s.size - (intOf i).toNat)
  case atStart => exact ⟨0, Nat.zero_le _, rfl, Ways.zero s, Below.refl _ _⟩
  case round =>
    obtain ⟨k, hk, rfl, hw, hb⟩ := hrel
    by_cases hlt : k < s.size
    · have k1 : (k : Int) < (s.size : Int) := by omega
      have k0 : (0 : Int) ≤ (k : Int) := by omega
      rcases way_cases hlt with ⟨hy, h1⟩ | ⟨hn, h1, h2, h3⟩
      · have HN := Lib.hid (hw.next hlt hy)
        clear hw hy
        rcases h1 with h1 | ⟨h1, h2⟩ | ⟨h1, h2, h3⟩
        all_goals
          go_wp2
          go_roundw
          case rel => exact ⟨k + 1, by omega, by go_num, HN.out, hb⟩
          case measure => simp [intOf]; omega
      · have HF := Lib.hid (cv_bad hlt hn)
        clear hw hn
        go_wp2
        go_ret
        exact ⟨by rw [HF.out]; rfl, hb⟩
    · have hke : k = s.size := by omega
      subst hke
      have HF := Lib.hid hw.cv
      clear hw
      go_wp2
      go_ret
      have e : decide ((s.size : Int) < 24) = decide (s.size ≤ 23) := by rw [Bool.eq_iff_iff]; simp; omega
      exact ⟨by rw [HF.out, ← e]; rfl, hb⟩

set_option maxHeartbeats 4000000 in
theorem contourValid_any (s : ByteArray) (w : World) :
    Calls Tryd.prog 31 #[.string s] w fun e w' => e = .returned (.bool (cv s)) ∧ Below w.heap.size w w' := by
  by_cases hl : 23 < s.size
  · have HF := Lib.hid (cv_long hl)
    have k1 : (23 : Int) < (s.size : Int) := by omega
    go_enter Tryd.func31, Tryd.ntmps31
    go_wp2
    go_ret
    exact ⟨by rw [HF.out]; rfl, Below.refl _ _⟩
  have kl : (s.size : Int) ≤ 23 := by omega
  go_enter Tryd.func31, Tryd.ntmps31
  go_wp2
  go_loopw [9] (fun i wr => ∃ k : Nat, k ≤ s.size ∧ i = .int .i64 k ∧ Ways s k ∧ Below w.heap.size w wr) (fun i _ => s.size - (intOf i).toNat)
  case atStart => exact ⟨0, Nat.zero_le _, rfl, Ways.zero s, Below.refl _ _⟩
  case round =>
    obtain ⟨k, hk, rfl, hw, hb⟩ := hrel
    by_cases hlt : k < s.size
    · have k1 : (k : Int) < (s.size : Int) := by omega
      have k0 : (0 : Int) ≤ (k : Int) := by omega
      rcases way_cases hlt with ⟨hy, h1⟩ | ⟨hn, h1, h2, h3⟩
      · have HN := Lib.hid (hw.next hlt hy)
        clear hw hy
        rcases h1 with h1 | ⟨h1, h2⟩ | ⟨h1, h2, h3⟩
        all_goals
          go_wp2
          go_roundw
          case rel => exact ⟨k + 1, by omega, by go_num, HN.out, hb⟩
          case measure => simp [intOf]; omega
      · have HF := Lib.hid (cv_bad hlt hn)
        clear hw hn
        go_wp2
        go_ret
        exact ⟨by rw [HF.out]; rfl, hb⟩
    · have hke : k = s.size := by omega
      subst hke
      have HF : Hid (cv s = true) := by
        show cv s = true
        rw [hw.cv]; simp; omega
      clear hw
      go_wp2
      go_ret
      exact ⟨by rw [HF.out]; rfl, hb⟩
end Go.Proofs.YtkjimilapgkajabDoor
