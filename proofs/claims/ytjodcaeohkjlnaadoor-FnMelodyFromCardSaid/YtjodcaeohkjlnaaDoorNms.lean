/-
  How many names stand in a text: the laws' own count.
-/
import Derived.Test.YtjodcaeohkjlnaaDoorBase
import Derived.WalkLawsBesides
import Derived.Handy
import Derived.Deep.QuietTactic
import Derived.BigQuiet
namespace Go.Proofs.YtjodcaeohkjlnaaDoor
open Go.RowKit
set_option maxRecDepth 100000
set_option linter.unusedVariables false

def nmc (l : List UInt8) : Nat := if l = [] then 0 else l.count 32 + 1
theorem count_snoc (s : ByteArray) (k : Nat) (h : k < s.size) : (s.data.toList.take (k + 1)).count 32 = (s.data.toList.take k).count 32 + (if s[k].toNat = 32 then 1 else 0) := by
  have e : s.data.toList.take (k + 1) = s.data.toList.take k ++ [s[k]] := by
    rw [List.take_succ_eq_append_getElem (by simpa using h)]; rfl
  rw [e, List.count_append, List.count_singleton]
  have : (s[k] == 32) = decide (s[k].toNat = 32) := by
    rw [Bool.eq_iff_iff, beq_iff_eq, decide_eq_true_iff]
    exact ⟨fun h => by rw [h]; rfl, fun h => UInt8.toNat_inj.1 h⟩
  rw [this]
  simp
set_option maxHeartbeats 2000000 in
theorem names_any (s : ByteArray) (hs : s.size ≤ 1000000) (w : World) :
    Calls Tryd.prog 39 #[.string s] w fun e w' => e = .returned (.int .i64 ((nmc s.data.toList : Nat) : Int)) ∧ Below w.heap.size w w' := by
  by_cases he : s.data.toList = []
  · have hse : s = ⟨#[]⟩ := by
      obtain ⟨⟨d⟩⟩ := s
      have : d = [] := he
      rw [this]
    subst hse
    go_enter Tryd.func39, Tryd.ntmps39
    go_wp2
    go_ret
    exact ⟨rfl, Below.refl _ _⟩
  have g0 : s.toList.isEmpty = false := by rw [ByteArray.toList_eq]; simpa using he
  have HE : Hid (nmc s.data.toList = s.data.toList.count 32 + 1) := by show nmc s.data.toList = _; unfold nmc; rw [if_neg he]
  clear he
  go_enter Tryd.func39, Tryd.ntmps39
  go_wp2
  go_loopw [3, 4] (fun n i wr => ∃ k m : Nat, k ≤ s.size ∧ i = .int .i64 k ∧ n = .int .i64 ((m : Int) + 1) ∧ m ≤ k ∧ Hid (m = (s.data.toList.take k).count 32) ∧ Below w.heap.size w wr) (fun _ i _ => s.size - (intOf i).toNat)
  case atStart => exact ⟨0, 0, Nat.zero_le _, rfl, rfl, Nat.le_refl _, rfl, Below.refl _ _⟩
  case round =>
    obtain ⟨k, m, hk, rfl, rfl, hm, HM, hb⟩ := hrel
    by_cases hlt : k < s.size
    · have k1 : (k : Int) < (s.size : Int) := by omega
      have k0 : (0 : Int) ≤ (k : Int) := by omega
      have HC := Lib.hid (count_snoc s k hlt)
      by_cases h32 : s[k].toNat = 32
      · have g1 : ((s[k].toNat : Int) == 32) = true := by simp; omega
        have HN : Hid (m + 1 = (s.data.toList.take (k + 1)).count 32) := by
          show _ = _
          rw [HC.out, if_pos h32, ← HM.out]
        clear h32 HC
        go_wp2
        go_roundw
        case rel => exact ⟨k + 1, m + 1, by omega, by go_num, by go_num, by omega, HN.out, hb⟩
        case measure => simp [intOf]; omega
      · have g1 : ((s[k].toNat : Int) == 32) = false := by simp; omega
        have HN : Hid (m = (s.data.toList.take (k + 1)).count 32) := by
          show _ = _
          rw [HC.out, if_neg h32, ← HM.out]; rfl
        clear h32 HC
        go_wp2
        go_roundw
        case rel => exact ⟨k + 1, m, by omega, by go_num, rfl, by omega, HN.out, hb⟩
        case measure => simp [intOf]; omega
    · have hke : k = s.size := by omega
      subst hke
      have HF : Hid (((nmc s.data.toList : Nat) : Int) = (m : Int) + 1) := by
        show _ = _
        rw [HE.out, HM.out, List.take_of_length_le (by simp)]; rfl
      clear HM
      go_wp2
      go_ret
      exact ⟨by rw [HF.out]; rfl, hb⟩
end Go.Proofs.YtjodcaeohkjlnaaDoor
