/-
  The laws' own contour of a list of steps.
-/
import Derived.Test.YtjodcaeohkjlnabCo
import Derived.Test.YtjodcaeohkjlnabFr
import Derived.Laws.Concat
import Derived.Laws.IdiomStrings
import Derived.Deep.QuietTactic
import Derived.BigQuiet
import Derived.IntWalk
namespace Go.Proofs.Ytjodcaeohkjlnab
open Go.RowKit
set_option maxRecDepth 100000
set_option linter.unusedVariables false

/-- the contour as a text -/
def cofS (f : Nat → Int) (n : Nat) : ByteArray := ⟨(cofl f n).toArray⟩
theorem cofS_size (f : Nat → Int) (n : Nat) : (cofS f n).size = n := by
  show (cofl f n).toArray.size = n
  rw [List.size_toArray, cofl_len]
theorem cofS_succ (f : Nat → Int) (n : Nat) : cofS f (n + 1) = cofS f n ++ ⟨#[wyi (f n) (f (n + 1))]⟩ := by
  unfold cofS
  rw [cofl_succ, ByteArray.mk_append_mk]
  try simp
theorem cofS_add (f : Nat → Int) (n : Nat) (hn : n ≤ 1000) {c : UInt8} (hc : wyi (f n) (f (n + 1)) = c) (W : World) : (Op.stringOp .add (cofS f n) ⟨#[c]⟩).run Try.prog W = .ok (.string (cofS f (n + 1))) W := by
  rw [cofS_succ, hc]
  exact run_string_add_sum W _ _ (by rw [cofS_size]; show n + 1 ≤ _; omega)

set_option maxHeartbeats 4000000 in
theorem contourOf_fr (B n c : Nat) (f : Nat → Int) (w : World) (h : FR w B n c f) (hn : n ≤ 100) :
    Calls Try.prog 29 #[.slice (some ⟨B, 0, none⟩) n c] w fun e w' => e = .returned (.string (cofS f (n - 1))) ∧ Below w.heap.size w w' := by
  have HF := Lib.hid h
  have hB := h.lt
  clear h
  have HA := Lib.hid (fun k hk cc hc => cofS_add f k hk (c := cc) hc)
  have h0 : cofS f 0 = ⟨#[]⟩ := rfl
  go_enter Try.func29, Try.ntmps29
  go_wp2
  go_loopw [3, 4] (fun o i wr => ∃ k : Nat, k ≤ n - 1 ∧ i = .int .i64 ((k + 1 : Nat) : Int) ∧ o = .string (cofS f k) ∧ Below w.heap.size w wr) (fun _ i _ => n - (intOf i).toNat)
  case atStart => exact ⟨0, Nat.zero_le _, rfl, by rw [h0]; first | rfl | skip, Below.refl _ _⟩
  case round =>
    obtain ⟨k, hk, rfl, rfl, hb⟩ := hrel
    clear h0
    by_cases hlt : k + 1 < n
    · have e1 := (hb.cell (p := ⟨B, k, none⟩) hB).trans (HF.out.cell (p := k) (by omega))
      have e2 := (hb.cell (p := ⟨B, k + 1, none⟩) hB).trans (HF.out.cell (p := k + 1) hlt)
      have hk0 : (0 : Int) ≤ (k : Int) := by omega
      have hk1 : ((k + 1 : Nat) : Int) < (n : Int) := by omega
      have hk2 : (k : Int) + 1 < (n : Int) := by omega
      have hk3 : (k : Int) < (n : Int) := by omega
      have hadd := HA.out k (by omega)
      generalize f k = a at e1 hadd
      generalize f (k + 1) = b at e2 hadd
      have m0 : IntKind.i64.wrap (k : Int) = (k : Int) := IntWalk.i64_in _ (by omega)
      have m1 : IntKind.i64.wrap ((k : Int) + 1 - 1) = (k : Int) := by rw [show (k : Int) + 1 - 1 = (k : Int) by omega]; exact m0
      have m2 : IntKind.i64.wrap ((k : Int) + 1) = (k : Int) + 1 := IntWalk.i64_in _ (by omega)
      have k5 : ((k : Int) + 1).toNat = k + 1 := by omega
      have k6 : (0 : Int) ≤ (k : Int) + 1 := by omega
      by_cases h1 : a < b
      · have hs := hadd 117 (wyi_up h1)
        clear hadd
        generalize cofS f k = o at hs
        obtain ⟨o2, ho2⟩ : ∃ o2, cofS f (k + 1) = o2 := ⟨_, rfl⟩
        rw [ho2] at hs
        have HO := Lib.hid ho2
        clear ho2
        go_wp2
        go_quiet (fail)
        all_goals
          go_wp2
          go_roundw
          case rel => exact ⟨k + 1, by omega, by go_num, by rw [HO.out], by first | exact hb | exact hb.drew | exact ⟨hb.os, hb.tape, hb.output, hb.size, hb.block⟩⟩
          case measure => simp [intOf]; omega
      have h1' : decide (a < b) = false := by simp; omega
      by_cases h2 : b < a
      · have hs := hadd 100 (wyi_down h2)
        clear hadd
        generalize cofS f k = o at hs
        obtain ⟨o2, ho2⟩ : ∃ o2, cofS f (k + 1) = o2 := ⟨_, rfl⟩
        rw [ho2] at hs
        have HO := Lib.hid ho2
        clear ho2
        go_wp2
        go_quiet (fail)
        all_goals
          go_wp2
          go_quiet (fail)
          all_goals
            go_wp2
            go_roundw
            case rel => exact ⟨k + 1, by omega, by go_num, by rw [HO.out], by first | exact hb | exact hb.drew | exact hb.drew.drew | exact ⟨hb.os, hb.tape, hb.output, hb.size, hb.block⟩⟩
            case measure => simp [intOf]; omega
      · have h2' : decide (b < a) = false := by simp; omega
        have hs := hadd 115 (wyi_same (by omega))
        clear hadd
        generalize cofS f k = o at hs
        obtain ⟨o2, ho2⟩ : ∃ o2, cofS f (k + 1) = o2 := ⟨_, rfl⟩
        rw [ho2] at hs
        have HO := Lib.hid ho2
        clear ho2
        go_wp2
        go_quiet (fail)
        all_goals
          go_wp2
          go_quiet (fail)
          all_goals
            go_wp2
            go_roundw
            case rel => exact ⟨k + 1, by omega, by go_num, by rw [HO.out], by first | exact hb | exact hb.drew | exact hb.drew.drew | exact ⟨hb.os, hb.tape, hb.output, hb.size, hb.block⟩⟩
            case measure => simp [intOf]; omega
    · have hke : k = n - 1 := by omega
      subst hke
      have hk1 : decide (((n - 1 + 1 : Nat) : Int) < (n : Int)) = false := by simp; omega
      go_wp2
      go_ret
      exact ⟨rfl, hb⟩
end Go.Proofs.Ytjodcaeohkjlnab
