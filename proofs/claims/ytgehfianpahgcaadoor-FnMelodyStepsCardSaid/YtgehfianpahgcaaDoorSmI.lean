/-
  The laws' comparison of equal lists of integers and their sum; the draw of MelodySteps' argument.
-/
import Derived.Test.YtgehfianpahgcaaDoorSmT
import Derived.Test.YtgehfianpahgcaaDoorMelS
namespace Go.Proofs.YtgehfianpahgcaaDoor
open Go.RowKit
set_option maxRecDepth 100000
set_option linter.unusedVariables false

theorem IRow.flat' {w : World} {lo hi n : Nat} {v : Value} {xs : List Int} (h : IRow w lo hi v xs) (hn : xs.length = n) : ∃ a cap, v = .slice a n cap ∧ (0 < n → ∃ g, a = some ⟨g, 0, none⟩ ∧ g < w.heap.size ∧ ∀ i, i < n → w.cell? ⟨g, i, none⟩ = some (.int .i64 (xs.getD i 0))) := by
  rcases h.form with ⟨rfl, rfl⟩ | ⟨g, cap, cur, rfl, _, _, hg, _, _, _, _, _, hc, _⟩
  · subst hn; exact ⟨none, 0, rfl, fun h => by simp at h⟩
  · subst hn; exact ⟨_, cap, rfl, fun _ => ⟨g, rfl, hg, hc⟩⟩

theorem sameInts_yes (lo hi lo' hi' : Nat) (v u : Value) (xs : List Int) (hx : xs.length ≤ 1000000) (w : World) (h : IRow w lo hi v xs) (k : IRow w lo' hi' u xs) :
    Calls Tryd.prog 33 #[v, u] w fun e w' => e = .returned (.bool true) ∧ Below w.heap.size w w' := by
  obtain ⟨n, hn⟩ : ∃ n, xs.length = n := ⟨_, rfl⟩
  obtain ⟨a, ca, rfl, fa⟩ := h.flat' hn
  obtain ⟨b, cb, rfl, fb⟩ := k.flat' hn
  rw [hn] at hx
  have FA := Lib.hid fa
  have FB := Lib.hid fb
  clear h k fa fb hn
  go_enter Tryd.func33, Tryd.ntmps33
  go_wp2
  go_loopw [5] (fun i wr => ∃ k : Nat, k ≤ n ∧ i = .int .i64 k ∧ Below w.heap.size w wr) (fun i _ => n - (intOf i).toNat)
  case atStart => exact ⟨0, Nat.zero_le _, rfl, Below.refl _ _⟩
  case round =>
    obtain ⟨k, hk, rfl, hb⟩ := hrel
    by_cases hlt : k < n
    · obtain ⟨g, rfl, sA, eA⟩ := FA.out (by omega)
      obtain ⟨g', rfl, sB, eB⟩ := FB.out (by omega)
      have e1 := (hb.cell (p := ⟨g, k, none⟩) sA).trans (eA k hlt)
      have e2 := (hb.cell (p := ⟨g', k, none⟩) sB).trans (eB k hlt)
      have hk0 : (0 : Int) ≤ (k : Int) := by omega
      have hk1 : (k : Int) < (n : Int) := by omega
      clear eA eB
      generalize xs.getD k 0 = z at e1 e2
      go_wp2
      go_quiet (fail)
      all_goals
        go_wp2
        go_roundw
        case rel => exact ⟨k + 1, by omega, by go_num, by first | exact hb | exact hb.drew | exact ⟨hb.os, hb.tape, hb.output, hb.size, hb.block⟩⟩
        case measure => simp [intOf]; omega
    · go_wp2
      go_ret
      exact ⟨rfl, hb⟩

/-- the sum of the first k -/
def sumT (xs : List Int) : Nat → Int
  | 0 => 0
  | k + 1 => sumT xs k + xs.getD k 0
theorem sumT_lim {xs : List Int} {n : Nat} (h : ∀ i, i < n → -100 ≤ xs.getD i 0 ∧ xs.getD i 0 ≤ 100) {k : Nat} (hk : k ≤ n) : -(100 * (k : Int)) ≤ sumT xs k ∧ sumT xs k ≤ 100 * (k : Int) := by
  induction k with
  | zero => exact ⟨Int.le_refl _, Int.le_refl _⟩
  | succ j ih =>
    have h1 := ih (by omega)
    have h2 := h j (by omega)
    simp only [sumT]
    omega

theorem sumOf_any (lo hi n : Nat) (v : Value) (xs : List Int) (hn : xs.length = n) (hx : n ≤ 1000) (hz : ∀ i, i < n → -100 ≤ xs.getD i 0 ∧ xs.getD i 0 ≤ 100) (w : World) (h : IRow w lo hi v xs) :
    Calls Tryd.prog 48 #[v] w fun e w' => e = .returned (.int .i64 (sumT xs n)) ∧ Below w.heap.size w w' := by
  obtain ⟨a, ca, rfl, fa⟩ := h.flat' hn
  have FA := Lib.hid fa
  have HL := Lib.hid (fun k (hk : k ≤ n) => sumT_lim hz hk)
  have HZ := Lib.hid hz
  clear h fa hn hz
  go_enter Tryd.func48, Tryd.ntmps48
  go_wp2
  go_loopw [3, 4] (fun s i wr => ∃ k : Nat, k ≤ n ∧ i = .int .i64 k ∧ s = .int .i64 (sumT xs k) ∧ Below w.heap.size w wr) (fun _ i _ => n - (intOf i).toNat)
  case atStart => exact ⟨0, Nat.zero_le _, rfl, rfl, Below.refl _ _⟩
  case round =>
    obtain ⟨k, hk, rfl, rfl, hb⟩ := hrel
    by_cases hlt : k < n
    · obtain ⟨g, rfl, sA, eA⟩ := FA.out (by omega)
      have e1 := (hb.cell (p := ⟨g, k, none⟩) sA).trans (eA k hlt)
      have hk0 : (0 : Int) ≤ (k : Int) := by omega
      have hk1 : (k : Int) < (n : Int) := by omega
      have hl := HL.out k hk
      have hz := HZ.out k hlt
      have HN : Hid (sumT xs (k + 1) = sumT xs k + xs.getD k 0) := rfl
      clear eA
      generalize xs.getD k 0 = z at e1 hz HN
      generalize sumT xs k = s at hl HN
      go_wp2
      go_roundw
      case rel => exact ⟨k + 1, by omega, by go_num, by rw [HN.out], by first | exact hb | exact hb.drew | exact ⟨hb.os, hb.tape, hb.output, hb.size, hb.block⟩⟩
      case measure => simp [intOf]; omega
    · have hk0 : k = n := by omega
      subst hk0
      go_wp2
      go_ret
      exact ⟨rfl, hb⟩

theorem drawMelodySteps_any (a : Option Addr) (n cap : Nat) (w : World) (h : CodeAt w a n) (hc : n ≤ cap) (hcap : cap ≤ maxLen) :
    Calls Tryd.prog 43 #[.slice a n cap] w (DrewMel 10 w) := by
  go_enter Tryd.func43, Tryd.ntmps43
  go_wp2_with (fail)
  (go_at_call 67; refine (open_any a n cap _ h hc hcap).mono ?_; rintro e w1 ⟨A, rfl, hr1, hb1, hs1⟩)
  go_wp2_with (fail)
  (go_at_call 93; refine (l91Melody_any w.heap.size A 0 10 (by omega) (by omega) _ hr1).mono ?_; rintro e w2 ⟨v, xs, rfl, hI, hl⟩)
  have HE := Lib.hid (drewMel hI hl hb1 (Nat.le_refl _))
  clear hI hr1
  go_wp2
  go_ret
  exact HE.out
end Go.Proofs.YtgehfianpahgcaaDoor
