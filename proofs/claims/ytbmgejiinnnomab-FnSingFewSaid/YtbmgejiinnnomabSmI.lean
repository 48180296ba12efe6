/-
  The laws' comparison of equal lists of integers and their sum; the draw of MelodySteps' argument.
-/
import Derived.Test.YtbmgejiinnnomabSmT
import Derived.Test.YtbmgejiinnnomabMelS
namespace Go.Proofs.Ytbmgejiinnnomab
open Go.RowKit
set_option maxRecDepth 100000
set_option linter.unusedVariables false

theorem IRow.flat' {w : World} {lo hi n : Nat} {v : Value} {xs : List Int} (h : IRow w lo hi v xs) (hn : xs.length = n) : ∃ a cap, v = .slice a n cap ∧ (0 < n → ∃ g, a = some ⟨g, 0, none⟩ ∧ g < w.heap.size ∧ ∀ i, i < n → w.cell? ⟨g, i, none⟩ = some (.int .i64 (xs.getD i 0))) := by
  rcases h.form with ⟨rfl, rfl⟩ | ⟨g, cap, cur, rfl, _, _, hg, _, _, _, _, _, hc, _⟩
  · subst hn; exact ⟨none, 0, rfl, fun h => by simp at h⟩
  · subst hn; exact ⟨_, cap, rfl, fun _ => ⟨g, rfl, hg, hc⟩⟩

theorem sameInts_yes (lo hi lo' hi' : Nat) (v u : Value) (xs : List Int) (hx : xs.length ≤ 1000000) (w : World) (h : IRow w lo hi v xs) (k : IRow w lo' hi' u xs) :
    Calls Try.prog 10 #[v, u] w fun e w' => e = .returned (.bool true) ∧ Below w.heap.size w w' := by
  obtain ⟨n, hn⟩ : ∃ n, xs.length = n := ⟨_, rfl⟩
  obtain ⟨a, ca, rfl, fa⟩ := h.flat' hn
  obtain ⟨b, cb, rfl, fb⟩ := k.flat' hn
  rw [hn] at hx
  have FA := Lib.hid fa
  have FB := Lib.hid fb
  clear h k fa fb hn
  go_enter Try.func10, Try.ntmps10
  go_wp2
  go_loopw [5] (fun i wr => ∃ k : Nat, k ≤ n ∧ i = .int .i64 k ∧ Below w.heap.size w wr) (fun i _ => n - (intOf i).toNat)
  case atStart => exact ⟨0, Nat.zero_le _, rfl, Below.refl _ _⟩
  case round =>
    obtain ⟨k, hk, rfl, hb⟩ := hrel
    by_cases hlt : k < n
    · obtain ⟨g, rfl, sA, eA⟩ := FA.out (by omega)
      obtain ⟨g', rfl, sB, eB⟩ := FB.out (by omega)
      have e1 := (hb.cell (p := ⟨g, k, none⟩) sA).trans (eA k hlt)
      have e2 := (hb.cell (p := ⟨g', k, none⟩) sB).trans (eB k hlt)
      have hk0 : (0 : Int) ≤ (k : Int) := by omega
      have hk1 : (k : Int) < (n : Int) := by omega
      clear eA eB
      generalize xs.getD k 0 = z at e1 e2
      go_wp2
      go_quiet (fail)
      all_goals
        go_wp2
        go_roundw
        case rel => exact ⟨k + 1, by omega, by go_num, by first | exact hb | exact hb.drew | exact ⟨hb.os, hb.tape, hb.output, hb.size, hb.block⟩⟩
        case measure => simp [intOf]; omega
    · go_wp2
      go_ret
      exact ⟨rfl, hb⟩

/-- the sum of the first k -/
def sumT (xs : List Int) : Nat → Int
  | 0 => 0
  | k + 1 => sumT xs k + xs.getD k 0
theorem sumT_lim {xs : List Int} {n : Nat} (h : ∀ i, i < n → -100 ≤ xs.getD i 0 ∧ xs.getD i 0 ≤ 100) {k : Nat} (hk : k ≤ n) : -(100 * (k : Int)) ≤ sumT xs k ∧ sumT xs k ≤ 100 * (k : Int) := by
  induction k with
  | zero => exact ⟨Int.le_refl _, Int.le_refl _⟩
  | succ j ih =>
    have h1 := ih (by omega)
    have h2 := h j (by omega)
    simp only [sumT]
    omega
end Go.Proofs.Ytbmgejiinnnomab
