/-
  Slices of tones marked and read again by the exact laws' helpers.
-/
import Derived.Test.YtcmcdomfmmjogaaTL
namespace Go.Proofs.Ytcmcdomfmmjogaa
open Go.RowKit
set_option maxRecDepth 100000
set_option linter.unusedVariables false

theorem szToneS_any (a : Option Addr) (n c : Nat) (hn : n ≤ 9223372036854775807) (w : World) :
    Calls Try.prog 69 #[.slice a n c, .int .i64 1048576] w fun e w' => e = .returned (.int .i64 (if n ≤ 1048576 then 1048576 - (n : Int) else -1)) ∧ w = w' := by
  by_cases h : n ≤ 1048576
  · rw [if_pos h]
    go_enter Try.func69, Try.ntmps69
    go_wp2
    go_ret
    exact ⟨rfl, rfl⟩
  · rw [if_neg h]
    have g : (1048576 : Int) < (n : Int) := by omega
    go_enter Try.func69, Try.ntmps69
    go_wp2
    go_ret
    exact ⟨rfl, rfl⟩

/-- the marks of n tones from s on -/
def mkt (s : Int) (n : Nat) : List (Int × Bool) := (List.range n).map fun i : Nat => (s + 2 * (i : Int), (s + 2 * (i : Int) + 1) % 3 == 0)
theorem mkt_len (s : Int) (n : Nat) : (mkt s n).length = n := by simp [mkt]
theorem mkt_get (s : Int) (n i : Nat) (h : i < n) : (mkt s n)[i]? = some (s + 2 * (i : Int), (s + 2 * (i : Int) + 1) % 3 == 0) := by
  simp [mkt, List.getElem?_map, List.getElem?_range h]
theorem mkt_succ (s : Int) (n : Nat) : mkt s (n + 1) = mkt s n ++ [(s + 2 * (n : Int), (s + 2 * (n : Int) + 1) % 3 == 0)] := by simp [mkt, List.range_succ]

set_option maxHeartbeats 1000000 in
theorem heldToneS_any (lo hi : Nat) (v : Value) (s : Int) (n : Nat) (hs : 0 ≤ s) (hs1 : s ≤ 1000000) (hx : n ≤ 1048576) (w : World) (h : TRow w lo hi v (mkt s n)) :
    Calls Try.prog 45 #[v, .int .i64 s] w fun e w' => e = .returned (.int .i64 (s + 2 * (n : Int))) ∧ w = w' := by
  rcases h.form with ⟨rfl, hx0⟩ | ⟨g, cap, rfl, hg, hg2, hgs, hcap, hmax, hc⟩
  · have hn : n = 0 := by have := mkt_len s n; rw [hx0] at this; simpa using this.symm
    subst hn
    go_enter Try.func45, Try.ntmps45
    go_wp2
    go_rounds 1
    go_ret
    exact ⟨by simp, rfl⟩
  · rw [mkt_len] at hcap
    rw [mkt_len]
    have HC : Hid (∀ i, i < n → w.cell? ⟨g, i * 2, none⟩ = some (.int .i64 (s + 2 * (i : Int))) ∧ w.cell? ⟨g, i * 2 + 1, none⟩ = some (.bool ((s + 2 * (i : Int) + 1) % 3 == 0))) := fun i hi => hc i _ (mkt_get _ _ _ hi)
    clear h hc
    go_enter Try.func45, Try.ntmps45
    go_wp2
    go_loop [1, 5] (fun m i => ∃ k : Nat, k ≤ n ∧ i = .int .i64 k ∧ m = .int .i64 (s + 2 * (k : Int))) (fun _ i => n - (intOf i).toNat)
    case atStart => exact ⟨0, Nat.zero_le _, rfl, by simp⟩
    case round =>
      obtain ⟨k, hk, rfl, rfl⟩ := hrel
      by_cases hlt : k < n
      · obtain ⟨e1, e2⟩ := HC.out k hlt
        have hk0 : (0 : Int) ≤ (k : Int) := by omega
        have hk1 : (k : Int) < (n : Int) := by omega
        go_wp2
        go_round
        case rel => exact ⟨k + 1, by omega, by go_num, by (congr 1; omega)⟩
        case measure => simp [intOf]; omega
      · have hkn : k = n := by omega
        subst hkn
        go_wp2
        go_ret
        exact ⟨rfl, rfl⟩
end Go.Proofs.Ytcmcdomfmmjogaa
