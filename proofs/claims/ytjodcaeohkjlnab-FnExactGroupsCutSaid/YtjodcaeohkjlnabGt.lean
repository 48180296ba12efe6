/-
  Melismas marked by the exact laws' helper: only the marked slice's block turns.
-/
import Derived.Test.YtjodcaeohkjlnabTurn
import Derived.Test.YtjodcaeohkjlnabGl
namespace Go.Proofs.Ytjodcaeohkjlnab
open Go.RowKit
set_option maxRecDepth 100000
set_option linter.unusedVariables false

theorem GRow.turned {w w' : World} {lo hi lo' hi' : Nat} {v : Value} {xs : List (Int × Bool)} (h : GRow w lo hi v xs) (t : Turned lo' hi' w w') (hd : hi ≤ lo' ∨ hi' ≤ lo) : GRow w' lo hi v xs :=
  h.keep fun k h1 h2 h3 => t.block k h1 (by omega)
theorem szMelismaS_gen (a : Option Addr) (n c : Nat) (L : Int) (h0 : 0 ≤ L) (h1 : L ≤ 1048576) (hn : n ≤ 9223372036854775807) (w : World) :
    Calls Try.prog 48 #[.slice a n c, .int .i64 L] w fun e w' => e = .returned (.int .i64 (if (n : Int) ≤ L then L - (n : Int) else -1)) ∧ w = w' := by
  by_cases h : (n : Int) ≤ L
  · rw [if_pos h]
    go_enter Try.func48, Try.ntmps48
    go_wp2
    go_ret
    exact ⟨rfl, rfl⟩
  · rw [if_neg h]
    have g : L < (n : Int) := by omega
    go_enter Try.func48, Try.ntmps48
    go_wp2
    go_ret
    exact ⟨rfl, rfl⟩

/-- k melismas of block g are marked -/
def GtInv (w wr : World) (g cap : Nat) (s : Int) (k : Nat) : Prop :=
  ∃ cur, wr.heap[g]? = some (.cells cur 45 (0, 0)) ∧ cur.size = cap * 2 ∧ cur.toList.take (k * 2) = tcs (mkt s k) ∧ w.grownBy wr (some g)
theorem GtInv.cells {w wr : World} {g cap : Nat} {s : Int} {k : Nat} (h : GtInv w wr g cap s k) (hk : k < cap) : (∃ u, wr.cell? ⟨g, k * 2, none⟩ = some u) ∧ (∃ u, wr.cell? ⟨g, k * 2 + 1, none⟩ = some u) ∧ (∀ o, wr.frozen? ⟨g, o, none⟩ = false) := by
  obtain ⟨cur, hh, hsz, _, _⟩ := h
  refine ⟨⟨cur[k * 2]'(by omega), ?_⟩, ⟨cur[k * 2 + 1]'(by omega), ?_⟩, fun o => by simp [World.frozen?, hh]⟩
  · simp [World.cell?, hh, Array.getElem?_eq_getElem (by omega : k * 2 < cur.size)]
  · simp [World.cell?, hh, Array.getElem?_eq_getElem (by omega : k * 2 + 1 < cur.size)]
theorem GtInv.next {w wr : World} {g cap : Nat} {s : Int} {k : Nat} (h : GtInv w wr g cap s k) (hk : k < cap) :
    GtInv w ((wr.setCell ⟨g, k * 2, none⟩ (.int .i64 (s + 2 * (k : Int)))).setCell ⟨g, k * 2 + 1, none⟩ (.bool ((s + 2 * (k : Int) + 1) % 3 == 0))) g cap s (k + 1) := by
  obtain ⟨cur, hh, hsz, ht, hg⟩ := h
  refine ⟨(cur.setIfInBounds (k * 2) (.int .i64 (s + 2 * (k : Int)))).setIfInBounds (k * 2 + 1) (.bool ((s + 2 * (k : Int) + 1) % 3 == 0)), by simp [World.setCell, Array.getElem?_modify, hh], by simp [hsz], ?_, ⟨hg.os, hg.tape, hg.output, by simpa [World.setCell] using hg.size, fun i hi hne => ?_⟩⟩
  · have hk2 : k * 2 + 1 < cur.toList.length := by simp; omega
    rw [mkt_succ, tcs_app, ← ht, Array.toList_setIfInBounds, Array.toList_setIfInBounds]
    generalize cur.toList = l at hk2
    rw [show (k + 1) * 2 = k * 2 + 1 + 1 by omega, List.take_add_one, List.take_add_one, List.take_set_of_le (by omega), List.take_set_of_le (by omega)]
    have a1 : k * 2 < l.length := by omega
    simp [tcs, a1, hk2]
  · rw [Below.heap_setCell _ _ _ _ (fun e => hne (by rw [e])), Below.heap_setCell _ _ _ _ (fun e => hne (by rw [e]))]
    exact hg.block i hi hne

def GMarked (w : World) (lo hi : Nat) (v : Value) (s : Int) (n : Nat) (e : Ending) (w' : World) : Prop :=
  e = .returned (.int .i64 (s + 2 * (n : Int))) ∧ GRow w' lo hi v (mkt s n) ∧ Turned lo hi w w'

set_option maxHeartbeats 1000000 in
theorem markMelismaS_any (lo hi : Nat) (v : Value) (xs : List (Int × Bool)) (s : Int) (hs : 0 ≤ s) (hs1 : s ≤ 10000000) (hx : xs.length ≤ 1048576) (w : World) (h : GRow w lo hi v xs) :
    Calls Try.prog 54 #[v, .int .i64 s] w (GMarked w lo hi v s xs.length) := by
  obtain ⟨⟨hl, ⟨rfl, hx0⟩ | ⟨g, cap, cur, rfl, hg, hh, hcap, hmax, hsz, htk⟩⟩, hlt2⟩ := h
  · have hx1 : xs = [] := List.eq_nil_of_length_eq_zero hx0
    subst hx1
    have HN : Hid (GMarked w lo hi (.slice none 0 0) s 0 (.returned (.int .i64 s)) w) := ⟨by simp, ⟨⟨rfl, .inl ⟨rfl, rfl⟩⟩, hlt2⟩, ⟨rfl, rfl, rfl, Nat.le_refl _, fun _ _ _ => rfl⟩⟩
    clear hl hlt2
    go_enter Try.func54, Try.ntmps54
    go_wp2
    go_rounds 1
    go_ret
    exact HN.out
  · have hg2 : g < hi := hlt2 g rfl
    have hend : ∀ wr, GtInv w wr g cap s xs.length → GMarked w lo hi (.slice (some ⟨g, 0, none⟩) xs.length cap) s xs.length (.returned (.int .i64 (s + 2 * (xs.length : Int)))) wr := by
      rintro wr ⟨cur', hh', hsz', ht', hg'⟩
      refine ⟨rfl, ⟨⟨tcs_len _, .inr ⟨g, cap, cur', by rw [mkt_len], hg, hh', by rw [mkt_len]; exact hcap, hmax, hsz', by rw [mkt_len]; exact ht'⟩⟩, hlt2⟩, ⟨hg'.os, hg'.tape, hg'.output, hg'.size, fun k hk ho => hg'.block k hk (fun e => by injection e; omega)⟩⟩
    have h0 : GtInv w w g cap s 0 := ⟨cur, hh, hsz, by simp [mkt, tcs], World.grownBy.refl w _⟩
    unfold maxLen at hmax
    have HEND := Lib.hid hend
    clear hl hlt2 hh hsz htk hend
    generalize hn : xs.length = n at *
    clear hn
    go_enter Try.func54, Try.ntmps54
    go_wp2
    go_loopw [1, 5] (fun m i wr => ∃ k : Nat, k ≤ n ∧ i = .int .i64 k ∧ m = .int .i64 (s + 2 * (k : Int)) ∧ GtInv w wr g cap s k) (fun _ i _ => n - (intOf i).toNat)
    case atStart => exact ⟨0, Nat.zero_le _, rfl, by simp, h0⟩
    case round =>
      obtain ⟨k, hk, rfl, rfl, hi⟩ := hrel
      by_cases hlt : k < n
      · obtain ⟨⟨u0, d0⟩, ⟨u1, d1⟩, df⟩ := hi.cells (by omega)
        have HI := Lib.hid (hi.next (by omega : k < cap))
        have hk0 : (0 : Int) ≤ (k : Int) := by omega
        have hk1 : (k : Int) < (n : Int) := by omega
        clear hi h0
        go_wp2
        go_roundw
        case rel => exact ⟨k + 1, by omega, by go_num, by (congr 1; omega), HI.out⟩
        case measure => simp [intOf]; omega
      · have hkn : k = n := by omega
        subst hkn
        have HE := Lib.hid (HEND.out wr hi)
        clear h0 hi
        go_wp2
        go_ret
        exact HE.out
end Go.Proofs.Ytjodcaeohkjlnab
