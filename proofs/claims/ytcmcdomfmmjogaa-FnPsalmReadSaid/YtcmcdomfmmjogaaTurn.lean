/-
  Tones marked by the exact laws' helper: only the marked slice's block turns.
-/
import Derived.Test.YtcmcdomfmmjogaaTL3
import Derived.Test.YtcmcdomfmmjogaaTL2
import Derived.Test.YtcmcdomfmmjogaaInts
namespace Go.Proofs.Ytcmcdomfmmjogaa
open Go.RowKit
set_option maxRecDepth 100000
set_option linter.unusedVariables false

/-- only blocks from lo on and below hi have turned, and new ones -/
structure Turned (lo hi : Nat) (w w' : World) : Prop where
  os : w'.os = w.os
  tape : w'.tape = w.tape
  output : w'.output = w.output
  size : w.heap.size ≤ w'.heap.size
  block : ∀ k, k < w.heap.size → k < lo ∨ hi ≤ k → w'.heap[k]? = w.heap[k]?
theorem Turned.below {lo hi B : Nat} {w w' : World} (h : Turned lo hi w w') (hB : B ≤ lo) (hs : lo ≤ w.heap.size) : Below B w w' := ⟨h.os, h.tape, h.output, h.size, fun k hk => h.block k (by omega) (.inl (by omega))⟩

theorem TRow.turned {w w' : World} {lo hi lo' hi' : Nat} {v : Value} {xs : List (Int × Bool)} (h : TRow w lo hi v xs) (t : Turned lo' hi' w w') (hd : hi ≤ lo' ∨ hi' ≤ lo) : TRow w' lo hi v xs :=
  h.keep fun k h1 h2 h3 => t.block k h1 (by omega)

theorem IRow.turned {w w' : World} {lo hi lo' hi' : Nat} {v : Value} {xs : List Int} (h : IRow w lo hi v xs) (t : Turned lo' hi' w w') (hd : hi ≤ lo' ∨ hi' ≤ lo) : IRow w' lo hi v xs :=
  h.keep fun k h1 h2 h3 => t.block k h1 (by omega)

theorem TRow.lohi {w : World} {lo hi : Nat} {v : Value} {xs : List (Int × Bool)} (h : TRow w lo hi v xs) {lo' hi' : Nat} (h1 : lo' ≤ lo) (h2 : hi ≤ hi') : TRow w lo' hi' v xs := by
  obtain ⟨⟨hl, h | ⟨g, cap, cur, rfl, hg, hr⟩⟩, hlt⟩ := h
  · exact ⟨⟨hl, .inl h⟩, fun g hg => Nat.lt_of_lt_of_le (hlt g hg) h2⟩
  · exact ⟨⟨hl, .inr ⟨g, cap, cur, rfl, Nat.le_trans h1 hg, hr⟩⟩, fun g hg => Nat.lt_of_lt_of_le (hlt g hg) h2⟩

/-- k tones of block g are marked -/
def MtInv (w wr : World) (g cap : Nat) (s : Int) (k : Nat) : Prop :=
  ∃ cur, wr.heap[g]? = some (.cells cur 25 (0, 0)) ∧ cur.size = cap * 2 ∧ cur.toList.take (k * 2) = tcs (mkt s k) ∧ w.grownBy wr (some g)
theorem MtInv.cells {w wr : World} {g cap : Nat} {s : Int} {k : Nat} (h : MtInv w wr g cap s k) (hk : k < cap) : (∃ u, wr.cell? ⟨g, k * 2, none⟩ = some u) ∧ (∃ u, wr.cell? ⟨g, k * 2 + 1, none⟩ = some u) ∧ (∀ o, wr.frozen? ⟨g, o, none⟩ = false) := by
  obtain ⟨cur, hh, hsz, _, _⟩ := h
  refine ⟨⟨cur[k * 2]'(by omega), ?_⟩, ⟨cur[k * 2 + 1]'(by omega), ?_⟩, fun o => by simp [World.frozen?, hh]⟩
  · simp [World.cell?, hh, Array.getElem?_eq_getElem (by omega : k * 2 < cur.size)]
  · simp [World.cell?, hh, Array.getElem?_eq_getElem (by omega : k * 2 + 1 < cur.size)]
theorem MtInv.next {w wr : World} {g cap : Nat} {s : Int} {k : Nat} (h : MtInv w wr g cap s k) (hk : k < cap) :
    MtInv w ((wr.setCell ⟨g, k * 2, none⟩ (.int .i64 (s + 2 * (k : Int)))).setCell ⟨g, k * 2 + 1, none⟩ (.bool ((s + 2 * (k : Int) + 1) % 3 == 0))) g cap s (k + 1) := by
  obtain ⟨cur, hh, hsz, ht, hg⟩ := h
  refine ⟨(cur.setIfInBounds (k * 2) (.int .i64 (s + 2 * (k : Int)))).setIfInBounds (k * 2 + 1) (.bool ((s + 2 * (k : Int) + 1) % 3 == 0)), by simp [World.setCell, Array.getElem?_modify, hh], by simp [hsz], ?_, ⟨hg.os, hg.tape, hg.output, by simpa [World.setCell] using hg.size, fun i hi hne => ?_⟩⟩
  · have hk2 : k * 2 + 1 < cur.toList.length := by simp; omega
    rw [mkt_succ, tcs_app, ← ht, Array.toList_setIfInBounds, Array.toList_setIfInBounds]
    generalize cur.toList = l at hk2
    rw [show (k + 1) * 2 = k * 2 + 1 + 1 by omega, List.take_add_one, List.take_add_one, List.take_set_of_le (by omega), List.take_set_of_le (by omega)]
    have a1 : k * 2 < l.length := by omega
    simp [tcs, a1, hk2]
  · rw [Below.heap_setCell _ _ _ _ (fun e => hne (by rw [e])), Below.heap_setCell _ _ _ _ (fun e => hne (by rw [e]))]
    exact hg.block i hi hne

def TMarked (w : World) (lo hi : Nat) (v : Value) (s : Int) (n : Nat) (e : Ending) (w' : World) : Prop :=
  e = .returned (.int .i64 (s + 2 * (n : Int))) ∧ TRow w' lo hi v (mkt s n) ∧ Turned lo hi w w'

set_option maxHeartbeats 1000000 in
theorem markToneS_any (lo hi : Nat) (v : Value) (xs : List (Int × Bool)) (s : Int) (hs : 0 ≤ s) (hs1 : s ≤ 10000000) (hx : xs.length ≤ 1048576) (w : World) (h : TRow w lo hi v xs) :
    Calls Try.prog 44 #[v, .int .i64 s] w (TMarked w lo hi v s xs.length) := by
  obtain ⟨⟨hl, ⟨rfl, hx0⟩ | ⟨g, cap, cur, rfl, hg, hh, hcap, hmax, hsz, htk⟩⟩, hlt2⟩ := h
  · have hx1 : xs = [] := List.eq_nil_of_length_eq_zero hx0
    subst hx1
    have HN : Hid (TMarked w lo hi (.slice none 0 0) s 0 (.returned (.int .i64 s)) w) := ⟨by simp, ⟨⟨rfl, .inl ⟨rfl, rfl⟩⟩, hlt2⟩, ⟨rfl, rfl, rfl, Nat.le_refl _, fun _ _ _ => rfl⟩⟩
    clear hl hlt2
    go_enter Try.func44, Try.ntmps44
    go_wp2
    go_rounds 1
    go_ret
    exact HN.out
  · have hg2 : g < hi := hlt2 g rfl
    have hend : ∀ wr, MtInv w wr g cap s xs.length → TMarked w lo hi (.slice (some ⟨g, 0, none⟩) xs.length cap) s xs.length (.returned (.int .i64 (s + 2 * (xs.length : Int)))) wr := by
      rintro wr ⟨cur', hh', hsz', ht', hg'⟩
      refine ⟨rfl, ⟨⟨tcs_len _, .inr ⟨g, cap, cur', by rw [mkt_len], hg, hh', by rw [mkt_len]; exact hcap, hmax, hsz', by rw [mkt_len]; exact ht'⟩⟩, hlt2⟩, ⟨hg'.os, hg'.tape, hg'.output, hg'.size, fun k hk ho => hg'.block k hk (fun e => by injection e; omega)⟩⟩
    have h0 : MtInv w w g cap s 0 := ⟨cur, hh, hsz, by simp [mkt, tcs], World.grownBy.refl w _⟩
    unfold maxLen at hmax
    have HEND := Lib.hid hend
    clear hl hlt2 hh hsz htk hend
    generalize hn : xs.length = n at *
    clear hn
    go_enter Try.func44, Try.ntmps44
    go_wp2
    go_loopw [1, 5] (fun m i wr => ∃ k : Nat, k ≤ n ∧ i = .int .i64 k ∧ m = .int .i64 (s + 2 * (k : Int)) ∧ MtInv w wr g cap s k) (fun _ i _ => n - (intOf i).toNat)
    case atStart => exact ⟨0, Nat.zero_le _, rfl, by simp, h0⟩
    case round =>
      obtain ⟨k, hk, rfl, rfl, hi⟩ := hrel
      by_cases hlt : k < n
      · obtain ⟨⟨u0, d0⟩, ⟨u1, d1⟩, df⟩ := hi.cells (by omega)
        have HI := Lib.hid (hi.next (by omega : k < cap))
        have hk0 : (0 : Int) ≤ (k : Int) := by omega
        have hk1 : (k : Int) < (n : Int) := by omega
        clear hi h0
        go_wp2
        go_roundw
        case rel => exact ⟨k + 1, by omega, by go_num, by (congr 1; omega), HI.out⟩
        case measure => simp [intOf]; omega
      · have hkn : k = n := by omega
        subst hkn
        have HE := Lib.hid (HEND.out wr hi)
        clear h0 hi
        go_wp2
        go_ret
        exact HE.out
end Go.Proofs.Ytcmcdomfmmjogaa
