/-
  Slices of integers of a call's own: compared, marked and read again by the exact laws' helpers.
-/
import Derived.Test.YticapinlnlpbpaaDoorBase
import Derived.WalkLawsBesides
import Derived.Handy
import Derived.Deep.QuietTactic
import Derived.BigQuiet
namespace Go.Proofs.YticapinlnlpbpaaDoor
open Go.RowKit
set_option maxRecDepth 100000
set_option linter.unusedVariables false

/-- v is a slice of just the integers xs, in a block from lo on and below hi -/
def IRow (w : World) (lo hi : Nat) (v : Value) (xs : List Int) : Prop :=
  w.ownsRow lo 3 1 v xs.length (xs.map (Value.int .i64)) ∧ ∀ g, v.ownBlock = some g → g < hi

theorem IRow.form {w : World} {lo hi : Nat} {v : Value} {xs : List Int} (h : IRow w lo hi v xs) : (v = .slice none 0 0 ∧ xs = []) ∨
    ∃ g cap cur, v = .slice (some ⟨g, 0, none⟩) xs.length cap ∧ lo ≤ g ∧ g < hi ∧ g < w.heap.size ∧ xs.length ≤ cap ∧ cap ≤ maxLen ∧ w.heap[g]? = some (.cells cur 3 (0, 0)) ∧ cur.size = cap ∧ cur.toList.take xs.length = xs.map (Value.int .i64) ∧
      (∀ i, i < xs.length → w.cell? ⟨g, i, none⟩ = some (.int .i64 (xs.getD i 0))) ∧ (∀ o, w.frozen? ⟨g, o, none⟩ = false) := by
  obtain ⟨⟨hl, h | ⟨g, cap, cur, rfl, hg, hh, hn, hcap, hsz, htake⟩⟩, hlt⟩ := h
  · exact .inl ⟨h.1, List.eq_nil_of_length_eq_zero h.2⟩
  · have hgs : g < w.heap.size := by
      rcases Nat.lt_or_ge g w.heap.size with h | h
      · exact h
      · rw [Array.getElem?_eq_none h] at hh; cases hh
    rw [Nat.mul_one] at hsz htake
    refine .inr ⟨g, cap, cur, rfl, hg, hlt g rfl, hgs, hn, hcap, hh, hsz, htake, fun i hi => ?_, fun o => by simp [World.frozen?, hh]⟩
    have e : (cur.toList.take xs.length)[i]? = (xs.map (Value.int .i64))[i]? := by rw [htake]
    rw [List.getElem?_take_of_lt hi, List.getElem?_map, Array.getElem?_toList] at e
    simp [World.cell?, hh, e, List.getD_eq_getElem?_getD, List.getElem?_eq_getElem hi]

theorem IRow.keep {w w' : World} {lo hi : Nat} {v : Value} {xs : List Int} (h : IRow w lo hi v xs) (hk : ∀ k, k < w.heap.size → lo ≤ k → k < hi → w'.heap[k]? = w.heap[k]?) : IRow w' lo hi v xs := by
  obtain ⟨⟨hl, h | ⟨g, cap, cur, rfl, hg, hh, hn, hcap, hsz, htake⟩⟩, hlt⟩ := h
  · exact ⟨⟨hl, .inl h⟩, hlt⟩
  · have hgs : g < w.heap.size := by
      rcases Nat.lt_or_ge g w.heap.size with h | h
      · exact h
      · rw [Array.getElem?_eq_none h] at hh; cases hh
    exact ⟨⟨hl, .inr ⟨g, cap, cur, rfl, hg, (hk g hgs hg (hlt g rfl)).trans hh, hn, hcap, hsz, htake⟩⟩, hlt⟩
theorem IRow.below {w w' : World} {lo hi B : Nat} {v : Value} {xs : List Int} (h : IRow w lo hi v xs) (hb : Below B w w') (hB : hi ≤ B ∨ w.heap.size ≤ B) : IRow w' lo hi v xs :=
  h.keep fun k h1 h2 h3 => hb.block k (by omega)

set_option maxHeartbeats 1000000 in
theorem eqInt_any (lo hi lo' hi' : Nat) (v u : Value) (xs : List Int) (w : World) (h : IRow w lo hi v xs) (k : IRow w lo' hi' u xs) :
    Calls Tryd.prog 16 #[v, u] w fun e w' => e = .returned (.bool true) ∧ Below w.heap.size w w' := by
  rcases h.form with ⟨rfl, rfl⟩ | ⟨g, cap, cur, rfl, hg, hg2, hgs, hcap, hmax, _, _, _, hc, _⟩
  · rcases k.form with ⟨rfl, _⟩ | ⟨g', cap', cur', rfl, _, _, _, _, _, _, _, _, _, _⟩
    all_goals
      go_enter Tryd.func16, Tryd.ntmps16
      go_wp2
      go_rounds 1
      go_ret
      exact ⟨rfl, Below.refl _ _⟩
  · rcases k.form with ⟨rfl, hx⟩ | ⟨g', cap', cur', rfl, hg', hg2', hgs', hcap', hmax', _, _, _, hc', _⟩
    · subst hx
      go_enter Tryd.func16, Tryd.ntmps16
      go_wp2
      go_rounds 1
      go_ret
      exact ⟨rfl, Below.refl _ _⟩
    · unfold maxLen at hmax hmax'
      have hlen : xs.length ≤ 9223372036854775807 := by omega
      clear h k
      generalize hn : xs.length = n at *
      clear hn
      have HC := Lib.hid hc
      have HC' := Lib.hid hc'
      clear hc hc'
      go_enter Tryd.func16, Tryd.ntmps16
      go_wp2
      go_loopw [5] (fun i wr => ∃ k : Nat, k ≤ n ∧ i = .int .i64 k ∧ Below w.heap.size w wr) (fun i _ => n - (intOf i).toNat)
      case atStart => exact ⟨0, Nat.zero_le _, rfl, Below.refl _ _⟩
      case round =>
        obtain ⟨k, hk, rfl, hb⟩ := hrel
        by_cases hlt : k < n
        · have e1 : wr.cell? ⟨g, k, none⟩ = some (.int .i64 (xs.getD k 0)) := (hb.cell (p := ⟨g, k, none⟩) hgs).trans (HC.out k hlt)
          have e2 : wr.cell? ⟨g', k, none⟩ = some (.int .i64 (xs.getD k 0)) := (hb.cell (p := ⟨g', k, none⟩) hgs').trans (HC'.out k hlt)
          have hk0 : (0 : Int) ≤ (k : Int) := by omega
          have hk1 : (k : Int) < (n : Int) := by omega
          generalize xs.getD k 0 = z at e1 e2
          go_wp2
          go_quiet (fail)
          go_wp2
          go_roundw
          case rel => exact ⟨k + 1, by omega, by go_num, ⟨hb.os, hb.tape, hb.output, hb.size, hb.block⟩⟩
          case measure => simp [intOf]; omega
        · go_wp2
          go_ret
          exact ⟨rfl, hb⟩

/-- the marks from s on -/
def mk (s : Int) (n : Nat) : List Int := (List.range n).map (fun i : Nat => s + (i : Int))
theorem mk_len (s : Int) (n : Nat) : (mk s n).length = n := by simp [mk]
theorem mk_get (s : Int) (n i : Nat) (h : i < n) : (mk s n).getD i 0 = s + (i : Int) := by
  simp [mk, List.getD_eq_getElem?_getD, List.getElem?_map, List.getElem?_range h]
theorem mk_succ (s : Int) (n : Nat) : mk s (n + 1) = mk s n ++ [s + (n : Int)] := by simp [mk, List.range_succ]

/-- k cells of block g are marked -/
def MkInv (w wr : World) (g cap : Nat) (s : Int) (k : Nat) : Prop :=
  ∃ cur, wr.heap[g]? = some (.cells cur 3 (0, 0)) ∧ cur.size = cap ∧ cur.toList.take k = (mk s k).map (Value.int .i64) ∧ w.grownBy wr (some g)

theorem MkInv.next {w wr : World} {g cap : Nat} {s : Int} {k : Nat} (h : MkInv w wr g cap s k) (hk : k < cap) : MkInv w (wr.setCell ⟨g, k, none⟩ (.int .i64 (s + (k : Int)))) g cap s (k + 1) := by
  obtain ⟨cur, hh, hsz, ht, hg⟩ := h
  refine ⟨cur.setIfInBounds k (.int .i64 (s + (k : Int))), by simp [World.setCell, Array.getElem?_modify, hh], by simp [hsz], ?_, ⟨hg.os, hg.tape, hg.output, by simpa [World.setCell] using hg.size, fun i hi hne => ?_⟩⟩
  · rw [mk_succ, List.map_append, Array.toList_setIfInBounds, List.take_add_one, List.take_set_of_le (Nat.le_refl k), ht]
    have hkc : k < cur.toList.length := by simpa using (by omega : k < cur.size)
    simp [List.getElem?_set]
    omega
  · rw [Below.heap_setCell _ _ _ _ (fun e => hne (by rw [e]))]
    exact hg.block i hi hne
theorem MkInv.cell {w wr : World} {g cap : Nat} {s : Int} {k : Nat} (h : MkInv w wr g cap s k) (hk : k < cap) : (∃ u, wr.cell? ⟨g, k, none⟩ = some u) ∧ wr.frozen? ⟨g, k, none⟩ = false := by
  obtain ⟨cur, hh, hsz, _, _⟩ := h
  refine ⟨⟨cur[k]'(by omega), ?_⟩, by simp [World.frozen?, hh]⟩
  simp [World.cell?, hh, Array.getElem?_eq_getElem (by omega : k < cur.size)]

def Marked (w : World) (lo hi : Nat) (v : Value) (s : Int) (n : Nat) (e : Ending) (w' : World) : Prop :=
  e = .returned (.int .i64 (s + (n : Int))) ∧ IRow w' lo hi v (mk s n) ∧ Below lo w w'

set_option maxHeartbeats 1000000 in
theorem markInt_any (lo hi : Nat) (v : Value) (xs : List Int) (s : Int) (hs : 0 ≤ s) (hs1 : s ≤ 1000000) (hx : xs.length ≤ 1000000) (w : World) (h : IRow w lo hi v xs) :
    Calls Tryd.prog 19 #[v, .int .i64 s] w (Marked w lo hi v s xs.length) := by
  have hnil : v = .slice none 0 0 → xs = [] → Marked w lo hi v s xs.length (.returned (.int .i64 s)) w := by
    rintro rfl rfl
    exact ⟨by simp, by simpa [mk] using h, Below.refl _ _⟩
  rcases h.form with ⟨rfl, rfl⟩ | ⟨g, cap, cur, rfl, hg, hg2, hgs, hcap, hmax, hh, hsz, htk, hc, hfz⟩
  · have HN := Lib.hid (hnil rfl rfl)
    clear hnil
    go_enter Tryd.func19, Tryd.ntmps19
    go_wp2
    go_rounds 1
    go_ret
    exact HN.out
  · have hlt2 := h.2
    have hend : ∀ wr, MkInv w wr g cap s xs.length → Marked w lo hi (.slice (some ⟨g, 0, none⟩) xs.length cap) s xs.length (.returned (.int .i64 (s + (xs.length : Int)))) wr := by
      rintro wr ⟨cur', hh', hsz', ht', hg'⟩
      refine ⟨rfl, ⟨⟨by simp [mk_len], .inr ⟨g, cap, cur', by rw [mk_len], hg, hh', by rw [mk_len]; exact hcap, hmax, by rw [hsz', Nat.mul_one], by rw [mk_len, Nat.mul_one]; exact ht'⟩⟩, hlt2⟩, ⟨hg'.os, hg'.tape, hg'.output, hg'.size, fun k hk => hg'.block k (by omega) (fun e => by injection e; omega)⟩⟩
    have h0 : MkInv w w g cap s 0 := ⟨cur, hh, hsz, by simp [mk], World.grownBy.refl w _⟩
    clear h hnil hc hfz htk hsz hh
    generalize hn : xs.length = n at *
    clear hn
    go_enter Tryd.func19, Tryd.ntmps19
    go_wp2
    go_loopw [1, 5] (fun m i wr => ∃ k : Nat, k ≤ n ∧ i = .int .i64 k ∧ m = .int .i64 (s + (k : Int)) ∧ MkInv w wr g cap s k) (fun _ i _ => n - (intOf i).toNat)
    case atStart => exact ⟨0, Nat.zero_le _, rfl, by simp, h0⟩
    case round =>
      obtain ⟨k, hk, rfl, rfl, hi⟩ := hrel
      by_cases hlt : k < n
      · obtain ⟨⟨u, hu⟩, hf⟩ := hi.cell (by omega)
        have hi' := hi.next (by omega : k < cap)
        have hk0 : (0 : Int) ≤ (k : Int) := by omega
        have hk1 : (k : Int) < (n : Int) := by omega
        clear hi h0 hend
        go_wp2
        go_roundw
        case rel => exact ⟨k + 1, by omega, by go_num, by (congr 1; omega), hi'⟩
        case measure => simp [intOf]; omega
      · have hkn : k = n := by omega
        subst hkn
        have HE := Lib.hid (hend wr hi)
        clear hend h0 hi
        go_wp2
        go_ret
        exact HE.out

set_option maxHeartbeats 1000000 in
theorem heldInt_any (lo hi : Nat) (v : Value) (s : Int) (n : Nat) (hs : 0 ≤ s) (hs1 : s ≤ 1000000) (hx : n ≤ 1000000) (w : World) (h : IRow w lo hi v (mk s n)) :
    Calls Tryd.prog 20 #[v, .int .i64 s] w fun e w' => e = .returned (.int .i64 (s + (n : Int))) ∧ w = w' := by
  rcases h.form with ⟨rfl, hx0⟩ | ⟨g, cap, cur, rfl, hg, hg2, hgs, hcap, hmax, hh, hsz, htk, hc, hfz⟩
  · have hn : n = 0 := by have := mk_len s n; rw [hx0] at this; simpa using this.symm
    subst hn
    go_enter Tryd.func20, Tryd.ntmps20
    go_wp2
    go_rounds 1
    go_ret
    exact ⟨by simp, rfl⟩
  · rw [mk_len] at hcap hc
    rw [mk_len]
    have HC : Hid (∀ i, i < n → w.cell? ⟨g, i, none⟩ = some (.int .i64 (s + (i : Int)))) := fun i hi => by rw [hc i hi, mk_get _ _ _ hi]
    clear h hc hfz htk hsz hh
    go_enter Tryd.func20, Tryd.ntmps20
    go_wp2
    go_loop [1, 5] (fun m i => ∃ k : Nat, k ≤ n ∧ i = .int .i64 k ∧ m = .int .i64 (s + (k : Int))) (fun _ i => n - (intOf i).toNat)
    case atStart => exact ⟨0, Nat.zero_le _, rfl, by simp⟩
    case round =>
      obtain ⟨k, hk, rfl, rfl⟩ := hrel
      by_cases hlt : k < n
      · have e1 := HC.out k hlt
        have hk0 : (0 : Int) ≤ (k : Int) := by omega
        have hk1 : (k : Int) < (n : Int) := by omega
        go_wp2
        go_round
        case rel => exact ⟨k + 1, by omega, by go_num, by (congr 1; omega)⟩
        case measure => simp [intOf]; omega
      · have hkn : k = n := by omega
        subst hkn
        go_wp2
        go_ret
        exact ⟨rfl, rfl⟩
end Go.Proofs.YticapinlnlpbpaaDoor
