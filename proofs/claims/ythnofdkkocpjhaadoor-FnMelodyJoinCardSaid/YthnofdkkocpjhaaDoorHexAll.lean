/-
  All hexachords of a tone: both programs build the same list.
-/
import Derived.Test.YthnofdkkocpjhaaDoorHexs
import Derived.Test.YthnofdkkocpjhaaDoorInts
namespace Go.Proofs.YthnofdkkocpjhaaDoor
open Go.RowKit
set_option maxRecDepth 100000
set_option linter.unusedVariables false

theorem infoInt : (Tryd.prog.info? 3).map (fun i => (i.zero, i.size, i.bytes)) = some (some (.int .i64 0), 1, 8) := by kernel_rfl

def inHex (s : Int) (b : Bool) (n : Int) : Bool := decide (0 ≤ hsy n s b)
/-- the steps below k whose hexachords have the tone -/
def hall (s : Int) (b : Bool) (k : Nat) : List Int := ((List.range k).map (fun i : Nat => (i : Int))).filter (inHex s b)
theorem hall_hit {s : Int} {b : Bool} {k : Nat} (h : 0 ≤ hsy k s b) : hall s b (k + 1) = hall s b k ++ [(k : Int)] := by
  simp [hall, List.range_succ, List.filter_append, inHex, h]
theorem hall_miss {s : Int} {b : Bool} {k : Nat} (h : hsy k s b < 0) : hall s b (k + 1) = hall s b k := by
  have : ¬ 0 ≤ hsy k s b := by omega
  simp [hall, List.range_succ, List.filter_append, inHex, this]
theorem hall_len (s : Int) (b : Bool) (k : Nat) : (hall s b k).length ≤ k := by
  unfold hall; exact Nat.le_trans (List.length_filter_le _ _) (by simp)

def rowsOf : List Int := [0, 3, 6, 7, 10, 13, 14]
def rall (s : Int) (b : Bool) (k : Nat) : List Int := (rowsOf.take k).filter (inHex s b)
theorem not_in {s n : Int} {b : Bool} (h : hxv n = false) : inHex s b n = false := by
  have : hsy n s b = -1 := hsy_none fun k hk => by have := (hok_in hk).1; rw [h] at this; cases this
  simp [inHex, this]
theorem hall_rall (s : Int) (b : Bool) : hall s b 21 = rall s b 7 := by
  have h : ∀ n : Int, hxv n = false → inHex s b n = false := fun n => not_in
  have e : (List.range 21).map (fun i : Nat => (i : Int)) = [0, 1, 2, 3, 4, 5, 6, 7, 8, 9, 10, 11, 12, 13, 14, 15, 16, 17, 18, 19, 20] := by decide
  unfold hall rall
  rw [e]
  simp only [List.filter_cons, List.filter_nil, h 1 (by decide), h 2 (by decide), h 4 (by decide), h 5 (by decide), h 8 (by decide), h 9 (by decide), h 11 (by decide), h 12 (by decide), h 15 (by decide), h 16 (by decide),
    h 17 (by decide), h 18 (by decide), h 19 (by decide), h 20 (by decide), rowsOf, List.take_succ_cons, List.take_zero, Bool.false_eq_true, if_false]

theorem own_lt {w : World} {base e size n g : Nat} {v : Value} {xs : List Value} (h : w.ownsRow base e size v n xs) (hg : v.ownBlock = some g) : base ≤ g ∧ g < w.heap.size := by
  obtain ⟨_, h | ⟨g', cap, cur, rfl, hb, hh, _⟩⟩ := h
  · rw [h.1] at hg; simp [Value.ownBlock] at hg
  · have e : g' = g := by simpa [Value.ownBlock] using hg
    subst e
    refine ⟨hb, ?_⟩
    rcases Nat.lt_or_ge g' w.heap.size with h | h
    · exact h
    · rw [Array.getElem?_eq_none h] at hh; cases hh
theorem own_mono {w : World} {base base' e size n : Nat} {v : Value} {xs : List Value} (h : w.ownsRow base e size v n xs) (hb : base' ≤ base) : w.ownsRow base' e size v n xs := by
  obtain ⟨hl, h | ⟨g', cap, cur, hv, hg, hr⟩⟩ := h
  · exact ⟨hl, .inl h⟩
  · exact ⟨hl, .inr ⟨g', cap, cur, hv, Nat.le_trans hb hg, hr⟩⟩

/-- a list that a call has built: its block is its own -/
def Built (w : World) (xs : List Int) (e : Ending) (w' : World) : Prop :=
  ∃ v, e = .returned v ∧ IRow w' w.heap.size w'.heap.size v xs ∧ Below w.heap.size w w'

/-- the loop's state: what has been collected, the tone's box -/
def AllInv (s : Int) (b : Bool) (w wr : World) (v : Value) (xs : List Int) : Prop :=
  wr.ownsRow (w.heap.size + 1) 3 1 v xs.length (xs.map (Value.int .i64)) ∧ wr.cell? ⟨w.heap.size, 0, none⟩ = some (.int .i64 s) ∧ wr.cell? ⟨w.heap.size, 1, none⟩ = some (.bool b) ∧
    w.heap.size < wr.heap.size ∧ Below w.heap.size w wr

theorem AllInv.below {s : Int} {b : Bool} {w wr w1 : World} {v : Value} {xs : List Int} (h : AllInv s b w wr v xs) (hb : Below wr.heap.size wr w1) : AllInv s b w w1 v xs := by
  obtain ⟨h1, h2, h3, h4, h5⟩ := h
  have hi : IRow wr (w.heap.size + 1) wr.heap.size v xs := ⟨h1, fun g hg => (own_lt h1 hg).2⟩
  exact ⟨(hi.below hb (.inl (Nat.le_refl _))).1, (hb.cell (p := ⟨w.heap.size, 0, none⟩) h4).trans h2, (hb.cell (p := ⟨w.heap.size, 1, none⟩) h4).trans h3, Nat.lt_of_lt_of_le h4 hb.size,
    h5.trans (hb.mono (Nat.le_of_lt h4))⟩

theorem AllInv.app {s : Int} {b : Bool} {w w1 w2 : World} {v v' : Value} {xs : List Int} {z : Int} {o : Obj} (h : AllInv s b w w1 v xs)
    (hown : w2.ownsRow (w.heap.size + 1) 3 1 v' (xs.length + 1) (xs.map (Value.int .i64) ++ [.int .i64 z])) (hg : (w1.alloc o).grownBy w2 v.ownBlock) : AllInv s b w w2 v' (xs ++ [z]) := by
  obtain ⟨h1, h2, h3, h4, h5⟩ := h
  have hne : ∀ k, v.ownBlock = some k → w.heap.size + 1 ≤ k := fun k hk => (own_lt h1 hk).1
  have hlt : w.heap.size < (w1.alloc o).heap.size := by simp; omega
  have hb : (w1.alloc o).heap[w.heap.size]? = w1.heap[w.heap.size]? := Below.heap_alloc _ _ _ h4
  have hb2 : w2.heap[w.heap.size]? = w1.heap[w.heap.size]? := (hg.block _ hlt (fun e => by have := hne _ e.symm; omega)).trans hb
  refine ⟨by simpa using hown, (World.cell?_of_block (w := w1) (a := ⟨w.heap.size, 0, none⟩) hb2).trans h2, (World.cell?_of_block (w := w1) (a := ⟨w.heap.size, 1, none⟩) hb2).trans h3, Nat.lt_of_lt_of_le hlt hg.size,
    (h5.alloc (by omega) o).grown hg (by simp; omega) (fun k hk => by have := hne k hk; omega)⟩

theorem AllInv.built {s : Int} {b : Bool} {w wr : World} {v : Value} {xs : List Int} (h : AllInv s b w wr v xs) : Built w xs (.returned v) wr :=
  ⟨v, rfl, ⟨own_mono h.1 (by omega), fun g hg => (own_lt h.1 hg).2⟩, h.2.2.2.2⟩

theorem AllInv.start (s : Int) (b : Bool) (w : World) : AllInv s b w ((w.alloc (.cells #[.int .i64 s, .bool b] 52)).alloc (.cells #[] 3)) (.slice (some ⟨w.heap.size + 1, 0, none⟩) 0 0) [] := by
  refine ⟨⟨by simp, .inr ⟨w.heap.size + 1, 0, #[], rfl, by omega, ?_, by simp, by simp [maxLen], by simp, by simp⟩⟩, by go_simp, by go_simp, by simp; omega, ((Below.refl _ _).alloc (Nat.le_refl _) _).alloc (by simp) _⟩
  have := heap_alloc_new (w.alloc (.cells #[.int .i64 s, .bool b] 52)) (.cells #[] 3)
  simpa using this

set_option maxRecDepth 100000 in
set_option maxHeartbeats 2000000 in
theorem sHexAll_any (s : Int) (b : Bool) (w : World) :
    Calls Tryd.prog 45 #[.agg #[.int .i64 s, .bool b]] w (Built w (hall s b 21)) := by
  obtain ⟨i0, hi, hq0, hq1, hq2⟩ := info_parts infoInt
  go_enter Tryd.func45, Tryd.ntmps45
  go_wp2
  go_loopw [3, 4] (fun v i wr => ∃ k : Nat, k ≤ 21 ∧ i = .int .i64 k ∧ AllInv s b w wr v (hall s b k)) (fun _ i _ => 21 - (intOf i).toNat)
  case atStart => exact ⟨0, by omega, rfl, AllInv.start s b w⟩
  case round =>
    obtain ⟨k, hk, rfl, hinv⟩ := hrel
    have d0 := hinv.2.1
    have d1 := hinv.2.2.1
    by_cases hlt : k < 21
    · have hg1 : (k : Int) ≤ 20 := by omega
      by_cases hh : 0 ≤ hsy k s b
      · have HX := Lib.hid (hall_hit hh)
        have hl := hall_len s b k
        go_wp2_with (fail)
        (go_at_call 36; refine (sHexSyllable_any _ _ _ _).mono ?_; rintro e w1 ⟨rfl, hb1⟩; obtain ⟨hc1, hf1, hz1⟩ := bl hb1; (try simp at hz1); clear hc1 hf1)
        have hinv1 := hinv.below hb1
        clear hinv d0 d1
        have hown := hinv1.1
        go_wp2_with (at_builtin; refine wpList_append_own _ rfl _ _ 29 rfl (w.heap.size + 1) 3 i0 (.int .i64 0) 1 8 Tryd.underlying29 hi hq0 hq1 hq2 rfl (by decide) _ _ _ rfl (hown.alloc _) ⟨w1.heap.size, 0, none⟩ 1 1 [.int .i64 k] rfl rfl ?c1 ?c2 ?c3 ?c4 ?c5 ?_)
        case c1 =>
          intro j u hj
          match j, hj with
          | 0, hj => simp at hj; subst hj; simp [Addr.add]
        case c2 => intro u hu; simp at hu; subst hu; rfl
        case c3 => unfold maxLen; omega
        case c4 => omega
        case c5 => have := hinv1.2.2.2.1; simp; omega
        intro v' w2 hown' hgrow _
        have hinv2 := hinv1.app hown' hgrow
        clear hown' hgrow hown hinv1
        go_wp2
        go_roundw
        case rel => exact ⟨k + 1, by omega, by go_num, by rw [HX.out]; exact hinv2⟩
        case measure => simp [intOf]; omega
      · have hh' : hsy k s b < 0 := by omega
        have HX := Lib.hid (hall_miss hh')
        go_wp2_with (fail)
        (go_at_call 36; refine (sHexSyllable_any _ _ _ _).mono ?_; rintro e w1 ⟨rfl, hb1⟩; obtain ⟨hc1, hf1, hz1⟩ := bl hb1; (try simp at hz1); clear hc1 hf1)
        have hinv1 := hinv.below hb1
        clear hinv d0 d1 hh
        go_wp2
        go_roundw
        case rel => exact ⟨k + 1, by omega, by go_num, by rw [HX.out]; exact hinv1⟩
        case measure => simp [intOf]; omega
    · have hk6 : k = 21 := by omega
      subst hk6
      have HE := Lib.hid hinv.built
      clear hinv d0 d1
      go_wp2
      go_ret
      exact HE.out
end Go.Proofs.YthnofdkkocpjhaaDoor
