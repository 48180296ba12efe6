/-
  Slices of melismas of a call's own: what they hold and what is kept; the exact laws' helpers on them.
-/
import Derived.Test.YtkjimilapgkajabDoorTL2
namespace Go.Proofs.YtkjimilapgkajabDoor
open Go.RowKit
set_option maxRecDepth 100000
set_option linter.unusedVariables false

theorem toMelisma_any (s : Int) (b : Bool) (w : World) :
    Calls Tryd.prog 96 #[.agg #[.int .i64 s, .bool b]] w fun e w' => e = .returned (.agg #[.int .i64 s, .bool b]) ∧ Below w.heap.size w w' := by
  go_enter Tryd.func96, Tryd.ntmps96
  go_wp2
  refine bodyPost_ret (v := .agg #[.int .i64 s, .bool b]) (by simp only [results, Tryd.results96]; go_simp) rfl ⟨rfl, ?_⟩; (repeat' (first | (with_reducible exact Below.refl _ _) | (with_reducible refine Below.alloc ?_ ?_ _) | (with_reducible refine Below.drew ?_) | (with_reducible refine Below.setCell ?_ ?_ _) | (with_reducible refine bl_step ?_ (by assumption)) | go_size))

/-- v is a slice of just the melismas xs, in a block from lo on and below hi -/
def GRow (w : World) (lo hi : Nat) (v : Value) (xs : List (Int × Bool)) : Prop :=
  w.ownsRow lo 52 2 v xs.length (tcs xs) ∧ ∀ g, v.ownBlock = some g → g < hi

theorem GRow.form {w : World} {lo hi : Nat} {v : Value} {xs : List (Int × Bool)} (h : GRow w lo hi v xs) : (v = .slice none 0 0 ∧ xs = []) ∨
    ∃ g cap, v = .slice (some ⟨g, 0, none⟩) xs.length cap ∧ lo ≤ g ∧ g < hi ∧ g < w.heap.size ∧ xs.length ≤ cap ∧ cap ≤ maxLen ∧
      (∀ i t, xs[i]? = some t → w.cell? ⟨g, i * 2, none⟩ = some (.int .i64 t.1) ∧ w.cell? ⟨g, i * 2 + 1, none⟩ = some (.bool t.2)) := by
  obtain ⟨⟨hl, h | ⟨g, cap, cur, rfl, hg, hh, hn, hcap, hsz, htake⟩⟩, hlt⟩ := h
  · exact .inl ⟨h.1, List.eq_nil_of_length_eq_zero h.2⟩
  · have hgs : g < w.heap.size := by
      rcases Nat.lt_or_ge g w.heap.size with h | h
      · exact h
      · rw [Array.getElem?_eq_none h] at hh; cases hh
    refine .inr ⟨g, cap, rfl, hg, hlt g rfl, hgs, hn, hcap, fun i t ht => ?_⟩
    obtain ⟨h0, h1⟩ := tcs_get ht
    have hi : i < xs.length := (List.getElem?_eq_some_iff.1 ht).1
    rw [← htake, List.getElem?_take_of_lt (by omega), Array.getElem?_toList] at h0 h1
    exact ⟨by simp [World.cell?, hh, h0], by simp [World.cell?, hh, h1]⟩

theorem GRow.keep {w w' : World} {lo hi : Nat} {v : Value} {xs : List (Int × Bool)} (h : GRow w lo hi v xs) (hk : ∀ k, k < w.heap.size → lo ≤ k → k < hi → w'.heap[k]? = w.heap[k]?) : GRow w' lo hi v xs := by
  obtain ⟨⟨hl, h | ⟨g, cap, cur, rfl, hg, hh, hn, hcap, hsz, htake⟩⟩, hlt⟩ := h
  · exact ⟨⟨hl, .inl h⟩, hlt⟩
  · have hgs : g < w.heap.size := by
      rcases Nat.lt_or_ge g w.heap.size with h | h
      · exact h
      · rw [Array.getElem?_eq_none h] at hh; cases hh
    exact ⟨⟨hl, .inr ⟨g, cap, cur, rfl, hg, (hk g hgs hg (hlt g rfl)).trans hh, hn, hcap, hsz, htake⟩⟩, hlt⟩
theorem GRow.below {w w' : World} {lo hi B : Nat} {v : Value} {xs : List (Int × Bool)} (h : GRow w lo hi v xs) (hb : Below B w w') (hB : hi ≤ B ∨ w.heap.size ≤ B) : GRow w' lo hi v xs :=
  h.keep fun k h1 h2 h3 => hb.block k (by omega)

/-- a list of melismas that a call has built: its block is its own -/
def GBuilt (w : World) (xs : List (Int × Bool)) (e : Ending) (w' : World) : Prop :=
  ∃ v, e = .returned v ∧ GRow w' w.heap.size w'.heap.size v xs ∧ Below w.heap.size w w'

theorem eqMelisma_yes (s : Int) (b : Bool) (w : World) :
    Calls Tryd.prog 98 #[.agg #[.int .i64 s, .bool b], .agg #[.int .i64 s, .bool b]] w fun e w' => e = .returned (.bool true) ∧ Below w.heap.size w w' := by
  go_enter Tryd.func98, Tryd.ntmps98
  go_wp2
  go_ret
  exact ⟨rfl, by (repeat' (first | (with_reducible exact Below.refl _ _) | (with_reducible refine Below.alloc ?_ ?_ _) | (with_reducible refine Below.drew ?_) | (with_reducible refine Below.setCell ?_ ?_ _) | (with_reducible refine bl_step ?_ (by assumption)) | go_size))⟩

set_option maxHeartbeats 1000000 in
theorem eqMelismaS_any (lo hi lo' hi' : Nat) (v u : Value) (xs : List (Int × Bool)) (w : World) (h : GRow w lo hi v xs) (k : GRow w lo' hi' u xs) :
    Calls Tryd.prog 51 #[v, u] w fun e w' => e = .returned (.bool true) ∧ Below w.heap.size w w' := by
  rcases h.form with ⟨rfl, rfl⟩ | ⟨g, cap, rfl, hg, hg2, hgs, hcap, hmax, hc⟩
  · rcases k.form with ⟨rfl, _⟩ | ⟨g', cap', rfl, _, _, _, _, _, _⟩
    all_goals
      go_enter Tryd.func51, Tryd.ntmps51
      go_wp2
      go_rounds 1
      go_ret
      exact ⟨rfl, Below.refl _ _⟩
  · rcases k.form with ⟨rfl, hx⟩ | ⟨g', cap', rfl, hg', hg2', hgs', hcap', hmax', hc'⟩
    · subst hx
      go_enter Tryd.func51, Tryd.ntmps51
      go_wp2
      go_rounds 1
      go_ret
      exact ⟨rfl, Below.refl _ _⟩
    · unfold maxLen at hmax hmax'
      have hlen : xs.length ≤ 9223372036854775807 := by omega
      have HG : Hid (∀ i, i < xs.length → ∃ s b, xs[i]? = some (s, b)) := fun i hi => ⟨xs[i].1, xs[i].2, List.getElem?_eq_getElem hi⟩
      clear h k
      generalize hn : xs.length = n at *
      clear hn
      have HC := Lib.hid hc
      have HC' := Lib.hid hc'
      clear hc hc'
      go_enter Tryd.func51, Tryd.ntmps51
      go_wp2
      go_loopw [5] (fun i wr => ∃ k : Nat, k ≤ n ∧ i = .int .i64 k ∧ Below w.heap.size w wr) (fun i _ => n - (intOf i).toNat)
      case atStart => exact ⟨0, Nat.zero_le _, rfl, Below.refl _ _⟩
      case round =>
        obtain ⟨k, hk, rfl, hb⟩ := hrel
        by_cases hlt : k < n
        · obtain ⟨s, b, hg0⟩ := HG.out k hlt
          have e1 : wr.cell? ⟨g, k * 2, none⟩ = some (.int .i64 s) := (hb.cell (p := ⟨g, k * 2, none⟩) hgs).trans (HC.out k _ hg0).1
          have e2 : wr.cell? ⟨g, k * 2 + 1, none⟩ = some (.bool b) := (hb.cell (p := ⟨g, k * 2 + 1, none⟩) hgs).trans (HC.out k _ hg0).2
          have e3 : wr.cell? ⟨g', k * 2, none⟩ = some (.int .i64 s) := (hb.cell (p := ⟨g', k * 2, none⟩) hgs').trans (HC'.out k _ hg0).1
          have e4 : wr.cell? ⟨g', k * 2 + 1, none⟩ = some (.bool b) := (hb.cell (p := ⟨g', k * 2 + 1, none⟩) hgs').trans (HC'.out k _ hg0).2
          have hk0 : (0 : Int) ≤ (k : Int) := by omega
          have hk1 : (k : Int) < (n : Int) := by omega
          clear hg0
          go_wp2
          go_region_with (go_at_call 98; refine (eqMelisma_yes _ _ _).mono ?_; rintro e w1 ⟨rfl, hb1⟩)
          all_goals
            go_wp2
            go_roundw
            case rel => exact ⟨k + 1, by omega, by go_num, (bl_step hb.drew hb1)⟩
            case measure => simp [intOf]; omega
        · go_wp2
          go_ret
          exact ⟨rfl, hb⟩

theorem infoMelisma : (Tryd.prog.info? 52).map (fun i => (i.zero, i.size, i.bytes)) = some (some (.agg #[.int .i64 0, .bool false]), 2, 16) := by kernel_rfl

/-- k melismas have been stored -/
def GsInv (w wr : World) (g n : Nat) (xs : List (Int × Bool)) (k : Nat) : Prop :=
  ∃ cur, wr.heap[g]? = some (.cells cur 52 (0, 0)) ∧ cur.size = n * 2 ∧ cur.toList.take (k * 2) = tcs (xs.take k) ∧ Below w.heap.size w wr

theorem GsInv.next {w w2 : World} {n k : Nat} {xs : List (Int × Bool)} {cur : Array Value} {s : Int} {b : Bool} (hh : w2.heap[w.heap.size]? = some (.cells cur 52 (0, 0))) (hsz : cur.size = n * 2)
    (htk : cur.toList.take (k * 2) = tcs (xs.take k)) (hb : Below w.heap.size w w2) (ht : xs[k]? = some (s, b)) (hk : k < n) :
    GsInv w ((w2.setCell ⟨w.heap.size, k * 2, none⟩ (.int .i64 s)).setCell ⟨w.heap.size, k * 2 + 1, none⟩ (.bool b)) w.heap.size n xs (k + 1) := by
  refine ⟨(cur.setIfInBounds (k * 2) (.int .i64 s)).setIfInBounds (k * 2 + 1) (.bool b), ?_, by simp [hsz], ?_, (hb.setCell (by simp) _).setCell (by simp) _⟩
  · simp [World.setCell, Array.getElem?_modify, hh]
  · have hk2 : k * 2 + 1 < cur.toList.length := by simp; omega
    have hx : xs.take (k + 1) = xs.take k ++ [(s, b)] := by rw [List.take_add_one, ht]; rfl
    rw [hx, tcs_app, ← htk, Array.toList_setIfInBounds, Array.toList_setIfInBounds]
    generalize cur.toList = l at hk2
    rw [show (k + 1) * 2 = k * 2 + 1 + 1 by omega, List.take_add_one, List.take_add_one, List.take_set_of_le (by omega), List.take_set_of_le (by omega)]
    have a1 : k * 2 < l.length := by omega
    simp [tcs, a1, hk2]
theorem gsEnd {w wr : World} {xs : List (Int × Bool)} {cur : Array Value} (hh : wr.heap[w.heap.size]? = some (.cells cur 52 (0, 0))) (hsz : cur.size = xs.length * 2)
    (htk : cur.toList.take (xs.length * 2) = tcs xs) (hb : Below w.heap.size w wr) (hm : xs.length ≤ maxLen) : GBuilt w xs (.returned (.slice (some ⟨w.heap.size, 0, none⟩) xs.length xs.length)) wr := by
  have hgs : w.heap.size < wr.heap.size := by
    rcases Nat.lt_or_ge w.heap.size wr.heap.size with h | h
    · exact h
    · rw [Array.getElem?_eq_none h] at hh; cases hh
  refine ⟨_, rfl, ⟨⟨tcs_len xs, .inr ⟨_, _, cur, rfl, Nat.le_refl _, hh, Nat.le_refl _, hm, hsz, htk⟩⟩, fun g hg => ?_⟩, hb⟩
  have : g = w.heap.size := by simpa [Value.ownBlock] using hg.symm
  omega

set_option maxHeartbeats 2000000 in
theorem toMelismaS_any (a : Option Addr) (c : Nat) (xs : List (Int × Bool)) (w : World) (h : ArgT w a xs) (hn : xs.length ≤ 1048576) :
    Calls Tryd.prog 49 #[.slice a xs.length c] w (GBuilt w xs) := by
  obtain ⟨i0, hi, hq0, hq1, hq2⟩ := info_parts infoMelisma
  go_enter Tryd.func49, Tryd.ntmps49
  go_wp2_with (at_make; refine wpList_make_full _ rfl _ _ 53 rfl w.heap.size 52 i0 (.agg #[.int .i64 0, .bool false]) 2 Tryd.underlying53 hi hq0 hq1 _ _ _ _ xs.length rfl rfl rfl rfl ?c1 ?c2 ?c3 ?_)
  case c1 => rw [hq2]; omega
  case c2 => unfold maxLen; omega
  case c3 => exact Nat.le_refl _
  intro w1 hown hg
  have h0 : GsInv w w1 w.heap.size xs.length xs 0 := by
    obtain ⟨hl, h1 | ⟨g, cap, cur, hv, _, hh, _, _, hsz, _⟩⟩ := hown
    · cases h1.1
    · injection hv with hv1 _ hv2
      injection hv1 with hv1
      injection hv1 with hv1
      subst hv1 hv2
      exact ⟨cur, hh, hsz, by simp [tcs], ⟨hg.os, hg.tape, hg.output, hg.size, fun i hi => hg.block i hi (fun e => by cases e)⟩⟩
  clear hown hg
  go_wp2
  go_loopw [4] (fun i wr => ∃ k : Nat, k ≤ xs.length ∧ i = .int .i64 k ∧ GsInv w wr w.heap.size xs.length xs k) (fun i _ => xs.length - (intOf i).toNat)
  case atStart => exact ⟨0, Nat.zero_le _, rfl, h0⟩
  case round =>
    obtain ⟨k, hk, rfl, cur, hh, hsz, htk, hb⟩ := hrel
    by_cases hlt : k < xs.length
    · obtain ⟨t, ht⟩ : ∃ t, xs[k]? = some t := ⟨xs[k], List.getElem?_eq_getElem (by omega)⟩
      rcases h with h | ⟨A, off, rfl, hA, hc⟩
      · subst h; simp at hlt
      obtain ⟨s, b⟩ := t
      have e1 := (hb.cell (p := ⟨A, off + k * 2, none⟩) hA).trans (hc k _ ht).1
      have e2 := (hb.cell (p := ⟨A, off + k * 2 + 1, none⟩) hA).trans (hc k _ ht).2
      have hk0 : (0 : Int) ≤ (k : Int) := by omega
      have hk1 : (k : Int) < (xs.length : Int) := by omega
      have hgs : w.heap.size < wr.heap.size := by
        rcases Nat.lt_or_ge w.heap.size wr.heap.size with h | h
        · exact h
        · rw [Array.getElem?_eq_none h] at hh; cases hh
      go_wp2_with (fail)
      (go_at_call 96; refine (toMelisma_any _ _ _).mono ?_; rintro e w2 ⟨rfl, hb2⟩)
      have hh2 := (hb2.block _ hgs).trans hh
      have k0 : k * 2 < cur.size := by omega
      have k1 : k * 2 + 1 < cur.size := by omega
      have d0 : w2.cell? ⟨w.heap.size, k * 2, none⟩ = some cur[k * 2] := by simp [World.cell?, hh2, Array.getElem?_eq_getElem k0]
      have d1 : w2.cell? ⟨w.heap.size, k * 2 + 1, none⟩ = some cur[k * 2 + 1] := by simp [World.cell?, hh2, Array.getElem?_eq_getElem k1]
      have df : ∀ o, w2.frozen? ⟨w.heap.size, o, none⟩ = false := fun o => by simp [World.frozen?, hh2]
      have HX := Lib.hid (GsInv.next hh2 hsz htk (bl_step hb hb2) ht hlt)
      clear htk hsz
      go_wp2
      go_roundw
      case rel => exact ⟨k + 1, by omega, by go_num, HX.out⟩
      case measure => simp [intOf]; omega
    · have hkn : k = xs.length := by omega
      have HT := Lib.hid (gsEnd hh hsz (by rw [hkn] at htk; simpa using htk) hb (by unfold maxLen; omega))
      clear htk hsz hh h
      go_wp2
      go_ret
      exact HT.out

theorem szMelismaS_any (a : Option Addr) (n c : Nat) (hn : n ≤ 9223372036854775807) (w : World) :
    Calls Tryd.prog 47 #[.slice a n c, .int .i64 1048576] w fun e w' => e = .returned (.int .i64 (if n ≤ 1048576 then 1048576 - (n : Int) else -1)) ∧ w = w' := by
  by_cases h : n ≤ 1048576
  · rw [if_pos h]
    go_enter Tryd.func47, Tryd.ntmps47
    go_wp2
    go_ret
    exact ⟨rfl, rfl⟩
  · rw [if_neg h]
    have g : (1048576 : Int) < (n : Int) := by omega
    go_enter Tryd.func47, Tryd.ntmps47
    go_wp2
    go_ret
    exact ⟨rfl, rfl⟩
end Go.Proofs.YtkjimilapgkajabDoor
