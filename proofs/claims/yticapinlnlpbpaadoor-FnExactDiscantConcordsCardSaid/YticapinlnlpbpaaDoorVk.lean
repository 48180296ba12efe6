/-
  Lists of voices measured, made, compared, marked and read again by the exact laws' helpers.
-/
import Derived.Test.YticapinlnlpbpaaDoorVo
import Derived.Deep.RegionWith
import Derived.IntWalk
namespace Go.Proofs.YticapinlnlpbpaaDoor
open Go.RowKit
set_option maxRecDepth 100000
set_option linter.unusedVariables false

theorem szVoice_any (a : Option Addr) (n c : Nat) (hn : n ≤ 9223372036854775807) (l : Nat) (hl : l ≤ 1048576) (w : World) :
    Calls Tryd.prog 12 #[.slice a n c, .int .i64 l] w fun e w' => e = .returned (.int .i64 (if n ≤ l then (l : Int) - (n : Int) else -1)) ∧ w = w' := by
  by_cases h : n ≤ l
  · rw [if_pos h]
    have g : decide ((l : Int) - (n : Int) < 0) = false := by simp; omega
    go_enter Tryd.func12, Tryd.ntmps12
    go_wp2
    go_ret
    exact ⟨rfl, rfl⟩
  · rw [if_neg h]
    have g : decide ((l : Int) - (n : Int) < 0) = true := by simp; omega
    have g2 : l < n := by omega
    go_enter Tryd.func12, Tryd.ntmps12
    go_wp2
    go_ret
    exact ⟨rfl, rfl⟩

theorem szVoice1_any (a : Option Addr) (n c : Nat) (hn : n ≤ 9223372036854775807) (w : World) :
    Calls Tryd.prog 12 #[.slice a n c, .int .i64 1048576] w fun e w' => e = .returned (.int .i64 (if n ≤ 1048576 then (1048576 : Int) - (n : Int) else -1)) ∧ w = w' :=
  szVoice_any a n c hn 1048576 (Nat.le_refl _) w

theorem box2_at {W : World} {g : Nat} {x y : Value} {T : TypeId} (h : W.heap[g]? = some (.cells #[x, y] T (0, 0))) : W.cell? ⟨g, 0, none⟩ = some x ∧ W.cell? ⟨g, 1, none⟩ = some y := by
  constructor <;> simp [World.cell?, h]
theorem box2_cell (w : World) (x y : Value) (T : TypeId) : (w.alloc (.cells #[x, y] T)).cell? ⟨w.heap.size, 0, none⟩ = some x ∧ (w.alloc (.cells #[x, y] T)).cell? ⟨w.heap.size, 1, none⟩ = some y :=
  box2_at (heap_alloc_new w _)

set_option maxHeartbeats 1000000 in
theorem toVoice_any (s : Int) (b : Bool) (n : Int) (w : World) :
    Calls Tryd.prog 49 #[.agg #[.int .i64 s, .bool b, .int .i64 n]] w fun e w' => e = .returned (.agg #[.int .i64 s, .bool b, .int .i64 n]) ∧ Below w.heap.size w w' := by
  go_enter Tryd.func49, Tryd.ntmps49
  go_wp2_with (go_at_call 80; refine (toTone_any _ _ _).mono ?_; rintro e w1 ⟨rfl, hb1⟩; obtain ⟨hc1, hf1, hz1⟩ := bl hb1; (try simp at hz1); (try (refine got (p := w.heap.size < w1.heap.size) ?_ ?_; (focus (go_size; done)); intro q1_w0)); (try (refine got (p := w1.cell? ⟨w.heap.size, 0, none⟩ = some (.int .i64 s)) ?_ ?_; (focus (refine (hc1 _ _ ?_).trans ?_; (focus (go_size; done)); go_simp; done)); intro c1_w0_0)); (try (refine got (p := w1.cell? ⟨w.heap.size, 1, none⟩ = some (.bool b)) ?_ ?_; (focus (refine (hc1 _ _ ?_).trans ?_; (focus (go_size; done)); go_simp; done)); intro c1_w0_1)); (try (refine got (p := w1.cell? ⟨w.heap.size, 2, none⟩ = some (.int .i64 n)) ?_ ?_; (focus (refine (hc1 _ _ ?_).trans ?_; (focus (go_size; done)); go_simp; done)); intro c1_w0_2)); (try (refine got (p := ∀ o, w1.frozen? ⟨w.heap.size, o, none⟩ = false) ?_ ?_; (focus (intro o; refine (hf1 _ _ ?_).trans ?_; (focus (go_size; done)); go_simp; done)); intro f1_w0)); (try (refine got (p := w.heap.size + 1 < w1.heap.size) ?_ ?_; (focus (go_size; done)); intro q1_w1)); (try (refine got (p := w1.cell? ⟨w.heap.size + 1, 0, none⟩ = some (.int .i64 0)) ?_ ?_; (focus (refine (hc1 _ _ ?_).trans ?_; (focus (go_size; done)); go_simp; done)); intro c1_w1_0)); (try (refine got (p := w1.cell? ⟨w.heap.size + 1, 1, none⟩ = some (.bool false)) ?_ ?_; (focus (refine (hc1 _ _ ?_).trans ?_; (focus (go_size; done)); go_simp; done)); intro c1_w1_1)); (try (refine got (p := w1.cell? ⟨w.heap.size + 1, 2, none⟩ = some (.int .i64 0)) ?_ ?_; (focus (refine (hc1 _ _ ?_).trans ?_; (focus (go_size; done)); go_simp; done)); intro c1_w1_2)); (try (refine got (p := ∀ o, w1.frozen? ⟨w.heap.size + 1, o, none⟩ = false) ?_ ?_; (focus (intro o; refine (hf1 _ _ ?_).trans ?_; (focus (go_size; done)); go_simp; done)); intro f1_w1)); (try (refine got (p := w.heap.size + 2 < w1.heap.size) ?_ ?_; (focus (go_size; done)); intro q1_w2)); (try (refine got (p := w1.cell? ⟨w.heap.size + 2, 0, none⟩ = some (.int .i64 0)) ?_ ?_; (focus (refine (hc1 _ _ ?_).trans ?_; (focus (go_size; done)); go_simp; done)); intro c1_w2_0)); (try (refine got (p := w1.cell? ⟨w.heap.size + 2, 1, none⟩ = some (.bool false)) ?_ ?_; (focus (refine (hc1 _ _ ?_).trans ?_; (focus (go_size; done)); go_simp; done)); intro c1_w2_1)); (try (refine got (p := w1.cell? ⟨w.heap.size + 2, 2, none⟩ = some (.int .i64 0)) ?_ ?_; (focus (refine (hc1 _ _ ?_).trans ?_; (focus (go_size; done)); go_simp; done)); intro c1_w2_2)); (try (refine got (p := ∀ o, w1.frozen? ⟨w.heap.size + 2, o, none⟩ = false) ?_ ?_; (focus (intro o; refine (hf1 _ _ ?_).trans ?_; (focus (go_size; done)); go_simp; done)); intro f1_w2)); clear hc1 hf1)
  refine bodyPost_ret (v := .agg #[.int .i64 s, .bool b, .int .i64 n]) (by simp only [results, Tryd.results49]; go_simp) rfl ⟨rfl, ?_⟩; (repeat' (first | (with_reducible exact Below.refl _ _) | (with_reducible refine Below.alloc ?_ ?_ _) | (with_reducible refine Below.drew ?_) | (with_reducible refine Below.setCell ?_ ?_ _) | (with_reducible refine bl_step ?_ (by assumption)) | go_size))

set_option maxHeartbeats 1000000 in
theorem eqVoice_yes (s : Int) (b : Bool) (n : Int) (w : World) :
    Calls Tryd.prog 53 #[.agg #[.int .i64 s, .bool b, .int .i64 n], .agg #[.int .i64 s, .bool b, .int .i64 n]] w fun e w' => e = .returned (.bool true) ∧ Below w.heap.size w w' := by
  go_enter Tryd.func53, Tryd.ntmps53
  go_wp2_with (go_at_call 82; refine (eqTone_yes _ _ _).mono ?_; rintro e w1 ⟨rfl, hb1⟩; obtain ⟨hc1, hf1, hz1⟩ := bl hb1; (try simp at hz1); (try (refine got (p := w.heap.size < w1.heap.size) ?_ ?_; (focus (go_size; done)); intro q1_w0)); (try (refine got (p := w1.cell? ⟨w.heap.size, 0, none⟩ = some (.int .i64 s)) ?_ ?_; (focus (refine (hc1 _ _ ?_).trans ?_; (focus (go_size; done)); go_simp; done)); intro c1_w0_0)); (try (refine got (p := w1.cell? ⟨w.heap.size, 1, none⟩ = some (.bool b)) ?_ ?_; (focus (refine (hc1 _ _ ?_).trans ?_; (focus (go_size; done)); go_simp; done)); intro c1_w0_1)); (try (refine got (p := w1.cell? ⟨w.heap.size, 2, none⟩ = some (.int .i64 n)) ?_ ?_; (focus (refine (hc1 _ _ ?_).trans ?_; (focus (go_size; done)); go_simp; done)); intro c1_w0_2)); (try (refine got (p := ∀ o, w1.frozen? ⟨w.heap.size, o, none⟩ = false) ?_ ?_; (focus (intro o; refine (hf1 _ _ ?_).trans ?_; (focus (go_size; done)); go_simp; done)); intro f1_w0)); (try (refine got (p := w.heap.size + 1 < w1.heap.size) ?_ ?_; (focus (go_size; done)); intro q1_w1)); (try (refine got (p := w1.cell? ⟨w.heap.size + 1, 0, none⟩ = some (.int .i64 s)) ?_ ?_; (focus (refine (hc1 _ _ ?_).trans ?_; (focus (go_size; done)); go_simp; done)); intro c1_w1_0)); (try (refine got (p := w1.cell? ⟨w.heap.size + 1, 1, none⟩ = some (.bool b)) ?_ ?_; (focus (refine (hc1 _ _ ?_).trans ?_; (focus (go_size; done)); go_simp; done)); intro c1_w1_1)); (try (refine got (p := w1.cell? ⟨w.heap.size + 1, 2, none⟩ = some (.int .i64 n)) ?_ ?_; (focus (refine (hc1 _ _ ?_).trans ?_; (focus (go_size; done)); go_simp; done)); intro c1_w1_2)); (try (refine got (p := ∀ o, w1.frozen? ⟨w.heap.size + 1, o, none⟩ = false) ?_ ?_; (focus (intro o; refine (hf1 _ _ ?_).trans ?_; (focus (go_size; done)); go_simp; done)); intro f1_w1)); clear hc1 hf1)
  go_ret
  exact ⟨rfl, by (repeat' (first | (with_reducible exact Below.refl _ _) | (with_reducible refine Below.alloc ?_ ?_ _) | (with_reducible refine Below.drew ?_) | (with_reducible refine Below.setCell ?_ ?_ _) | (with_reducible refine bl_step ?_ (by assumption)) | go_size))⟩

set_option maxHeartbeats 2000000 in
theorem eqVoiceV_any (v u : Value) (xs : List Vc) (w : World) (h : VV w v xs) (k : VV w u xs) :
    Calls Tryd.prog 17 #[v, u] w fun e w' => e = .returned (.bool true) ∧ Below w.heap.size w w' := by
  obtain ⟨a, c, rfl, ha, hc1, hc2⟩ := h
  obtain ⟨a', c', rfl, ha', hc1', hc2'⟩ := k
  unfold maxLen at hc2 hc2'
  have hlen : xs.length ≤ 9223372036854775807 := by omega
  have HA := Lib.hid ha
  have HA' := Lib.hid ha'
  clear ha ha'
  go_enter Tryd.func17, Tryd.ntmps17
  go_wp2
  go_loopw [5] (fun i wr => ∃ k : Nat, k ≤ xs.length ∧ i = .int .i64 k ∧ Below w.heap.size w wr) (fun i _ => xs.length - (intOf i).toNat)
  case atStart => exact ⟨0, Nat.zero_le _, rfl, Below.refl _ _⟩
  case round =>
    obtain ⟨k, hk, rfl, hb⟩ := hrel
    by_cases hlt : k < xs.length
    · have hne : xs ≠ [] := by rintro rfl; simp at hlt
      obtain ⟨⟨⟨s, b⟩, n⟩, hx⟩ : ∃ x, xs[k]? = some x := ⟨xs[k], List.getElem?_eq_getElem hlt⟩
      rcases HA.out with h | ⟨A, off, rfl, hA, hc⟩
      · exact absurd h hne
      rcases HA'.out with h | ⟨A', off', rfl, hA', hc'⟩
      · exact absurd h hne
      obtain ⟨d0, d1, d2⟩ := hc k _ hx
      obtain ⟨d0', d1', d2'⟩ := hc' k _ hx
      have e1 : wr.cell? ⟨A, off + k * 3, none⟩ = some (.int .i64 s) := (hb.cell (p := ⟨A, off + k * 3, none⟩) hA).trans d0
      have e2 : wr.cell? ⟨A, off + k * 3 + 1, none⟩ = some (.bool b) := (hb.cell (p := ⟨A, off + k * 3 + 1, none⟩) hA).trans d1
      have e3 : wr.cell? ⟨A, off + k * 3 + 2, none⟩ = some (.int .i64 n) := (hb.cell (p := ⟨A, off + k * 3 + 2, none⟩) hA).trans d2
      have e4 : wr.cell? ⟨A', off' + k * 3, none⟩ = some (.int .i64 s) := (hb.cell (p := ⟨A', off' + k * 3, none⟩) hA').trans d0'
      have e5 : wr.cell? ⟨A', off' + k * 3 + 1, none⟩ = some (.bool b) := (hb.cell (p := ⟨A', off' + k * 3 + 1, none⟩) hA').trans d1'
      have e6 : wr.cell? ⟨A', off' + k * 3 + 2, none⟩ = some (.int .i64 n) := (hb.cell (p := ⟨A', off' + k * 3 + 2, none⟩) hA').trans d2'
      have hk0 : (0 : Int) ≤ (k : Int) := by omega
      have hk1 : (k : Int) < (xs.length : Int) := by omega
      clear hc hc' hne hx d0 d1 d2 d0' d1' d2'
      go_wp2
      go_region_with (go_at_call 53; refine (eqVoice_yes _ _ _ _).mono ?_; rintro e w1 ⟨rfl, hb1⟩)
      all_goals
        go_wp2
        go_roundw
        case rel => exact ⟨k + 1, by omega, by go_num, (bl_step hb.drew hb1)⟩
        case measure => simp [intOf]; omega
    · go_wp2
      go_ret
      exact ⟨rfl, hb⟩

theorem infoVoice : (Tryd.prog.info? 49).map (fun i => (i.zero, i.size, i.bytes)) = some (some (.agg #[.int .i64 0, .bool false, .int .i64 0]), 3, 24) := by kernel_rfl

/-- the first k voices stored -/
def TvkInv (w wr : World) (n : Nat) (xs : List Vc) (k : Nat) : Prop :=
  ∃ cur, wr.heap[w.heap.size]? = some (.cells cur 49 (0, 0)) ∧ cur.size = n * 3 ∧ cur.toList.take (k * 3) = vcs (xs.take k) ∧ Below w.heap.size w wr
theorem take3 (l : List Value) (k : Nat) (a b c : Value) (h : k * 3 + 2 < l.length) :
    (((l.set (k * 3) a).set (k * 3 + 1) b).set (k * 3 + 2) c).take ((k + 1) * 3) = l.take (k * 3) ++ [a, b, c] := by
  rw [show (k + 1) * 3 = k * 3 + 1 + 1 + 1 by omega, List.take_add_one, List.take_add_one, List.take_add_one, List.take_set_of_le (by omega), List.take_set_of_le (by omega), List.take_set_of_le (by omega)]
  have a1 : k * 3 < l.length := by omega
  have a2 : k * 3 + 1 < l.length := by omega
  simp [a1, a2, h]
theorem TvkInv.next {w w2 : World} {n k : Nat} {xs : List Vc} {cur : Array Value} {s : Int} {b : Bool} {m : Int} (hh : w2.heap[w.heap.size]? = some (.cells cur 49 (0, 0))) (hsz : cur.size = n * 3)
    (htk : cur.toList.take (k * 3) = vcs (xs.take k)) (hb : Below w.heap.size w w2) (ht : xs[k]? = some ((s, b), m)) (hk : k < n) :
    TvkInv w (((w2.setCell ⟨w.heap.size, k * 3, none⟩ (.int .i64 s)).setCell ⟨w.heap.size, k * 3 + 1, none⟩ (.bool b)).setCell ⟨w.heap.size, k * 3 + 2, none⟩ (.int .i64 m)) n xs (k + 1) := by
  refine ⟨((cur.setIfInBounds (k * 3) (.int .i64 s)).setIfInBounds (k * 3 + 1) (.bool b)).setIfInBounds (k * 3 + 2) (.int .i64 m), ?_, by simp [hsz], ?_, ((hb.setCell (by simp) _).setCell (by simp) _).setCell (by simp) _⟩
  · simp [World.setCell, Array.getElem?_modify, hh]
  · have hx : xs.take (k + 1) = xs.take k ++ [((s, b), m)] := by rw [List.take_add_one, ht]; rfl
    rw [hx, vcs_app, ← htk, Array.toList_setIfInBounds, Array.toList_setIfInBounds, Array.toList_setIfInBounds, take3 _ _ _ _ _ (by simp; omega)]
    rfl
theorem TvkInv.end_ {w wr : World} {xs : List Vc} (h : TvkInv w wr xs.length xs xs.length) (hm : xs.length ≤ maxLen) : VBuilt w xs (.returned (.slice (some ⟨w.heap.size, 0, none⟩) xs.length xs.length)) wr := by
  obtain ⟨cur, hh, hsz, htk, hb⟩ := h
  rw [List.take_length] at htk
  have hgs : w.heap.size < wr.heap.size := by
    rcases Nat.lt_or_ge w.heap.size wr.heap.size with h | h
    · exact h
    · rw [Array.getElem?_eq_none h] at hh; cases hh
  refine ⟨_, rfl, ⟨⟨vcs_len xs, .inr ⟨_, _, cur, rfl, Nat.le_refl _, hh, Nat.le_refl _, hm, hsz, htk⟩⟩, fun g hg => ?_⟩, hb⟩
  have : g = w.heap.size := by simpa [Value.ownBlock] using hg.symm
  omega

set_option maxHeartbeats 4000000 in
theorem toVoiceS_any (a : Option Addr) (c : Nat) (xs : List Vc) (w : World) (h : ArgV w a xs) (hn : xs.length ≤ 1048576) :
    Calls Tryd.prog 14 #[.slice a xs.length c] w (VBuilt w xs) := by
  obtain ⟨i0, hi, hq0, hq1, hq2⟩ := info_parts infoVoice
  go_enter Tryd.func14, Tryd.ntmps14
  go_wp2_with (at_make; refine wpList_make_full _ rfl _ _ 26 rfl w.heap.size 49 i0 (.agg #[.int .i64 0, .bool false, .int .i64 0]) 3 Tryd.underlying26 hi hq0 hq1 _ _ _ _ xs.length rfl rfl rfl rfl ?c1 ?c2 ?c3 ?_)
  case c1 => rw [hq2]; omega
  case c2 => unfold maxLen; omega
  case c3 => exact Nat.le_refl _
  intro w1 hown hg
  have h0 : TvkInv w w1 xs.length xs 0 := by
    obtain ⟨hl, h1 | ⟨g, cap, cur, hv, _, hh, _, _, hsz, _⟩⟩ := hown
    · cases h1.1
    · injection hv with hv1 _ hv2
      injection hv1 with hv1
      injection hv1 with hv1
      subst hv1 hv2
      exact ⟨cur, hh, hsz, by simp [vcs], ⟨hg.os, hg.tape, hg.output, hg.size, fun i hi => hg.block i hi (fun e => by cases e)⟩⟩
  clear hown hg
  go_wp2
  go_loopw [4] (fun i wr => ∃ k : Nat, k ≤ xs.length ∧ i = .int .i64 k ∧ TvkInv w wr xs.length xs k) (fun i _ => xs.length - (intOf i).toNat)
  case atStart => exact ⟨0, Nat.zero_le _, rfl, h0⟩
  case round =>
    obtain ⟨k, hk, rfl, hinv⟩ := hrel
    by_cases hlt : k < xs.length
    · obtain ⟨cur, hh, hsz, htk, hb⟩ := hinv
      obtain ⟨⟨⟨s, b⟩, m⟩, ht⟩ : ∃ t, xs[k]? = some t := ⟨xs[k], List.getElem?_eq_getElem (by omega)⟩
      rcases h with h | ⟨A, off, rfl, hA, hc⟩
      · subst h; simp at hlt
      obtain ⟨d0, d1, d2⟩ := hc k _ ht
      have e1 := (hb.cell (p := ⟨A, off + k * 3, none⟩) hA).trans d0
      have e2 := (hb.cell (p := ⟨A, off + k * 3 + 1, none⟩) hA).trans d1
      have e3 := (hb.cell (p := ⟨A, off + k * 3 + 2, none⟩) hA).trans d2
      have hk0 : (0 : Int) ≤ (k : Int) := by omega
      have hk1 : (k : Int) < (xs.length : Int) := by omega
      have hgs : w.heap.size < wr.heap.size := by
        rcases Nat.lt_or_ge w.heap.size wr.heap.size with h | h
        · exact h
        · rw [Array.getElem?_eq_none h] at hh; cases hh
      clear d0 d1 d2
      go_wp2_with (fail)
      (go_at_call 49; refine (toVoice_any _ _ _ _).mono ?_; rintro e w2 ⟨rfl, hb2⟩)
      have hh2 := (hb2.block _ hgs).trans hh
      have k0 : k * 3 < cur.size := by omega
      have k1 : k * 3 + 1 < cur.size := by omega
      have k2 : k * 3 + 2 < cur.size := by omega
      have d0 : w2.cell? ⟨w.heap.size, k * 3, none⟩ = some cur[k * 3] := by simp [World.cell?, hh2, Array.getElem?_eq_getElem k0]
      have d1 : w2.cell? ⟨w.heap.size, k * 3 + 1, none⟩ = some cur[k * 3 + 1] := by simp [World.cell?, hh2, Array.getElem?_eq_getElem k1]
      have d2 : w2.cell? ⟨w.heap.size, k * 3 + 2, none⟩ = some cur[k * 3 + 2] := by simp [World.cell?, hh2, Array.getElem?_eq_getElem k2]
      have df : ∀ o, w2.frozen? ⟨w.heap.size, o, none⟩ = false := fun o => by simp [World.frozen?, hh2]
      have HX := Lib.hid (TvkInv.next hh2 hsz htk (bl_step hb hb2) ht hlt)
      clear htk hsz
      go_wp2
      go_roundw
      case rel => exact ⟨k + 1, by omega, by go_num, HX.out⟩
      case measure => simp [intOf]; omega
    · have hkn : k = xs.length := by omega
      subst hkn
      have HT := Lib.hid (hinv.end_ (by unfold maxLen; omega))
      clear hinv h h0
      go_wp2
      go_ret
      exact HT.out

/-- the marks of n voices from s on -/
def mkv (s : Int) (n : Nat) : List Vc := (List.range n).map fun i : Nat => ((s + 3 * (i : Int), (s + 3 * (i : Int) + 1) % 3 == 0), s + 3 * (i : Int) + 2)
theorem mkv_len (s : Int) (n : Nat) : (mkv s n).length = n := by simp [mkv]
theorem mkv_get (s : Int) (n i : Nat) (h : i < n) : (mkv s n)[i]? = some ((s + 3 * (i : Int), (s + 3 * (i : Int) + 1) % 3 == 0), s + 3 * (i : Int) + 2) := by
  simp [mkv, List.getElem?_map, List.getElem?_range h]
theorem mkv_succ (s : Int) (n : Nat) : mkv s (n + 1) = mkv s n ++ [((s + 3 * (n : Int), (s + 3 * (n : Int) + 1) % 3 == 0), s + 3 * (n : Int) + 2)] := by simp [mkv, List.range_succ]

/-- k voices of block g are marked -/
def MvInv (w wr : World) (g cap : Nat) (s : Int) (k : Nat) : Prop :=
  ∃ cur, wr.heap[g]? = some (.cells cur 49 (0, 0)) ∧ cur.size = cap * 3 ∧ cur.toList.take (k * 3) = vcs (mkv s k) ∧ w.grownBy wr (some g)
theorem MvInv.cells {w wr : World} {g cap : Nat} {s : Int} {k : Nat} (h : MvInv w wr g cap s k) (hk : k < cap) : (∃ u, wr.cell? ⟨g, k * 3, none⟩ = some u) ∧ (∃ u, wr.cell? ⟨g, k * 3 + 1, none⟩ = some u) ∧ (∃ u, wr.cell? ⟨g, k * 3 + 2, none⟩ = some u) ∧ (∀ o, wr.frozen? ⟨g, o, none⟩ = false) := by
  obtain ⟨cur, hh, hsz, _, _⟩ := h
  refine ⟨⟨cur[k * 3]'(by omega), ?_⟩, ⟨cur[k * 3 + 1]'(by omega), ?_⟩, ⟨cur[k * 3 + 2]'(by omega), ?_⟩, fun o => by simp [World.frozen?, hh]⟩
  · simp [World.cell?, hh, Array.getElem?_eq_getElem (by omega : k * 3 < cur.size)]
  · simp [World.cell?, hh, Array.getElem?_eq_getElem (by omega : k * 3 + 1 < cur.size)]
  · simp [World.cell?, hh, Array.getElem?_eq_getElem (by omega : k * 3 + 2 < cur.size)]
theorem MvInv.next {w wr : World} {g cap : Nat} {s : Int} {k : Nat} (h : MvInv w wr g cap s k) (hk : k < cap) :
    MvInv w (((wr.setCell ⟨g, k * 3, none⟩ (.int .i64 (s + 3 * (k : Int)))).setCell ⟨g, k * 3 + 1, none⟩ (.bool ((s + 3 * (k : Int) + 1) % 3 == 0))).setCell ⟨g, k * 3 + 2, none⟩ (.int .i64 (s + 3 * (k : Int) + 2))) g cap s (k + 1) := by
  obtain ⟨cur, hh, hsz, ht, hg⟩ := h
  refine ⟨((cur.setIfInBounds (k * 3) (.int .i64 (s + 3 * (k : Int)))).setIfInBounds (k * 3 + 1) (.bool ((s + 3 * (k : Int) + 1) % 3 == 0))).setIfInBounds (k * 3 + 2) (.int .i64 (s + 3 * (k : Int) + 2)), by simp [World.setCell, Array.getElem?_modify, hh], by simp [hsz], ?_, ⟨hg.os, hg.tape, hg.output, by simpa [World.setCell] using hg.size, fun i hi hne => ?_⟩⟩
  · rw [mkv_succ, vcs_app, ← ht, Array.toList_setIfInBounds, Array.toList_setIfInBounds, Array.toList_setIfInBounds, take3 _ _ _ _ _ (by simp; omega)]
    rfl
  · rw [Below.heap_setCell _ _ _ _ (fun e => hne (by rw [e])), Below.heap_setCell _ _ _ _ (fun e => hne (by rw [e])), Below.heap_setCell _ _ _ _ (fun e => hne (by rw [e]))]
    exact hg.block i hi hne

def VMarked (w : World) (lo hi : Nat) (v : Value) (s : Int) (n : Nat) (e : Ending) (w' : World) : Prop :=
  e = .returned (.int .i64 (s + 3 * (n : Int))) ∧ VRow w' lo hi v (mkv s n) ∧ Turned lo hi w w'

set_option maxHeartbeats 2000000 in
theorem markVoiceS_any (lo hi : Nat) (v : Value) (xs : List Vc) (s : Int) (hs : 0 ≤ s) (hs1 : s ≤ 10000000) (hx : xs.length ≤ 1048576) (w : World) (h : VRow w lo hi v xs) :
    Calls Tryd.prog 18 #[v, .int .i64 s] w (VMarked w lo hi v s xs.length) := by
  obtain ⟨⟨hl, ⟨rfl, hx0⟩ | ⟨g, cap, cur, rfl, hg, hh, hcap, hmax, hsz, htk⟩⟩, hlt2⟩ := h
  · have hx1 : xs = [] := List.eq_nil_of_length_eq_zero hx0
    subst hx1
    have HN : Hid (VMarked w lo hi (.slice none 0 0) s 0 (.returned (.int .i64 s)) w) := ⟨by simp, ⟨⟨rfl, .inl ⟨rfl, rfl⟩⟩, hlt2⟩, ⟨rfl, rfl, rfl, Nat.le_refl _, fun _ _ _ => rfl⟩⟩
    clear hl hlt2
    go_enter Tryd.func18, Tryd.ntmps18
    go_wp2
    go_rounds 1
    go_ret
    exact HN.out
  · have hg2 : g < hi := hlt2 g rfl
    have hend : ∀ wr, MvInv w wr g cap s xs.length → VMarked w lo hi (.slice (some ⟨g, 0, none⟩) xs.length cap) s xs.length (.returned (.int .i64 (s + 3 * (xs.length : Int)))) wr := by
      rintro wr ⟨cur', hh', hsz', ht', hg'⟩
      refine ⟨rfl, ⟨⟨vcs_len _, .inr ⟨g, cap, cur', by rw [mkv_len], hg, hh', by rw [mkv_len]; exact hcap, hmax, hsz', by rw [mkv_len]; exact ht'⟩⟩, hlt2⟩, ⟨hg'.os, hg'.tape, hg'.output, hg'.size, fun k hk ho => hg'.block k hk (fun e => by injection e; omega)⟩⟩
    have h0 : MvInv w w g cap s 0 := ⟨cur, hh, hsz, by simp [mkv, vcs], World.grownBy.refl w _⟩
    unfold maxLen at hmax
    have HEND := Lib.hid hend
    clear hl hlt2 hh hsz htk hend
    generalize hn : xs.length = n at *
    clear hn
    go_enter Tryd.func18, Tryd.ntmps18
    go_wp2
    go_loopw [1, 5] (fun m i wr => ∃ k : Nat, k ≤ n ∧ i = .int .i64 k ∧ m = .int .i64 (s + 3 * (k : Int)) ∧ MvInv w wr g cap s k) (fun _ i _ => n - (intOf i).toNat)
    case atStart => exact ⟨0, Nat.zero_le _, rfl, by simp, h0⟩
    case round =>
      obtain ⟨k, hk, rfl, rfl, hi⟩ := hrel
      by_cases hlt : k < n
      · obtain ⟨⟨u0, d0⟩, ⟨u1, d1⟩, ⟨u2, d2⟩, df⟩ := hi.cells (by omega)
        have HI := Lib.hid (hi.next (by omega : k < cap))
        have hk0 : (0 : Int) ≤ (k : Int) := by omega
        have hk1 : (k : Int) < (n : Int) := by omega
        have q1 : IntKind.i64.wrap (s + 3 * (k : Int) + 1) = s + 3 * (k : Int) + 1 := IntWalk.i64_in _ (by omega)
        have q2 : IntKind.i64.wrap (s + 3 * (k : Int) + 1 + 1) = s + 3 * (k : Int) + 2 := by rw [IntWalk.i64_in _ (by omega)]; omega
        have q3 : IntKind.i64.wrap (s + 3 * (k : Int) + 2 + 1) = s + 3 * ((k + 1 : Nat) : Int) := by rw [IntWalk.i64_in _ (by omega)]; omega
        clear hi h0
        go_wp2
        go_roundw
        case rel => exact ⟨k + 1, by omega, by go_num, rfl, HI.out⟩
        case measure => simp [intOf]; omega
      · have hkn : k = n := by omega
        subst hkn
        have HE := Lib.hid (HEND.out wr hi)
        clear h0 hi
        go_wp2
        go_ret
        exact HE.out

set_option maxHeartbeats 2000000 in
theorem heldVoiceS_any (lo hi : Nat) (v : Value) (s : Int) (n : Nat) (hs : 0 ≤ s) (hs1 : s ≤ 1000000) (hx : n ≤ 1048576) (w : World) (h : VRow w lo hi v (mkv s n)) :
    Calls Tryd.prog 27 #[v, .int .i64 s] w fun e w' => e = .returned (.int .i64 (s + 3 * (n : Int))) ∧ w = w' := by
  rcases h.form with ⟨rfl, hx0⟩ | ⟨g, cap, cur, rfl, hg, hg2, hgs, hcap, hmax, hh, hsz, htk, hc⟩
  · have hn : n = 0 := by have := mkv_len s n; rw [hx0] at this; simpa using this.symm
    subst hn
    go_enter Tryd.func27, Tryd.ntmps27
    go_wp2
    go_rounds 1
    go_ret
    exact ⟨by simp, rfl⟩
  · rw [mkv_len] at hcap
    rw [mkv_len]
    have HC : Hid (∀ i, i < n → w.cell? ⟨g, i * 3, none⟩ = some (.int .i64 (s + 3 * (i : Int))) ∧ w.cell? ⟨g, i * 3 + 1, none⟩ = some (.bool ((s + 3 * (i : Int) + 1) % 3 == 0)) ∧ w.cell? ⟨g, i * 3 + 2, none⟩ = some (.int .i64 (s + 3 * (i : Int) + 2))) := fun i hi => hc i _ (mkv_get _ _ _ hi)
    clear h hc hh hsz htk
    go_enter Tryd.func27, Tryd.ntmps27
    go_wp2
    go_loop [1, 5] (fun m i => ∃ k : Nat, k ≤ n ∧ i = .int .i64 k ∧ m = .int .i64 (s + 3 * (k : Int))) (fun _ i => n - (intOf i).toNat)
    case atStart => exact ⟨0, Nat.zero_le _, rfl, by simp⟩
    case round =>
      obtain ⟨k, hk, rfl, rfl⟩ := hrel
      by_cases hlt : k < n
      · obtain ⟨e1, e2, e3⟩ := HC.out k hlt
        have hk0 : (0 : Int) ≤ (k : Int) := by omega
        have hk1 : (k : Int) < (n : Int) := by omega
        have q1 : IntKind.i64.wrap (s + 3 * (k : Int) + 1) = s + 3 * (k : Int) + 1 := IntWalk.i64_in _ (by omega)
        have q2 : IntKind.i64.wrap (s + 3 * (k : Int) + 1 + 1) = s + 3 * (k : Int) + 2 := by rw [IntWalk.i64_in _ (by omega)]; omega
        have q3 : IntKind.i64.wrap (s + 3 * (k : Int) + 2 + 1) = s + 3 * ((k + 1 : Nat) : Int) := by rw [IntWalk.i64_in _ (by omega)]; omega
        go_wp2
        go_round
        case rel => exact ⟨k + 1, by omega, by go_num, rfl⟩
        case measure => simp [intOf]; omega
      · have hkn : k = n := by omega
        subst hkn
        go_wp2
        go_ret
        exact ⟨rfl, rfl⟩
end Go.Proofs.YticapinlnlpbpaaDoor
