/-
  The contracts of the syllables that a tone has in a hexachord.
-/
import Derived.Test.YthnofdkkocpjhaaDoorHexb
import Derived.Deep.RegionWith
import Derived.Deep.RegionHeld3
namespace Go.Proofs.YthnofdkkocpjhaaDoor
open Go.RowKit
set_option maxRecDepth 100000
set_option linter.unusedVariables false

/-- behind k rounds: no syllable below k is the tone; the tone's box stands; old memory is as it was -/
def SyInv (n s : Int) (b : Bool) (w wr : World) (i : Value) : Prop :=
  ∃ k : Nat, k ≤ 6 ∧ i = .int .i64 k ∧ (∀ j : Int, 0 ≤ j → j < k → ¬ (n + j = s ∧ hsf n j = b)) ∧ wr.cell? ⟨w.heap.size, 0, none⟩ = some (.int .i64 s) ∧ wr.cell? ⟨w.heap.size, 1, none⟩ = some (.bool b) ∧
    w.heap.size < wr.heap.size ∧ Below w.heap.size w wr

theorem hsy_left {n s : Int} {b : Bool} (h : ∀ j : Int, 0 ≤ j → j < ((6 : Nat) : Int) → ¬ (n + j = s ∧ hsf n j = b)) : hsy n s b = -1 :=
  hsy_none fun k hk => h k (hok_in hk).2.1 (by have := (hok_in hk).2.2; omega)

theorem sy_next {n s : Int} {b : Bool} {k : Nat} (h : ∀ j : Int, 0 ≤ j → j < (k : Int) → ¬ (n + j = s ∧ hsf n j = b)) (hk : ¬ (n + (k : Int) = s ∧ hsf n k = b)) :
    ∀ j : Int, 0 ≤ j → j < ((k + 1 : Nat) : Int) → ¬ (n + j = s ∧ hsf n j = b) := by
  intro j h0 h1
  by_cases e : j = k
  · subst e; exact hk
  · exact h j h0 (by omega)

set_option maxHeartbeats 1000000 in
theorem syl_row (B o : Nat) (n s : Int) (b : Bool) (hn : hxv n = true) (w : World) (c0 : w.cell? ⟨B, o, none⟩ = some (.int .i64 n)) (c1 : w.cell? ⟨B, o + 1, none⟩ = some (.string (hkd n))) (hB : B < w.heap.size) :
    Calls Tryd.prog 43 #[.pointer (some ⟨B, o, none⟩), .agg #[.int .i64 s, .bool b]] w fun e w' => e = .returned (.int .i64 (hsy n s b)) ∧ Below w.heap.size w w' := by
  go_enter Tryd.func43, Tryd.ntmps43
  go_wp2
  go_loopw [6] (fun i wr => SyInv n s b w wr i) (fun i _ => 6 - (intOf i).toNat)
  case atStart => exact ⟨0, by omega, rfl, fun j h0 h1 => by omega, by simp, by simp, by simp, (Below.refl _ _).alloc (Nat.le_refl _) _⟩
  case round =>
    obtain ⟨k, hk, rfl, hno, d0, d1, hz, hb⟩ := hrel
    by_cases hlt : k < 6
    · have e0 : wr.cell? ⟨B, o, none⟩ = some (.int .i64 n) := (hb.cell (p := ⟨B, o, none⟩) hB).trans c0
      have e1 : wr.cell? ⟨B, o + 1, none⟩ = some (.string (hkd n)) := (hb.cell (p := ⟨B, o + 1, none⟩) hB).trans c1
      by_cases hs : n + (k : Int) = s
      · by_cases ht : hsf n k = b
        · have g1 : (n + (k : Int) == s) = true := by simpa using hs
          have g2 : (hsf n k == b) = true := by simpa using ht
          have HF := Lib.hid (hsy_at (hok_yes hn (by omega) (by omega : (k : Int) ≤ 5)) hs ht)
          clear hs ht
          go_wp2
          go_region_with (go_at_call 54; refine (hexTone_row _ _ _ _ hn (by omega) (by omega) _ (by first | exact e0 | exact e0) (by first | exact e1 | exact e1) (by have := hb.size; first | omega | (simp; omega))).mono ?_; rintro e w1 ⟨rfl, hb1⟩; have d2 : w1.cell? ⟨w.heap.size, 0, none⟩ = some (.int .i64 s) := (hb1.cell (p := ⟨w.heap.size, 0, none⟩) hz).trans d0; have d3 : w1.cell? ⟨w.heap.size, 1, none⟩ = some (.bool b) := (hb1.cell (p := ⟨w.heap.size, 1, none⟩) hz).trans d1)
          all_goals
            go_wp2
            go_ret
            exact ⟨by (rw [HF.out]; first | rfl | simp), hb.drew.trans (hb1.mono (Nat.le_of_lt hz))⟩
        · have g1 : (n + (k : Int) == s) = true := by simpa using hs
          have g2 : (hsf n k == b) = false := by simpa using ht
          have hno' := sy_next hno (fun h => ht h.2)
          clear hs ht hno
          go_wp2
          go_region_with (go_at_call 54; refine (hexTone_row _ _ _ _ hn (by omega) (by omega) _ (by first | exact e0 | exact e0) (by first | exact e1 | exact e1) (by have := hb.size; first | omega | (simp; omega))).mono ?_; rintro e w1 ⟨rfl, hb1⟩; have d2 : w1.cell? ⟨w.heap.size, 0, none⟩ = some (.int .i64 s) := (hb1.cell (p := ⟨w.heap.size, 0, none⟩) hz).trans d0; have d3 : w1.cell? ⟨w.heap.size, 1, none⟩ = some (.bool b) := (hb1.cell (p := ⟨w.heap.size, 1, none⟩) hz).trans d1)
          all_goals
            go_wp2
            go_roundw
            case rel => exact ⟨k + 1, by omega, by go_num, hno', d2, d3, Nat.lt_of_lt_of_le hz hb1.size, hb.drew.trans (hb1.mono (Nat.le_of_lt hz))⟩
            case measure => simp [intOf]; omega
      · have g1 : (n + (k : Int) == s) = false := by simpa using hs
        have hno' := sy_next hno (fun h => hs h.1)
        clear hs hno
        go_wp2
        go_region_with (go_at_call 54; refine (hexTone_row _ _ _ _ hn (by omega) (by omega) _ (by first | exact e0 | exact e0) (by first | exact e1 | exact e1) (by have := hb.size; first | omega | (simp; omega))).mono ?_; rintro e w1 ⟨rfl, hb1⟩; have d2 : w1.cell? ⟨w.heap.size, 0, none⟩ = some (.int .i64 s) := (hb1.cell (p := ⟨w.heap.size, 0, none⟩) hz).trans d0; have d3 : w1.cell? ⟨w.heap.size, 1, none⟩ = some (.bool b) := (hb1.cell (p := ⟨w.heap.size, 1, none⟩) hz).trans d1)
        all_goals
          go_wp2
          go_roundw
          case rel => exact ⟨k + 1, by omega, by go_num, hno', d2, d3, Nat.lt_of_lt_of_le hz hb1.size, hb.drew.trans (hb1.mono (Nat.le_of_lt hz))⟩
          case measure => simp [intOf]; omega
    · have hk6 : k = 6 := by omega
      subst hk6
      have HF := Lib.hid (hsy_left hno)
      clear hno
      go_wp2
      go_ret
      exact ⟨by (rw [HF.out]; first | rfl | simp), hb⟩

set_option maxHeartbeats 1000000 in
theorem hexSyllable_any (n s : Int) (b : Bool) (w : World) :
    Calls Tryd.prog 33 #[.int .i64 n, .agg #[.int .i64 s, .bool b]] w fun e w' => e = .returned (.int .i64 (hsy n s b)) ∧ Below w.heap.size w w' := by
  by_cases hn : hxv n = false
  · rw [hsy_none (fun k hk => by have := (hok_in hk).1; rw [hn] at this; cases this)]
    go_enter Tryd.func33, Tryd.ntmps33
    go_wp2_with (first | (go_at_call 42; refine (newHex_any _).mono ?_; rintro e wx ⟨rfl, rfl⟩) | (go_at_call 47; refine (at_no _ _ hn _ (HexAt.new' (by simp))).mono ?_; rintro e wx ⟨rfl, rfl⟩))
    go_ret
    exact ⟨rfl, by (repeat' (first | (with_reducible exact Below.refl _ _) | (with_reducible refine Below.alloc ?_ ?_ _) | (with_reducible refine Below.drew ?_) | (with_reducible refine Below.setCell ?_ ?_ _) | (with_reducible refine bl_step ?_ (by assumption)) | go_size))⟩
  · rw [Bool.not_eq_false] at hn
    go_enter Tryd.func33, Tryd.ntmps33
    go_wp2_with (first | (go_at_call 42; refine (newHex_any _).mono ?_; rintro e wx ⟨rfl, rfl⟩) | (go_at_call 47; refine (at_yes _ _ hn _ (HexAt.new' (by simp))).mono ?_; rintro e wx ⟨rfl, rfl⟩) | (go_at_call 43; refine (syl_row _ _ _ _ _ hn _ ((HexAt.new' (by simp)).row hn).1 ((HexAt.new' (by simp)).row hn).2 (by simp)).mono ?_; rintro e w1 ⟨rfl, hb1⟩; obtain ⟨hc1, hf1, hz1⟩ := bl hb1; (try simp at hz1); clear hc1 hf1))
    go_ret
    exact ⟨rfl, by (repeat' (first | (with_reducible exact Below.refl _ _) | (with_reducible refine Below.alloc ?_ ?_ _) | (with_reducible refine Below.drew ?_) | (with_reducible refine Below.setCell ?_ ?_ _) | (with_reducible refine bl_step ?_ (by assumption)) | go_size))⟩

/-- the model's loop: no syllable below k is the tone -/
def SsInv (n s : Int) (b : Bool) (w wr : World) (i : Value) : Prop :=
  ∃ k : Nat, k ≤ 6 ∧ i = .int .i64 k ∧ (∀ j : Int, 0 ≤ j → j < k → ¬ (hok n j = true ∧ n + j = s ∧ hsf n j = b)) ∧ wr.cell? ⟨w.heap.size, 0, none⟩ = some (.int .i64 s) ∧ wr.cell? ⟨w.heap.size, 1, none⟩ = some (.bool b) ∧
    w.heap.size < wr.heap.size ∧ Below w.heap.size w wr

theorem ss_left {n s : Int} {b : Bool} (h : ∀ j : Int, 0 ≤ j → j < ((6 : Nat) : Int) → ¬ (hok n j = true ∧ n + j = s ∧ hsf n j = b)) : hsy n s b = -1 :=
  hsy_none fun k hk g => h k (hok_in hk).2.1 (by have := (hok_in hk).2.2; omega) ⟨hk, g⟩

theorem ss_next {n s : Int} {b : Bool} {k : Nat} (h : ∀ j : Int, 0 ≤ j → j < (k : Int) → ¬ (hok n j = true ∧ n + j = s ∧ hsf n j = b)) (hk : ¬ (hok n k = true ∧ n + (k : Int) = s ∧ hsf n k = b)) :
    ∀ j : Int, 0 ≤ j → j < ((k + 1 : Nat) : Int) → ¬ (hok n j = true ∧ n + j = s ∧ hsf n j = b) := by
  intro j h0 h1
  by_cases e : j = k
  · subst e; exact hk
  · exact h j h0 (by omega)

set_option maxHeartbeats 1000000 in
theorem sHexSyllable_any (n s : Int) (b : Bool) (w : World) :
    Calls Tryd.prog 36 #[.int .i64 n, .agg #[.int .i64 s, .bool b]] w fun e w' => e = .returned (.int .i64 (hsy n s b)) ∧ Below w.heap.size w w' := by
  go_enter Tryd.func36, Tryd.ntmps36
  go_wp2
  go_loopw [5] (fun i wr => SsInv n s b w wr i) (fun i _ => 6 - (intOf i).toNat)
  case atStart => exact ⟨0, by omega, rfl, fun j h0 h1 => by omega, by simp, by simp, by simp, (Below.refl _ _).alloc (Nat.le_refl _) _⟩
  case round =>
    obtain ⟨k, hk, rfl, hno, d0, d1, hz, hb⟩ := hrel
    by_cases hlt : k < 6
    · by_cases hh : hok n k = false
      · have hno' := ss_next hno (fun h => by rw [hh] at h; cases h.1)
        obtain ⟨g5, g6⟩ := ht_no hh
        clear hno
        go_wp2_with (go_at_call 51; refine (sHexTone_any _ _ _).mono ?_; rintro e w1 ⟨rfl, hb1⟩; obtain ⟨hc1, hf1, hz1⟩ := bl hb1; (try simp at hz1); (try (refine got (p := w.heap.size < w1.heap.size) ?_ ?_; (focus (go_size; done)); intro q1_w0)); (try (refine got (p := w1.cell? ⟨w.heap.size, 0, none⟩ = some (.int .i64 s)) ?_ ?_; (focus (refine (hc1 _ _ ?_).trans ?_; (focus (go_size; done)); go_simp; done)); intro c1_w0_0)); (try (refine got (p := w1.cell? ⟨w.heap.size, 1, none⟩ = some (.bool b)) ?_ ?_; (focus (refine (hc1 _ _ ?_).trans ?_; (focus (go_size; done)); go_simp; done)); intro c1_w0_1)); (try (refine got (p := ∀ o, w1.frozen? ⟨w.heap.size, o, none⟩ = false) ?_ ?_; (focus (intro o; refine (hf1 _ _ ?_).trans ?_; (focus (go_size; done)); go_simp; done)); intro f1_w0)); clear hc1 hf1)
        go_roundw
        case rel => exact ⟨k + 1, by omega, by go_num, hno', by go_simp, by go_simp, by simp; omega, ((hb.trans (hb1.mono (Nat.le_of_lt hz))).alloc (by omega) _)⟩
        case measure => simp [intOf]; omega
      rw [Bool.not_eq_false] at hh
      obtain ⟨g5, g6⟩ := ht_yes hh
      by_cases hs : n + (k : Int) = s
      · by_cases ht : hsf n k = b
        · have g1 : (n + (k : Int) == s) = true := by simpa using hs
          have g2 : (hsf n k == b) = true := by simpa using ht
          have g3 : vd s b = true := by rw [← hs, ← ht]; exact vd_hex hh
          have HF := Lib.hid (hsy_at hh hs ht)
          clear hs ht
          go_wp2_with (fail)
          (go_at_call 51; refine (sHexTone_any _ _ _).mono ?_; rintro e w1 ⟨rfl, hb1⟩; obtain ⟨hc1, hf1, hz1⟩ := bl hb1; (try simp at hz1); (try (refine got (p := w.heap.size < w1.heap.size) ?_ ?_; (focus (go_size; done)); intro q1_w0)); (try (refine got (p := w1.cell? ⟨w.heap.size, 0, none⟩ = some (.int .i64 s)) ?_ ?_; (focus (refine (hc1 _ _ ?_).trans ?_; (focus (go_size; done)); go_simp; done)); intro c1_w0_0)); (try (refine got (p := w1.cell? ⟨w.heap.size, 1, none⟩ = some (.bool b)) ?_ ?_; (focus (refine (hc1 _ _ ?_).trans ?_; (focus (go_size; done)); go_simp; done)); intro c1_w0_1)); (try (refine got (p := ∀ o, w1.frozen? ⟨w.heap.size, o, none⟩ = false) ?_ ?_; (focus (intro o; refine (hf1 _ _ ?_).trans ?_; (focus (go_size; done)); go_simp; done)); intro f1_w0)); clear hc1 hf1)
          go_wp2_with (fail)
          (go_at_call 40; refine (sToneValid_any _ _ _).mono ?_; rintro e w2 ⟨rfl, hb2⟩; obtain ⟨hc2, hf2, hz2⟩ := bl hb2; (try simp at hz2); (try (refine got (p := w.heap.size < w2.heap.size) ?_ ?_; (focus (go_size; done)); intro q2_w0)); (try (refine got (p := w2.cell? ⟨w.heap.size, 0, none⟩ = some (.int .i64 s)) ?_ ?_; (focus (refine (hc2 _ _ ?_).trans ?_; (focus (go_size; done)); go_simp; done)); intro c2_w0_0)); (try (refine got (p := w2.cell? ⟨w.heap.size, 1, none⟩ = some (.bool b)) ?_ ?_; (focus (refine (hc2 _ _ ?_).trans ?_; (focus (go_size; done)); go_simp; done)); intro c2_w0_1)); (try (refine got (p := ∀ o, w2.frozen? ⟨w.heap.size, o, none⟩ = false) ?_ ?_; (focus (intro o; refine (hf2 _ _ ?_).trans ?_; (focus (go_size; done)); go_simp; done)); intro f2_w0)); clear hc2 hf2)
          go_wp2
          go_ret
          exact ⟨by (rw [HF.out]; first | rfl | simp), bl_step ((hb.trans (hb1.mono (Nat.le_of_lt hz))).alloc (by omega) _) hb2⟩
        · have g1 : (n + (k : Int) == s) = true := by simpa using hs
          have g2 : (hsf n k == b) = false := by simpa using ht
          have hno' := ss_next hno (fun h => ht h.2.2)
          clear hs ht hno
          go_wp2_with (go_at_call 51; refine (sHexTone_any _ _ _).mono ?_; rintro e w1 ⟨rfl, hb1⟩; obtain ⟨hc1, hf1, hz1⟩ := bl hb1; (try simp at hz1); (try (refine got (p := w.heap.size < w1.heap.size) ?_ ?_; (focus (go_size; done)); intro q1_w0)); (try (refine got (p := w1.cell? ⟨w.heap.size, 0, none⟩ = some (.int .i64 s)) ?_ ?_; (focus (refine (hc1 _ _ ?_).trans ?_; (focus (go_size; done)); go_simp; done)); intro c1_w0_0)); (try (refine got (p := w1.cell? ⟨w.heap.size, 1, none⟩ = some (.bool b)) ?_ ?_; (focus (refine (hc1 _ _ ?_).trans ?_; (focus (go_size; done)); go_simp; done)); intro c1_w0_1)); (try (refine got (p := ∀ o, w1.frozen? ⟨w.heap.size, o, none⟩ = false) ?_ ?_; (focus (intro o; refine (hf1 _ _ ?_).trans ?_; (focus (go_size; done)); go_simp; done)); intro f1_w0)); clear hc1 hf1)
          go_roundw
          case rel => exact ⟨k + 1, by omega, by go_num, hno', by go_simp, by go_simp, by simp; omega, ((hb.trans (hb1.mono (Nat.le_of_lt hz))).alloc (by omega) _)⟩
          case measure => simp [intOf]; omega
      · have g1 : (n + (k : Int) == s) = false := by simpa using hs
        have hno' := ss_next hno (fun h => hs h.2.1)
        clear hs hno
        go_wp2_with (go_at_call 51; refine (sHexTone_any _ _ _).mono ?_; rintro e w1 ⟨rfl, hb1⟩; obtain ⟨hc1, hf1, hz1⟩ := bl hb1; (try simp at hz1); (try (refine got (p := w.heap.size < w1.heap.size) ?_ ?_; (focus (go_size; done)); intro q1_w0)); (try (refine got (p := w1.cell? ⟨w.heap.size, 0, none⟩ = some (.int .i64 s)) ?_ ?_; (focus (refine (hc1 _ _ ?_).trans ?_; (focus (go_size; done)); go_simp; done)); intro c1_w0_0)); (try (refine got (p := w1.cell? ⟨w.heap.size, 1, none⟩ = some (.bool b)) ?_ ?_; (focus (refine (hc1 _ _ ?_).trans ?_; (focus (go_size; done)); go_simp; done)); intro c1_w0_1)); (try (refine got (p := ∀ o, w1.frozen? ⟨w.heap.size, o, none⟩ = false) ?_ ?_; (focus (intro o; refine (hf1 _ _ ?_).trans ?_; (focus (go_size; done)); go_simp; done)); intro f1_w0)); clear hc1 hf1)
        go_roundw
        case rel => exact ⟨k + 1, by omega, by go_num, hno', by go_simp, by go_simp, by simp; omega, ((hb.trans (hb1.mono (Nat.le_of_lt hz))).alloc (by omega) _)⟩
        case measure => simp [intOf]; omega
    · have hk6 : k = 6 := by omega
      subst hk6
      have HF := Lib.hid (ss_left hno)
      clear hno
      go_wp2
      go_ret
      exact ⟨by (rw [HF.out]; first | rfl | simp), hb⟩
end Go.Proofs.YthnofdkkocpjhaaDoor
