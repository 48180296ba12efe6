/-
  Lists of integers that are only read: they may begin anywhere in a block.
-/
import Derived.Test.YticapinlnlpbpaaDoorTI
import Derived.Test.YticapinlnlpbpaaDoorTurn
namespace Go.Proofs.YticapinlnlpbpaaDoor
open Go.RowKit
set_option maxRecDepth 100000
set_option linter.unusedVariables false

/-- v is read as the integers zs -/
def IV (w : World) (v : Value) (zs : List Int) : Prop := ∃ a c, v = .slice a zs.length c ∧ ArgI w a zs ∧ zs.length ≤ c ∧ c ≤ maxLen
theorem ArgI.keep {w w' : World} {a : Option Addr} {zs : List Int} (h : ArgI w a zs) (hs : w.heap.size ≤ w'.heap.size) (hk : ∀ A off, a = some ⟨A, off, none⟩ → A < w.heap.size → w'.heap[A]? = w.heap[A]?) : ArgI w' a zs := by
  rcases h with h | ⟨A, off, ha, hA, hc⟩
  · exact .inl h
  · refine .inr ⟨A, off, ha, Nat.lt_of_lt_of_le hA hs, fun i hi => ?_⟩
    rw [← hc i hi]
    simp [World.cell?, hk A off ha hA]
theorem IV.below {w w' : World} {v : Value} {zs : List Int} (h : IV w v zs) (hb : Below w.heap.size w w') : IV w' v zs := by
  obtain ⟨a, c, e, ha, h1, h2⟩ := h
  exact ⟨a, c, e, ha.below hb, h1, h2⟩
theorem IRow.view {w : World} {lo hi : Nat} {v : Value} {xs : List Int} (h : IRow w lo hi v xs) : IV w v xs := by
  rcases h.form with ⟨rfl, rfl⟩ | ⟨g, cap, cur, rfl, hg, hg2, hgs, hcap, hmax, hh, hsz, htk, hc, hfz⟩
  · exact ⟨none, 0, rfl, .inl rfl, Nat.le_refl _, Nat.zero_le _⟩
  · exact ⟨_, cap, rfl, .inr ⟨g, 0, rfl, hgs, fun i hi => by rw [Nat.zero_add]; exact hc i hi⟩, hcap, hmax⟩
theorem IV.len {w : World} {v : Value} {zs : List Int} (h : IV w v zs) : zs.length ≤ 9223372036854775807 := by
  obtain ⟨a, c, e, ha, h1, h2⟩ := h
  unfold maxLen at h2
  omega
theorem IV.nil (w : World) : IV w (.slice none 0 0) [] := ⟨none, 0, rfl, .inl rfl, Nat.le_refl _, Nat.zero_le _⟩
/-- the part of a list from k on -/
theorem ArgI.from_ {w : World} {A off : Nat} {zs : List Int} (h : ArgI w (some ⟨A, off, none⟩) zs) (k : Nat) : ArgI w (some ⟨A, off + k, none⟩) (zs.drop k) := by
  rcases h with rfl | ⟨A', off', e, hA, hc⟩
  · exact .inl (by simp)
  · injection e with e
    injection e with e1 e2
    subst e1 e2
    refine .inr ⟨A, off + k, rfl, hA, fun i hi => ?_⟩
    have hi' : k + i < zs.length := by simp at hi; omega
    rw [Nat.add_assoc, hc (k + i) hi']
    simp [List.getD_eq_getElem?_getD, List.getElem?_drop]
theorem ArgI.take {w : World} {a : Option Addr} {zs : List Int} (h : ArgI w a zs) (k : Nat) : ArgI w a (zs.take k) := by
  rcases h with rfl | ⟨A, off, e, hA, hc⟩
  · exact .inl (by simp)
  · refine .inr ⟨A, off, e, hA, fun i hi => ?_⟩
    have hi' : i < k ∧ i < zs.length := by simp at hi; omega
    rw [hc i hi'.2]
    simp [List.getD_eq_getElem?_getD, List.getElem?_take_of_lt hi'.1]

set_option maxHeartbeats 1000000 in
theorem eqIntV_any (v u : Value) (xs : List Int) (w : World) (h : IV w v xs) (k : IV w u xs) :
    Calls Tryd.prog 16 #[v, u] w fun e w' => e = .returned (.bool true) ∧ Below w.heap.size w w' := by
  obtain ⟨a, c, rfl, ha, hc1, hc2⟩ := h
  obtain ⟨a', c', rfl, ha', hc1', hc2'⟩ := k
  unfold maxLen at hc2 hc2'
  have hlen : xs.length ≤ 9223372036854775807 := by omega
  have HA := Lib.hid ha
  have HA' := Lib.hid ha'
  clear ha ha'
  go_enter Tryd.func16, Tryd.ntmps16
  go_wp2
  go_loopw [5] (fun i wr => ∃ k : Nat, k ≤ xs.length ∧ i = .int .i64 k ∧ Below w.heap.size w wr) (fun i _ => xs.length - (intOf i).toNat)
  case atStart => exact ⟨0, Nat.zero_le _, rfl, Below.refl _ _⟩
  case round =>
    obtain ⟨k, hk, rfl, hb⟩ := hrel
    by_cases hlt : k < xs.length
    · have hne : xs ≠ [] := by rintro rfl; simp at hlt
      rcases HA.out with h | ⟨A, off, rfl, hA, hc⟩
      · exact absurd h hne
      rcases HA'.out with h | ⟨A', off', rfl, hA', hc'⟩
      · exact absurd h hne
      have e1 : wr.cell? ⟨A, off + k, none⟩ = some (.int .i64 (xs.getD k 0)) := (hb.cell (p := ⟨A, off + k, none⟩) hA).trans (hc k hlt)
      have e2 : wr.cell? ⟨A', off' + k, none⟩ = some (.int .i64 (xs.getD k 0)) := (hb.cell (p := ⟨A', off' + k, none⟩) hA').trans (hc' k hlt)
      have hk0 : (0 : Int) ≤ (k : Int) := by omega
      have hk1 : (k : Int) < (xs.length : Int) := by omega
      clear hc hc' hne
      generalize xs.getD k 0 = z at e1 e2
      go_wp2
      go_quiet (fail)
      go_wp2
      go_roundw
      case rel => exact ⟨k + 1, by omega, by go_num, ⟨hb.os, hb.tape, hb.output, hb.size, hb.block⟩⟩
      case measure => simp [intOf]; omega
    · go_wp2
      go_ret
      exact ⟨rfl, hb⟩

/-- only the block of v turns, and new ones -/
structure OwnT (v : Value) (w w' : World) : Prop where
  os : w'.os = w.os
  tape : w'.tape = w.tape
  output : w'.output = w.output
  size : w.heap.size ≤ w'.heap.size
  block : ∀ k, k < w.heap.size → v.ownBlock ≠ some k → w'.heap[k]? = w.heap[k]?

set_option maxHeartbeats 1000000 in
theorem markIntO_any (lo hi : Nat) (v : Value) (xs : List Int) (s : Int) (hs : 0 ≤ s) (hs1 : s ≤ 10000000) (hx : xs.length ≤ 10000000) (w : World) (h : IRow w lo hi v xs) :
    Calls Tryd.prog 19 #[v, .int .i64 s] w fun e w' => e = .returned (.int .i64 (s + (xs.length : Int))) ∧ IRow w' lo hi v (mk s xs.length) ∧ OwnT v w w' := by
  have hnil : v = .slice none 0 0 → xs = [] → (Ending.returned (.int .i64 s) = .returned (.int .i64 (s + (xs.length : Int))) ∧ IRow w lo hi v (mk s xs.length) ∧ OwnT v w w) := by
    rintro rfl rfl
    exact ⟨by simp, by simpa [mk] using h, ⟨rfl, rfl, rfl, Nat.le_refl _, fun _ _ _ => rfl⟩⟩
  rcases h.form with ⟨rfl, rfl⟩ | ⟨g, cap, cur, rfl, hg, hg2, hgs, hcap, hmax, hh, hsz, htk, hc, hfz⟩
  · have HN := Lib.hid (hnil rfl rfl)
    clear hnil
    go_enter Tryd.func19, Tryd.ntmps19
    go_wp2
    go_rounds 1
    go_ret
    exact HN.out
  · have hlt2 := h.2
    have hend : ∀ wr, MkInv w wr g cap s xs.length → (Ending.returned (.int .i64 (s + (xs.length : Int))) = .returned (.int .i64 (s + (xs.length : Int))) ∧ IRow wr lo hi (.slice (some ⟨g, 0, none⟩) xs.length cap) (mk s xs.length) ∧ OwnT (.slice (some ⟨g, 0, none⟩) xs.length cap) w wr) := by
      rintro wr ⟨cur', hh', hsz', ht', hg'⟩
      refine ⟨rfl, ⟨⟨by simp [mk_len], .inr ⟨g, cap, cur', by rw [mk_len], hg, hh', by rw [mk_len]; exact hcap, hmax, by rw [hsz', Nat.mul_one], by rw [mk_len, Nat.mul_one]; exact ht'⟩⟩, hlt2⟩, ⟨hg'.os, hg'.tape, hg'.output, hg'.size, fun k hk hne => hg'.block k (by omega) (fun e => hne (by simpa [Value.ownBlock] using e.symm))⟩⟩
    have h0 : MkInv w w g cap s 0 := ⟨cur, hh, hsz, by simp [mk], World.grownBy.refl w _⟩
    clear h hnil hc hfz htk hsz hh
    have HEND := Lib.hid hend
    clear hend
    generalize hn : xs.length = n at *
    clear hn
    go_enter Tryd.func19, Tryd.ntmps19
    go_wp2
    go_loopw [1, 5] (fun m i wr => ∃ k : Nat, k ≤ n ∧ i = .int .i64 k ∧ m = .int .i64 (s + (k : Int)) ∧ MkInv w wr g cap s k) (fun _ i _ => n - (intOf i).toNat)
    case atStart => exact ⟨0, Nat.zero_le _, rfl, by simp, h0⟩
    case round =>
      obtain ⟨k, hk, rfl, rfl, hi⟩ := hrel
      by_cases hlt : k < n
      · obtain ⟨⟨u, hu⟩, hf⟩ := hi.cell (by omega)
        have hi' := hi.next (by omega : k < cap)
        have hk0 : (0 : Int) ≤ (k : Int) := by omega
        have hk1 : (k : Int) < (n : Int) := by omega
        clear hi h0
        go_wp2
        go_roundw
        case rel => exact ⟨k + 1, by omega, by go_num, by (congr 1; omega), hi'⟩
        case measure => simp [intOf]; omega
      · have hkn : k = n := by omega
        subst hkn
        have HE := Lib.hid (HEND.out wr hi)
        clear h0 hi
        go_wp2
        go_ret
        exact ⟨rfl, HE.out.2⟩

set_option maxHeartbeats 1000000 in
theorem heldIntO_any (lo hi : Nat) (v : Value) (s : Int) (n : Nat) (hs : 0 ≤ s) (hs1 : s ≤ 10000000) (hx : n ≤ 10000000) (w : World) (h : IRow w lo hi v (mk s n)) :
    Calls Tryd.prog 20 #[v, .int .i64 s] w fun e w' => e = .returned (.int .i64 (s + (n : Int))) ∧ w = w' := by
  rcases h.form with ⟨rfl, hx0⟩ | ⟨g, cap, cur, rfl, hg, hg2, hgs, hcap, hmax, hh, hsz, htk, hc, hfz⟩
  · have hn : n = 0 := by have := mk_len s n; rw [hx0] at this; simpa using this.symm
    subst hn
    go_enter Tryd.func20, Tryd.ntmps20
    go_wp2
    go_rounds 1
    go_ret
    exact ⟨by simp, rfl⟩
  · rw [mk_len] at hcap hc
    rw [mk_len]
    have HC : Hid (∀ i, i < n → w.cell? ⟨g, i, none⟩ = some (.int .i64 (s + (i : Int)))) := fun i hi => by rw [hc i hi, mk_get _ _ _ hi]
    clear h hc hfz htk hsz hh
    go_enter Tryd.func20, Tryd.ntmps20
    go_wp2
    go_loop [1, 5] (fun m i => ∃ k : Nat, k ≤ n ∧ i = .int .i64 k ∧ m = .int .i64 (s + (k : Int))) (fun _ i => n - (intOf i).toNat)
    case atStart => exact ⟨0, Nat.zero_le _, rfl, by simp⟩
    case round =>
      obtain ⟨k, hk, rfl, rfl⟩ := hrel
      by_cases hlt : k < n
      · have e1 := HC.out k hlt
        have hk0 : (0 : Int) ≤ (k : Int) := by omega
        have hk1 : (k : Int) < (n : Int) := by omega
        go_wp2
        go_round
        case rel => exact ⟨k + 1, by omega, by go_num, by (congr 1; omega)⟩
        case measure => simp [intOf]; omega
      · have hkn : k = n := by omega
        subst hkn
        go_wp2
        go_ret
        exact ⟨rfl, rfl⟩
end Go.Proofs.YticapinlnlpbpaaDoor
