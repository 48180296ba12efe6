/-
  A law's tones made into the program's: a new slice of the same tones.
-/
import Derived.Test.YtcmcdomfmmjogaaTL
namespace Go.Proofs.Ytcmcdomfmmjogaa
open Go.RowKit
set_option maxRecDepth 100000
set_option linter.unusedVariables false

/-- a []laws.Tone that came in: it reads as the tones xs -/
def ArgT (w : World) (a : Option Addr) (xs : List (Int × Bool)) : Prop :=
  xs = [] ∨ ∃ A off, a = some ⟨A, off, none⟩ ∧ A < w.heap.size ∧ ∀ i t, xs[i]? = some t → w.cell? ⟨A, off + i * 2, none⟩ = some (.int .i64 t.1) ∧ w.cell? ⟨A, off + i * 2 + 1, none⟩ = some (.bool t.2)
theorem ArgT.below {w w' : World} {a : Option Addr} {xs : List (Int × Bool)} (h : ArgT w a xs) (hb : Below w.heap.size w w') : ArgT w' a xs := by
  rcases h with h | ⟨A, off, ha, hA, hc⟩
  · exact .inl h
  · refine .inr ⟨A, off, ha, Nat.lt_of_lt_of_le hA hb.size, fun i t ht => ?_⟩
    exact ⟨(hb.cell (p := ⟨A, off + i * 2, none⟩) hA).trans (hc i t ht).1, (hb.cell (p := ⟨A, off + i * 2 + 1, none⟩) hA).trans (hc i t ht).2⟩

theorem infoTone : (Try.prog.info? 25).map (fun i => (i.zero, i.size, i.bytes)) = some (some (.agg #[.int .i64 0, .bool false]), 2, 16) := by kernel_rfl

/-- k tones have been stored -/
def TsInv (w wr : World) (g n : Nat) (xs : List (Int × Bool)) (k : Nat) : Prop :=
  ∃ cur, wr.heap[g]? = some (.cells cur 25 (0, 0)) ∧ cur.size = n * 2 ∧ cur.toList.take (k * 2) = tcs (xs.take k) ∧ Below w.heap.size w wr

theorem TsInv.next {w w2 : World} {n k : Nat} {xs : List (Int × Bool)} {cur : Array Value} {s : Int} {b : Bool} (hh : w2.heap[w.heap.size]? = some (.cells cur 25 (0, 0))) (hsz : cur.size = n * 2)
    (htk : cur.toList.take (k * 2) = tcs (xs.take k)) (hb : Below w.heap.size w w2) (ht : xs[k]? = some (s, b)) (hk : k < n) :
    TsInv w ((w2.setCell ⟨w.heap.size, k * 2, none⟩ (.int .i64 s)).setCell ⟨w.heap.size, k * 2 + 1, none⟩ (.bool b)) w.heap.size n xs (k + 1) := by
  refine ⟨(cur.setIfInBounds (k * 2) (.int .i64 s)).setIfInBounds (k * 2 + 1) (.bool b), ?_, by simp [hsz], ?_, (hb.setCell (by simp) _).setCell (by simp) _⟩
  · simp [World.setCell, Array.getElem?_modify, hh]
  · have hk2 : k * 2 + 1 < cur.toList.length := by simp; omega
    have hx : xs.take (k + 1) = xs.take k ++ [(s, b)] := by rw [List.take_add_one, ht]; rfl
    rw [hx, tcs_app, ← htk, Array.toList_setIfInBounds, Array.toList_setIfInBounds]
    generalize cur.toList = l at hk2
    rw [show (k + 1) * 2 = k * 2 + 1 + 1 by omega, List.take_add_one, List.take_add_one, List.take_set_of_le (by omega), List.take_set_of_le (by omega)]
    have a1 : k * 2 < l.length := by omega
    simp [tcs, a1, hk2]
theorem tsEnd {w wr : World} {xs : List (Int × Bool)} {cur : Array Value} (hh : wr.heap[w.heap.size]? = some (.cells cur 25 (0, 0))) (hsz : cur.size = xs.length * 2)
    (htk : cur.toList.take (xs.length * 2) = tcs xs) (hb : Below w.heap.size w wr) (hm : xs.length ≤ maxLen) : TBuilt w xs (.returned (.slice (some ⟨w.heap.size, 0, none⟩) xs.length xs.length)) wr := by
  have hgs : w.heap.size < wr.heap.size := by
    rcases Nat.lt_or_ge w.heap.size wr.heap.size with h | h
    · exact h
    · rw [Array.getElem?_eq_none h] at hh; cases hh
  refine ⟨_, rfl, ⟨⟨tcs_len xs, .inr ⟨_, _, cur, rfl, Nat.le_refl _, hh, Nat.le_refl _, hm, hsz, htk⟩⟩, fun g hg => ?_⟩, hb⟩
  have : g = w.heap.size := by simpa [Value.ownBlock] using hg.symm
  omega

set_option maxHeartbeats 2000000 in
theorem toToneS_any (a : Option Addr) (c : Nat) (xs : List (Int × Bool)) (w : World) (h : ArgT w a xs) (hn : xs.length ≤ 1048576) :
    Calls Try.prog 72 #[.slice a xs.length c] w (TBuilt w xs) := by
  obtain ⟨i0, hi, hq0, hq1, hq2⟩ := info_parts infoTone
  go_enter Try.func72, Try.ntmps72
  go_wp2_with (at_make; refine wpList_make_full _ rfl _ _ 23 rfl w.heap.size 25 i0 (.agg #[.int .i64 0, .bool false]) 2 Try.underlying23 hi hq0 hq1 _ _ _ _ xs.length rfl rfl rfl rfl ?c1 ?c2 ?c3 ?_)
  case c1 => rw [hq2]; omega
  case c2 => unfold maxLen; omega
  case c3 => exact Nat.le_refl _
  intro w1 hown hg
  have h0 : TsInv w w1 w.heap.size xs.length xs 0 := by
    obtain ⟨hl, h1 | ⟨g, cap, cur, hv, _, hh, _, _, hsz, _⟩⟩ := hown
    · cases h1.1
    · injection hv with hv1 _ hv2
      injection hv1 with hv1
      injection hv1 with hv1
      subst hv1 hv2
      exact ⟨cur, hh, hsz, by simp [tcs], ⟨hg.os, hg.tape, hg.output, hg.size, fun i hi => hg.block i hi (fun e => by cases e)⟩⟩
  clear hown hg
  go_wp2
  go_loopw [4] (fun i wr => ∃ k : Nat, k ≤ xs.length ∧ i = .int .i64 k ∧ TsInv w wr w.heap.size xs.length xs k) (fun i _ => xs.length - (intOf i).toNat)
  case atStart => exact ⟨0, Nat.zero_le _, rfl, h0⟩
  case round =>
    obtain ⟨k, hk, rfl, cur, hh, hsz, htk, hb⟩ := hrel
    by_cases hlt : k < xs.length
    · obtain ⟨t, ht⟩ : ∃ t, xs[k]? = some t := ⟨xs[k], List.getElem?_eq_getElem (by omega)⟩
      rcases h with h | ⟨A, off, rfl, hA, hc⟩
      · subst h; simp at hlt
      obtain ⟨s, b⟩ := t
      have e1 := (hb.cell (p := ⟨A, off + k * 2, none⟩) hA).trans (hc k _ ht).1
      have e2 := (hb.cell (p := ⟨A, off + k * 2 + 1, none⟩) hA).trans (hc k _ ht).2
      have hk0 : (0 : Int) ≤ (k : Int) := by omega
      have hk1 : (k : Int) < (xs.length : Int) := by omega
      have hgs : w.heap.size < wr.heap.size := by
        rcases Nat.lt_or_ge w.heap.size wr.heap.size with h | h
        · exact h
        · rw [Array.getElem?_eq_none h] at hh; cases hh
      go_wp2_with (fail)
      (go_at_call 73; refine (toTone_any _ _ _).mono ?_; rintro e w2 ⟨rfl, hb2⟩)
      have hh2 := (hb2.block _ hgs).trans hh
      have k0 : k * 2 < cur.size := by omega
      have k1 : k * 2 + 1 < cur.size := by omega
      have d0 : w2.cell? ⟨w.heap.size, k * 2, none⟩ = some cur[k * 2] := by simp [World.cell?, hh2, Array.getElem?_eq_getElem k0]
      have d1 : w2.cell? ⟨w.heap.size, k * 2 + 1, none⟩ = some cur[k * 2 + 1] := by simp [World.cell?, hh2, Array.getElem?_eq_getElem k1]
      have df : ∀ o, w2.frozen? ⟨w.heap.size, o, none⟩ = false := fun o => by simp [World.frozen?, hh2]
      have HX := Lib.hid (TsInv.next hh2 hsz htk (bl_step hb hb2) ht hlt)
      clear htk hsz
      go_wp2
      go_roundw
      case rel => exact ⟨k + 1, by omega, by go_num, HX.out⟩
      case measure => simp [intOf]; omega
    · have hkn : k = xs.length := by omega
      have HT := Lib.hid (tsEnd hh hsz (by rw [hkn] at htk; simpa using htk) hb (by unfold maxLen; omega))
      clear htk hsz hh h
      go_wp2
      go_ret
      exact HT.out
end Go.Proofs.Ytcmcdomfmmjogaa
