/-
  A law's []int argument, opened, and made into a slice of the call's own.
-/
import Derived.Test.YtkkfediceekmdaaInts
import Derived.Test.YtkkfediceekmdaaOpen
import Derived.OwnWalk
import Derived.Laws.Rows
namespace Go.Proofs.Ytkkfediceekmdaa
open Go.RowKit Go.ChangeShapes Go.WideShapes Go.ChangeAt
set_option maxRecDepth 100000
set_option linter.unusedVariables false

/-- a []int that came in: it reads as zs -/
def ArgI (w : World) (a : Option Addr) (zs : List Int) : Prop :=
  zs = [] ∨ ∃ A off, a = some ⟨A, off, none⟩ ∧ A < w.heap.size ∧ ∀ i, i < zs.length → w.cell? ⟨A, off + i, none⟩ = some (.int .i64 (zs.getD i 0))
theorem ArgI.below {w w' : World} {a : Option Addr} {zs : List Int} (h : ArgI w a zs) (hb : Below w.heap.size w w') : ArgI w' a zs := by
  rcases h with h | ⟨A, off, ha, hA, hc⟩
  · exact .inl h
  · exact .inr ⟨A, off, ha, Nat.lt_of_lt_of_le hA hb.size, fun i hi => (hb.cell (p := ⟨A, off + i, none⟩) hA).trans (hc i hi)⟩

section
variable {H : Type} {enc : TypeId × Value → H} {w : World} {base : Nat} {spare : Nat → Bool} {held : Bool}
theorem ints_in {a : Option Addr} {n c : Nat} {d : DataW H} {p : List MemPlace} (h : DataW.Trod enc Try.prog w base spare held 22 (.slice a n c) d p) : ∃ zs : List Int, n = zs.length ∧ ArgI w a zs ∧ n ≤ c ∧ c ≤ maxLen := by
  obtain ⟨fuel, hf⟩ := h
  rcases open_ints Try.underlying22 Try.underlying3 (by kernel_rfl) hf with ⟨hcs, _⟩ | ⟨x, l, c', zs, hcs, _, hl, hm, hz, _, hcell, hwz⟩
  · simp [Value.cells] at hcs
    obtain ⟨rfl, rfl, rfl⟩ := hcs
    exact ⟨[], rfl, .inl rfl, Nat.le_refl _, Nat.zero_le _⟩
  · simp [Value.cells] at hcs
    obtain ⟨rfl, rfl, rfl⟩ := hcs
    have hlen : n ≤ zs.length := by rw [hz]; split <;> omega
    refine ⟨zs.take n, by simp; omega, ?_, hl, hm⟩
    by_cases hn : n = 0
    · subst hn; exact .inl rfl
    obtain ⟨A, off, rfl, hc'⟩ := ints_at hcell (by omega)
    refine .inr ⟨A, off, rfl, World.block_lt_of_cell? w _ (hc' 0 (by omega)), fun i hi => ?_⟩
    have hi2 : i < n := by simp at hi; omega
    have e : (zs.take n).getD i 0 = zs.getD i 0 := by simp [List.getD_eq_getElem?_getD, List.getElem?_take_of_lt hi2]
    rw [e]
    exact hc' i (by omega)
end

theorem infoIntI : (Try.prog.info? 3).map (fun i => (i.zero, i.size, i.bytes)) = some (some (.int .i64 0), 1, 8) := by kernel_rfl
def IBuiltI (w : World) (xs : List Int) (e : Ending) (w' : World) : Prop :=
  ∃ v, e = .returned v ∧ IRow w' w.heap.size w'.heap.size v xs ∧ Below w.heap.size w w'

def TiInv (w wr : World) (n : Nat) (zs : List Int) (k : Nat) : Prop :=
  ∃ cur, wr.heap[w.heap.size]? = some (.cells cur 3 (0, 0)) ∧ cur.size = n ∧ cur.toList.take k = (zs.take k).map (Value.int .i64) ∧ Below w.heap.size w wr
theorem TiInv.next {w wr : World} {n k : Nat} {zs : List Int} (h : TiInv w wr n zs k) (hn : n = zs.length) (hk : k < n) : TiInv w (wr.setCell ⟨w.heap.size, k, none⟩ (.int .i64 (zs.getD k 0))) n zs (k + 1) := by
  obtain ⟨cur, hh, hsz, ht, hb⟩ := h
  refine ⟨cur.setIfInBounds k (.int .i64 (zs.getD k 0)), by simp [World.setCell, Array.getElem?_modify, hh], by simp [hsz], ?_, hb.setCell (by simp) _⟩
  have hkc : k < cur.toList.length := by simpa using (by omega : k < cur.size)
  have hkz : k < zs.length := by omega
  rw [Array.toList_setIfInBounds, List.take_add_one, List.take_set_of_le (Nat.le_refl k), ht, List.take_add_one, List.map_append]
  generalize cur.toList = l at hkc
  simp [List.getElem?_eq_getElem hkz, List.getD_eq_getElem?_getD, hkc]
theorem TiInv.bl {w wr : World} {n k : Nat} {zs : List Int} (h : TiInv w wr n zs k) : Below w.heap.size w wr := by obtain ⟨_, _, _, _, hb⟩ := h; exact hb
theorem TiInv.cell {w wr : World} {n k : Nat} {zs : List Int} (h : TiInv w wr n zs k) (hk : k < n) : (∃ u, wr.cell? ⟨w.heap.size, k, none⟩ = some u) ∧ wr.frozen? ⟨w.heap.size, k, none⟩ = false := by
  obtain ⟨cur, hh, hsz, _, _⟩ := h
  exact ⟨⟨cur[k]'(by omega), by simp [World.cell?, hh, Array.getElem?_eq_getElem (by omega : k < cur.size)]⟩, by simp [World.frozen?, hh]⟩
theorem TiInv.built {w wr : World} {zs : List Int} (h : TiInv w wr zs.length zs zs.length) (hm : zs.length ≤ maxLen) : IBuiltI w zs (.returned (.slice (some ⟨w.heap.size, 0, none⟩) zs.length zs.length)) wr := by
  obtain ⟨cur, hh, hsz, ht, hb⟩ := h
  have hgs : w.heap.size < wr.heap.size := by
    rcases Nat.lt_or_ge w.heap.size wr.heap.size with h | h
    · exact h
    · rw [Array.getElem?_eq_none h] at hh; cases hh
  refine ⟨_, rfl, ⟨⟨by simp, .inr ⟨_, _, cur, rfl, Nat.le_refl _, hh, Nat.le_refl _, hm, by simpa using hsz, by simpa using ht⟩⟩, fun g hg => ?_⟩, hb⟩
  have : g = w.heap.size := by simpa [Value.ownBlock] using hg.symm
  omega

set_option maxHeartbeats 2000000 in
theorem toIntS_any (a : Option Addr) (c : Nat) (zs : List Int) (w : World) (h : ArgI w a zs) (hn : zs.length ≤ 1048576) :
    Calls Try.prog 25 #[.slice a zs.length c] w (IBuiltI w zs) := by
  obtain ⟨i0, hi, hq0, hq1, hq2⟩ := info_parts infoIntI
  go_enter Try.func25, Try.ntmps25
  go_wp2_with (at_make; refine wpList_make_full _ rfl _ _ 22 rfl w.heap.size 3 i0 (.int .i64 0) 1 Try.underlying22 hi hq0 hq1 _ _ _ _ zs.length rfl rfl rfl rfl ?c1 ?c2 ?c3 ?_)
  case c1 => rw [hq2]; omega
  case c2 => unfold maxLen; omega
  case c3 => exact Nat.le_refl _
  intro w1 hown hg
  have h0 : TiInv w w1 zs.length zs 0 := by
    obtain ⟨hl, h1 | ⟨g, cap, cur, hv, _, hh, _, _, hsz, _⟩⟩ := hown
    · cases h1.1
    · injection hv with hv1 _ hv2
      injection hv1 with hv1
      injection hv1 with hv1
      subst hv1 hv2
      exact ⟨cur, hh, by simpa using hsz, by simp, ⟨hg.os, hg.tape, hg.output, hg.size, fun i hi => hg.block i hi (fun e => by cases e)⟩⟩
  clear hown hg
  go_wp2
  go_loopw [4] (fun i wr => ∃ k : Nat, k ≤ zs.length ∧ i = .int .i64 k ∧ TiInv w wr zs.length zs k) (fun i _ => zs.length - (intOf i).toNat)
  case atStart => exact ⟨0, Nat.zero_le _, rfl, h0⟩
  case round =>
    obtain ⟨k, hk, rfl, hinv⟩ := hrel
    by_cases hlt : k < zs.length
    · rcases h with h | ⟨A, off, rfl, hA, hc⟩
      · subst h; simp at hlt
      have e1 := (hinv.bl.cell (p := ⟨A, off + k, none⟩) hA).trans (hc k hlt)
      obtain ⟨⟨u, d0⟩, df⟩ := hinv.cell hlt
      have HX := Lib.hid (hinv.next rfl hlt)
      have hk0 : (0 : Int) ≤ (k : Int) := by omega
      have hk1 : (k : Int) < (zs.length : Int) := by omega
      clear hinv h0 hc
      generalize zs.getD k 0 = z at e1 HX
      go_wp2
      go_roundw
      case rel => exact ⟨k + 1, by omega, by go_num, HX.out⟩
      case measure => simp [intOf]; omega
    · have hkn : k = zs.length := by omega
      subst hkn
      have HT := Lib.hid (hinv.built (by unfold maxLen; omega))
      clear hinv h h0
      go_wp2
      go_ret
      exact HT.out
end Go.Proofs.Ytkkfediceekmdaa
