/-
  Melodies as linked lists: what hangs on a pointer, and how it is built.
-/
import Derived.Test.YtcmcdomfmmjogaaTL
import Derived.LaidEqlPtr
namespace Go.Proofs.Ytcmcdomfmmjogaa
open Go.RowKit
set_option maxRecDepth 100000
set_option linter.unusedVariables false

/-- are all of them tones? -/
def allv (xs : List (Int × Bool)) : Bool := xs.all fun t => vd t.1 t.2
/-- is the list a melody? -/
def mv (xs : List (Int × Bool)) : Bool := decide (xs.length ≤ 24) && allv xs
/-- the melody, the empty one if the list is none -/
def mvl (xs : List (Int × Bool)) : List (Int × Bool) := if mv xs then xs else []

/-- what hangs on a pointer -/
def Mel (w : World) (lo : Nat) : Option Addr → List (Int × Bool) → Prop
  | p, [] => p = none
  | p, t :: r => ∃ B q, p = some ⟨B, 0, none⟩ ∧ lo ≤ B ∧ w.heap[B]? = some (.cells #[.int .i64 t.1, .bool t.2, .pointer q] 114 (0, 0)) ∧ Mel w lo q r

theorem Mel.below {w w' : World} {lo : Nat} {p : Option Addr} {xs : List (Int × Bool)} (h : Mel w lo p xs) (hb : Below w.heap.size w w') : Mel w' lo p xs := by
  induction xs generalizing p with
  | nil => exact h
  | cons t r ih =>
    obtain ⟨B, q, hp, hlo, hh, hr⟩ := h
    have hl : B < w.heap.size := by
      rcases Nat.lt_or_ge B w.heap.size with h | h
      · exact h
      · rw [Array.getElem?_eq_none h] at hh; cases hh
    exact ⟨B, q, hp, hlo, (hb.block B hl).trans hh, ih hr⟩
theorem Mel.mono {w : World} {lo lo' : Nat} {p : Option Addr} {xs : List (Int × Bool)} (h : Mel w lo p xs) (hl : lo' ≤ lo) : Mel w lo' p xs := by
  induction xs generalizing p with
  | nil => exact h
  | cons t r ih =>
    obtain ⟨B, q, hp, hlo, hh, hr⟩ := h
    exact ⟨B, q, hp, Nat.le_trans hl hlo, hh, ih hr⟩
theorem Mel.drew {w : World} {lo : Nat} {p : Option Addr} {xs : List (Int × Bool)} (h : Mel w lo p xs) : Mel w.drew lo p xs := h.below (Below.refl _ _).drew
theorem Mel.cons_ {w : World} {lo : Nat} {p : Option Addr} {t : Int × Bool} {xs : List (Int × Bool)} (h : Mel w lo p xs) (hlo : lo ≤ w.heap.size) :
    Mel (w.alloc (.cells #[.int .i64 t.1, .bool t.2, .pointer p] 114)) lo (some ⟨w.heap.size, 0, none⟩) (t :: xs) :=
  ⟨w.heap.size, p, rfl, hlo, heap_alloc_new w _, h.below ((Below.refl _ _).alloc (Nat.le_refl _) _)⟩
/-- the first tone's cells, and the rest -/
theorem Mel.head {w : World} {lo : Nat} {p : Option Addr} {t : Int × Bool} {xs : List (Int × Bool)} (h : Mel w lo p (t :: xs)) : ∃ B q, p = some ⟨B, 0, none⟩ ∧ lo ≤ B ∧ B < w.heap.size ∧
    w.cell? ⟨B, 0, none⟩ = some (.int .i64 t.1) ∧ w.cell? ⟨B, 1, none⟩ = some (.bool t.2) ∧ w.cell? ⟨B, 2, none⟩ = some (.pointer q) ∧ Mel w lo q xs := by
  obtain ⟨B, q, hp, hlo, hh, hr⟩ := h
  refine ⟨B, q, hp, hlo, ?_, by simp [World.cell?, hh], by simp [World.cell?, hh], by simp [World.cell?, hh], hr⟩
  rcases Nat.lt_or_ge B w.heap.size with h | h
  · exact h
  · rw [Array.getElem?_eq_none h] at hh; cases hh

def Made (w : World) (xs : List (Int × Bool)) (e : Ending) (w' : World) : Prop :=
  ∃ p, e = .returned (.tuple #[.pointer p, .bool (mv xs)]) ∧ Mel w' w.heap.size p (mvl xs) ∧ Below w.heap.size w w'

theorem mv_long {xs : List (Int × Bool)} (h : 24 < xs.length) : mv xs = false := by simp [mv]; omega
theorem mv_bad {xs : List (Int × Bool)} {k : Nat} {t : Int × Bool} (h : xs[k]? = some t) (hv : vd t.1 t.2 = false) : mv xs = false := by
  have : allv xs = false := by
    unfold allv
    rw [List.all_eq_false]
    exact ⟨t, List.mem_of_getElem? h, by simp [hv]⟩
  simp [mv, this]
theorem mv_all {xs : List (Int × Bool)} (h : xs.length ≤ 24) (hv : allv xs = true) : mv xs = true := by simp [mv, h, hv]
theorem mvl_no {xs : List (Int × Bool)} (h : mv xs = false) : mvl xs = [] := by simp [mvl, h]
theorem mvl_yes {xs : List (Int × Bool)} (h : mv xs = true) : mvl xs = xs := by simp [mvl, h]
theorem mvl_len (xs : List (Int × Bool)) : (mvl xs).length ≤ 24 := by
  unfold mvl
  split
  · rename_i h; simp [mv] at h; exact h.1
  · simp
theorem mvl_mem {xs : List (Int × Bool)} {t : Int × Bool} (h : t ∈ mvl xs) : vd t.1 t.2 = true := by
  unfold mvl at h
  split at h
  · rename_i g
    have g2 : allv xs = true := by simp [mv] at g; exact g.2
    exact List.all_eq_true.1 g2 t h
  · cases h

theorem made_no {w w' : World} {xs : List (Int × Bool)} (h : mv xs = false) (hb : Below w.heap.size w w') : Made w xs (.returned (.tuple #[.pointer none, .bool false])) w' :=
  ⟨none, by rw [h], by rw [mvl_no h]; rfl, hb⟩
theorem made_yes {w w' : World} {xs : List (Int × Bool)} {p : Option Addr} (h : mv xs = true) (hm : Mel w' w.heap.size p xs) (hb : Below w.heap.size w w') : Made w xs (.returned (.tuple #[.pointer p, .bool true])) w' :=
  ⟨p, by rw [h], by rw [mvl_yes h]; exact hm, hb⟩

/-- the loop's state behind all but k tones -/
def NmInv (w wr : World) (xs : List (Int × Bool)) (k : Nat) (m i : Value) : Prop :=
  ∃ p, m = .pointer p ∧ i = .int .i64 ((k : Int) - 1) ∧ k ≤ xs.length ∧ allv (xs.drop k) = true ∧ Mel wr w.heap.size p (xs.drop k) ∧ Below w.heap.size w wr
theorem NmInv.next {w wr w1 : World} {xs : List (Int × Bool)} {k : Nat} {p : Option Addr} {t : Int × Bool} (hx : xs[k]? = some t) (hv : vd t.1 t.2 = true) (ha : allv (xs.drop (k + 1)) = true) (hm : Mel wr w.heap.size p (xs.drop (k + 1)))
    (hb : Below w.heap.size w wr) : allv (xs.drop k) = true ∧ Mel (wr.alloc (.cells #[.int .i64 t.1, .bool t.2, .pointer p] 114)) w.heap.size (some ⟨wr.heap.size, 0, none⟩) (xs.drop k) ∧
      Below w.heap.size w (wr.alloc (.cells #[.int .i64 t.1, .bool t.2, .pointer p] 114)) := by
  obtain ⟨hk, rfl⟩ := List.getElem?_eq_some_iff.1 hx
  have e : xs.drop k = xs[k] :: xs.drop (k + 1) := List.drop_eq_getElem_cons hk
  rw [e]
  exact ⟨by unfold allv at ha ⊢; rw [List.all_cons, ha, hv]; rfl, hm.cons_ hb.size, hb.alloc hb.size _⟩

set_option maxHeartbeats 2000000 in
theorem newMelody_any (lo hi : Nat) (v : Value) (xs : List (Int × Bool)) (w : World) (h : TRow w lo hi v xs) :
    Calls Try.prog 83 #[v] w (Made w xs) := by
  have HN : mv xs = false → ∀ w', Below w.heap.size w w' → Made w xs (.returned (.tuple #[.pointer none, .bool false])) w' := fun h w' hb => made_no h hb
  have HY : mv xs = true → ∀ w' p, Mel w' w.heap.size p xs → Below w.heap.size w w' → Made w xs (.returned (.tuple #[.pointer p, .bool true])) w' := fun h w' p hm hb => made_yes h hm hb
  rcases h.form with ⟨rfl, rfl⟩ | ⟨g, cap, rfl, hg, hg2, hgs, hcap, hmax, hc⟩
  · have HY0 := Lib.hid (HY rfl w none rfl (Below.refl _ _))
    clear HN HY
    go_enter Try.func83, Try.ntmps83
    go_wp2
    go_rounds 1
    go_ret2
    exact HY0.out
  · unfold maxLen at hmax
    have hlen : xs.length ≤ 9223372036854775807 := by omega
    by_cases hl : 24 < xs.length
    · have HN0 := Lib.hid (HN (mv_long hl) w (Below.refl _ _))
      have hl' : (24 : Int) < (xs.length : Int) := by omega
      clear HN HY h hc
      go_enter Try.func83, Try.ntmps83
      go_wp2
      go_ret2
      exact HN0.out
    have hl' : decide ((24 : Int) < (xs.length : Int)) = false := by simp; omega
    have HC := Lib.hid hc
    have HN' := Lib.hid HN
    have HY' := Lib.hid HY
    clear hc h HN HY
    go_enter Try.func83, Try.ntmps83
    go_wp2
    go_loopw [4, 5] (fun m i wr => ∃ k : Nat, NmInv w wr xs k m i) (fun _ i _ => (intOf i + 1).toNat)
    case atStart => exact ⟨xs.length, none, rfl, rfl, Nat.le_refl _, by simp [allv], by simp [Mel], Below.refl _ _⟩
    case round =>
      obtain ⟨k, p, rfl, rfl, hk, ha, hm, hb⟩ := hrel
      by_cases hk0 : k = 0
      · subst hk0
        go_wp2
        go_ret2
        exact HY'.out (mv_all (by omega) (by simpa using ha)) _ _ (by simpa using hm) hb
      · obtain ⟨j, rfl⟩ : ∃ j, k = j + 1 := ⟨k - 1, by omega⟩
        obtain ⟨t, ht⟩ : ∃ t, xs[j]? = some t := ⟨xs[j], List.getElem?_eq_getElem (by omega)⟩
        rw [show (((j + 1 : Nat) : Int) - 1) = (j : Int) by omega]
        obtain ⟨e1, e2⟩ := HC.out j t ht
        have e1 := (hb.cell (p := ⟨g, j * 2, none⟩) hgs).trans e1
        have e2 := (hb.cell (p := ⟨g, j * 2 + 1, none⟩) hgs).trans e2
        obtain ⟨s, b⟩ := t
        have hj0 : (0 : Int) ≤ (j : Int) := by omega
        have hj1 : (j : Int) < (xs.length : Int) := by omega
        by_cases hv : vd s b = false
        · have HN2 := Lib.hid (HN'.out (mv_bad ht hv))
          go_wp2_with (fail)
          (go_at_call 80; refine (valid_any _ _ _).mono ?_; rintro e w1 ⟨rfl, hb1⟩)
          go_wp2
          go_ret2
          exact HN2.out _ (bl_step hb hb1)
        · rw [Bool.not_eq_false] at hv
          go_wp2_with (fail)
          (go_at_call 80; refine (valid_any _ _ _).mono ?_; rintro e w1 ⟨rfl, hb1⟩)
          have e3 := (hb1.cell (p := ⟨g, j * 2, none⟩) (Nat.lt_of_lt_of_le hgs hb.size)).trans e1
          have e4 := (hb1.cell (p := ⟨g, j * 2 + 1, none⟩) (Nat.lt_of_lt_of_le hgs hb.size)).trans e2
          have HX := Lib.hid (NmInv.next (w1 := w1) ht hv ha (hm.below hb1) (bl_step hb hb1))
          clear e1 e2 hm
          go_wp2
          go_roundw
          case rel => exact ⟨j, _, rfl, by go_num, by omega, HX.out.1, HX.out.2.1, HX.out.2.2⟩
          case measure => simp [intOf]
end Go.Proofs.Ytcmcdomfmmjogaa
