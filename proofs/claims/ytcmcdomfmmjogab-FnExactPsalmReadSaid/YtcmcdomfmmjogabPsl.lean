/-
  Lists of psalm tones: opened, measured, made into the program's, compared.
-/
import Derived.Test.YtcmcdomfmmjogabPsh
import Derived.Test.YtcmcdomfmmjogabOpenP
import Derived.Deep.SlicePairs
import Derived.WalkLawsBesides
import Derived.OwnWalk
namespace Go.Proofs.Ytcmcdomfmmjogab
open Go.RowKit Go.ChangeShapes Go.WideShapes Go.ChangeAt Go.Joins
set_option maxRecDepth 100000
set_option linter.unusedVariables false

instance : Inhabited Psa := ⟨⟨[], (0, false), [], []⟩⟩
/-- a list of psalm tones in memory, its parts' slices as L says -/
def PLst (L : World → Value → List (Int × Bool) → Prop) (w : World) (a : Option Addr) (ps : List Psa) : Prop :=
  ps = [] ∨ ∃ A off, a = some ⟨A, off, none⟩ ∧ A < w.heap.size ∧ ∀ i p, ps[i]? = some p → ∃ v0 v1 v2, w.cell? ⟨A, off + i * 5, none⟩ = some v0 ∧ w.cell? ⟨A, off + i * 5 + 1, none⟩ = some (.int .i64 p.tn.1) ∧ w.cell? ⟨A, off + i * 5 + 2, none⟩ = some (.bool p.tn.2) ∧
    w.cell? ⟨A, off + i * 5 + 3, none⟩ = some v1 ∧ w.cell? ⟨A, off + i * 5 + 4, none⟩ = some v2 ∧ L w v0 p.st ∧ L w v1 p.mi ∧ L w v2 p.en
theorem PLst.below {L : World → Value → List (Int × Bool) → Prop} (HL : ∀ w w' v xs, L w v xs → Below w.heap.size w w' → L w' v xs) {w w' : World} {a : Option Addr} {ps : List Psa} (h : PLst L w a ps) (hb : Below w.heap.size w w') : PLst L w' a ps := by
  rcases h with h | ⟨A, off, ha, hA, hc⟩
  · exact .inl h
  · refine .inr ⟨A, off, ha, Nat.lt_of_lt_of_le hA hb.size, fun i p hp => ?_⟩
    obtain ⟨v0, v1, v2, e0, e1, e2, e3, e4, l0, l1, l2⟩ := hc i p hp
    exact ⟨v0, v1, v2, (hb.cell (p := ⟨A, off + i * 5, none⟩) hA).trans e0, (hb.cell (p := ⟨A, off + i * 5 + 1, none⟩) hA).trans e1, (hb.cell (p := ⟨A, off + i * 5 + 2, none⟩) hA).trans e2, (hb.cell (p := ⟨A, off + i * 5 + 3, none⟩) hA).trans e3, (hb.cell (p := ⟨A, off + i * 5 + 4, none⟩) hA).trans e4, HL _ _ _ _ l0 hb, HL _ _ _ _ l1 hb, HL _ _ _ _ l2 hb⟩
theorem ArgL.below {w w' : World} {v : Value} {xs : List (Int × Bool)} (h : ArgL w v xs) (hb : Below w.heap.size w w') : ArgL w' v xs := by
  obtain ⟨a, c, e, ha, h1, h2⟩ := h
  exact ⟨a, c, e, ha.below hb, h1, h2⟩
theorem argPs_below {w w' : World} {a : Option Addr} {ps : List Psa} (h : PLst ArgL w a ps) (hb : Below w.heap.size w w') : PLst ArgL w' a ps := h.below (fun _ _ _ _ h hb => h.below hb) hb
/-- the program's list of psalm tones -/
def PLV (w : World) (v : Value) (ps : List Psa) : Prop := ∃ a c, v = .slice a ps.length c ∧ PLst LV w a ps ∧ ps.length ≤ c ∧ c ≤ maxLen
theorem PLV.below {w w' : World} {v : Value} {ps : List Psa} (h : PLV w v ps) (hb : Below w.heap.size w w') : PLV w' v ps := by
  obtain ⟨a, c, e, ha, h1, h2⟩ := h
  exact ⟨a, c, e, ha.below (fun _ _ _ _ h hb => h.below hb) hb, h1, h2⟩

section
variable {H : Type} {enc : TypeId × Value → H} {w : World} {base : Nat} {spare : Nat → Bool} {held : Bool}
theorem list5 {α : Type} {cs : List α} (h : cs.length = 5) : ∃ c0 c1 c2 c3 c4, cs = [c0, c1, c2, c3, c4] := by
  match cs, h with
  | [c0, c1, c2, c3, c4], _ => exact ⟨c0, c1, c2, c3, c4, rfl⟩

set_option maxRecDepth 100000 in
theorem psalms_in {a : Option Addr} {n c : Nat} {d : DataW H} {p : List MemPlace} (h : DataW.Trod enc Try.prog w base spare held 22 (.slice a n c) d p) : ∃ ps : List Psa, n = ps.length ∧ PLst ArgL w a ps ∧ n ≤ c ∧ c ≤ maxLen := by
  obtain ⟨fuel, hf⟩ := h
  rcases Deep.open_slice Try.underlying22 hf with ⟨hcs, _⟩ | ⟨x, l, c', m, k, D, Pl, hcs, _, hl, hm, hmm, _, hcell⟩
  · simp [Value.cells] at hcs
    obtain ⟨rfl, rfl, rfl⟩ := hcs
    exact ⟨[], rfl, .inl rfl, Nat.le_refl _, Nat.zero_le _⟩
  · simp [Value.cells] at hcs
    obtain ⟨rfl, rfl, rfl⟩ := hcs
    have hnm : n ≤ m := by rw [hmm]; split <;> omega
    have each : ∀ i, i < n → ∃ t : Psa, ∃ v0 v1 v2, w.cell? (x.add (i * 5)) = some v0 ∧ w.cell? (x.add (i * 5 + 1)) = some (.int .i64 t.tn.1) ∧ w.cell? (x.add (i * 5 + 2)) = some (.bool t.tn.2) ∧ w.cell? (x.add (i * 5 + 3)) = some v1 ∧ w.cell? (x.add (i * 5 + 4)) = some v2 ∧ ArgL w v0 t.st ∧ ArgL w v1 t.mi ∧ ArgL w v2 t.en := fun i hi => by
      obtain ⟨cs', h1, h2⟩ := hcell i (by omega)
      rw [cellsPsalm] at h1
      obtain ⟨_, hlen, hc⟩ := World.cells?_some h1
      obtain ⟨v0, s, b, v1, v2, x0, x1, x2, rfl, _, g0, g1, g2⟩ := psalm_cells (list5 hlen) h2
      have e0 := hc 0 (by omega)
      have e1 := hc 1 (by omega)
      have e2 := hc 2 (by omega)
      have e3 := hc 3 (by omega)
      have e4 := hc 4 (by omega)
      rw [Deep.add_add] at e0 e1 e2 e3 e4
      exact ⟨⟨x0, (s, b), x1, x2⟩, v0, v1, v2, by simpa using e0, by simpa using e1, by simpa using e2, by simpa using e3, by simpa using e4, g0, g1, g2⟩
    obtain ⟨f, hf2⟩ := Deep.choose_lt each
    refine ⟨(List.range n).map f, by simp, ?_, hl, hm⟩
    by_cases hn : n = 0
    · subst hn; exact .inl rfl
    obtain ⟨A, off, spot⟩ := x
    have hspot : spot = none := by
      obtain ⟨_, _, _, e0, _⟩ := hf2 0 (by omega)
      simpa [Addr.add] using World.cell?_spot e0
    subst hspot
    refine .inr ⟨A, off, rfl, ?_, fun i t ht => ?_⟩
    · obtain ⟨_, _, _, e0, _⟩ := hf2 0 (by omega)
      exact World.block_lt_of_cell? w ⟨A, off, none⟩ (by simpa [Addr.add] using e0)
    · rw [List.getElem?_map] at ht
      obtain ⟨j, hj, rfl⟩ := Option.map_eq_some_iff.1 ht
      have hji : i < n ∧ j = i := by
        obtain ⟨h1, h2⟩ := List.getElem?_eq_some_iff.1 hj
        simp at h1 h2
        exact ⟨h1, h2.symm⟩
      obtain ⟨hi, rfl⟩ := hji
      have := hf2 j hi
      rw [Go.WideShapes.add_plain, Go.WideShapes.add_plain, Go.WideShapes.add_plain, Go.WideShapes.add_plain, Go.WideShapes.add_plain, ← Nat.add_assoc, ← Nat.add_assoc, ← Nat.add_assoc, ← Nat.add_assoc] at this
      exact this
end

/-- how much a list of psalm tones holds -/
def psz (p : Psa) : Nat := p.st.length + p.mi.length + p.en.length
def szp (ps : List Psa) : Nat := (ps.map psz).sum
theorem szp_succ {ps : List Psa} {k : Nat} {p : Psa} (h : ps[k]? = some p) : szp (ps.take (k + 1)) = szp (ps.take k) + psz p := by
  unfold szp
  rw [List.take_add_one, h]
  simp
theorem sum_take9 (l : List Nat) (k : Nat) : (l.take k).sum ≤ l.sum := by
  induction l generalizing k with
  | nil => simp
  | cons a r ih => cases k with
    | zero => simp
    | succ j => simp; exact ih j
theorem szp_take_le (ps : List Psa) (k : Nat) : szp (ps.take k) ≤ szp ps := by
  unfold szp
  rw [List.map_take]
  exact sum_take9 _ _
theorem szp_get {ps : List Psa} {k : Nat} {p : Psa} (h : ps[k]? = some p) : psz p ≤ szp ps := by
  have h1 := szp_succ h
  have h2 := szp_take_le ps (k + 1)
  omega
theorem ps_get {ps : List Psa} {k : Nat} (h : k < ps.length) : ∃ p, ps[k]? = some p := ⟨ps[k], List.getElem?_eq_getElem h⟩

set_option maxHeartbeats 4000000 in
theorem szPsalmS_any (a : Option Addr) (c : Nat) (ps : List Psa) (w : World) (h : PLst ArgL w a ps) (hc1 : ps.length ≤ c) (hc2 : c ≤ maxLen) :
    Calls Try.prog 5 #[.slice a ps.length c, .int .i64 1048576] w fun e w' => e = .returned (.int .i64 (if ps.length + szp ps ≤ 1048576 then 1048576 - ((ps.length + szp ps : Nat) : Int) else -1)) ∧ Below w.heap.size w w' := by
  unfold maxLen at hc2
  have hlen : ps.length ≤ 9223372036854775807 := by omega
  by_cases h0 : ps.length ≤ 1048576
  · have g0 : decide ((1048576 : Int) - (ps.length : Int) < 0) = false := by simp; omega
    have HA := Lib.hid h
    have HF : Hid (¬ ps.length + szp ps ≤ 1048576 → (if ps.length + szp ps ≤ 1048576 then 1048576 - ((ps.length + szp ps : Nat) : Int) else (-1 : Int)) = -1) := fun h => if_neg h
    have HT : Hid (ps.length + szp ps ≤ 1048576 → (if ps.length + szp ps ≤ 1048576 then 1048576 - ((ps.length + szp ps : Nat) : Int) else (-1 : Int)) = 1048576 - ((ps.length + szp ps : Nat) : Int)) := fun h => if_pos h
    generalize (if ps.length + szp ps ≤ 1048576 then 1048576 - ((ps.length + szp ps : Nat) : Int) else (-1 : Int)) = ans at HF HT ⊢
    clear h
    go_enter Try.func5, Try.ntmps5
    go_wp2
    go_loopw [1, 5] (fun l i wr => ∃ k q : Nat, k ≤ ps.length ∧ i = .int .i64 k ∧ l = .int .i64 q ∧ ps.length + szp (ps.take k) + q = 1048576 ∧ Below w.heap.size w wr) (fun _ i _ => ps.length - (intOf i).toNat)
    case atStart => exact ⟨0, 1048576 - ps.length, Nat.zero_le _, rfl, by go_num, by simp [szp]; omega, by (repeat' (first | (with_reducible exact Below.refl _ _) | (with_reducible refine Below.alloc ?_ ?_ _) | (with_reducible refine Below.drew ?_) | (with_reducible refine Below.setCell ?_ ?_ _) | (with_reducible refine bl_step ?_ (by assumption)) | go_size))⟩
    case round =>
      obtain ⟨k, q, hk, rfl, rfl, hq, hb⟩ := hrel
      by_cases hlt : k < ps.length
      · obtain ⟨p, hx⟩ := ps_get hlt
        have hne : ps ≠ [] := by rintro rfl; simp at hlt
        rcases HA.out with h | ⟨A, off, rfl, hA, hc⟩
        · exact absurd h hne
        obtain ⟨v0, v1, v2, e0, e1, e2, e3, e4, ⟨b0, d0, rfl, l0, n0, m0⟩, ⟨b1, d1, rfl, l1, n1, m1⟩, ⟨b2, d2, rfl, l2, n2, m2⟩⟩ := hc k _ hx
        have e0 := (hb.cell (p := ⟨A, off + k * 5, none⟩) hA).trans e0
        have e1 := (hb.cell (p := ⟨A, off + k * 5 + 1, none⟩) hA).trans e1
        have e2 := (hb.cell (p := ⟨A, off + k * 5 + 2, none⟩) hA).trans e2
        have e3 := (hb.cell (p := ⟨A, off + k * 5 + 3, none⟩) hA).trans e3
        have e4 := (hb.cell (p := ⟨A, off + k * 5 + 4, none⟩) hA).trans e4
        unfold maxLen at m0 m1 m2
        have HU := Lib.hid (fun W => szPsalm_any b0 b1 b2 p.st.length p.mi.length p.en.length d0 d1 d2 q p.tn.1 p.tn.2 (by omega) (by omega) (by omega) (by omega) W)
        have hk0 : (0 : Int) ≤ (k : Int) := by omega
        have hk1 : (k : Int) < (ps.length : Int) := by omega
        have h1 : szp (ps.take (k + 1)) = szp (ps.take k) + (p.st.length + p.mi.length + p.en.length) := szp_succ hx
        have h2 := szp_take_le ps (k + 1)
        have HS : Hid (∃ z, p.st.length + p.mi.length + p.en.length = z) := ⟨_, rfl⟩
        obtain ⟨z, hz⟩ := HS.out
        rw [hz] at HU h1
        clear hc hne hz l0 l1 l2
        generalize p.st.length = n0 at *
        generalize p.mi.length = n1 at *
        generalize p.en.length = n2 at *
        by_cases hxq : z ≤ q
        · rw [if_pos hxq] at HU
          have g : decide ((q : Int) - (z : Int) < 0) = false := by simp; omega
          go_wp2_with (fail)
          (go_at_call 15; refine (HU.out _).mono ?_; rintro e w1 ⟨rfl, hb1⟩)
          go_wp2
          go_roundw
          case rel => exact ⟨k + 1, q - z, by omega, by go_num, by (congr 1; omega), by omega, bl_step hb hb1⟩
          case measure => simp [intOf]; omega
        · rw [if_neg hxq] at HU
          have hB := Lib.hid (HF.out (by omega))
          go_wp2_with (fail)
          (go_at_call 15; refine (HU.out _).mono ?_; rintro e w1 ⟨rfl, hb1⟩)
          go_wp2
          go_ret
          exact ⟨by rw [hB.out]; rfl, bl_step hb hb1⟩
      · have hkn : k = ps.length := by omega
        rw [hkn, List.take_length] at hq
        have hE := Lib.hid (HT.out (by omega))
        have hq2 : Hid ((q : Int) = (1048576 : Int) - ((ps.length + szp ps : Nat) : Int)) := (by omega : (q : Int) = (1048576 : Int) - ((ps.length + szp ps : Nat) : Int))
        clear hq
        go_wp2
        go_ret
        exact ⟨by rw [hE.out, ← hq2.out]; rfl, hb⟩
  · rw [if_neg (by omega)]
    have g : (1048576 : Int) < (ps.length : Int) := by omega
    go_enter Try.func5, Try.ntmps5
    go_wp2
    go_ret
    exact ⟨rfl, Below.refl _ _⟩
end Go.Proofs.Ytcmcdomfmmjogab
