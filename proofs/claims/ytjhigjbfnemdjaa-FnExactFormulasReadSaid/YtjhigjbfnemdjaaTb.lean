/-
  A table of integers of a call's own, by its entries; and the numbers of readings in it.
-/
import Derived.Test.YtjhigjbfnemdjaaRw
import Derived.BigRegion
namespace Go.Proofs.Ytjhigjbfnemdjaa
open Go.RowKit
set_option maxRecDepth 100000
set_option linter.unusedVariables false

/-- block g is a table of m integers, F tells which -/
structure Tb (w wr : World) (g m : Nat) (F : Nat → Int) : Prop where
  cells : ∃ cur, wr.heap[g]? = some (.cells cur 3 (0, 0)) ∧ cur.size = m ∧ ∀ j, j < m → cur[j]? = some (.int .i64 (F j))
  lo : w.heap.size ≤ g
  bl : Below w.heap.size w wr
theorem Tb.lt {w wr : World} {g m : Nat} {F : Nat → Int} (h : Tb w wr g m F) : g < wr.heap.size := by
  obtain ⟨cur, hh, _⟩ := h.cells
  rcases Nat.lt_or_ge g wr.heap.size with h | h
  · exact h
  · rw [Array.getElem?_eq_none h] at hh; cases hh
theorem Tb.get {w wr : World} {g m : Nat} {F : Nat → Int} (h : Tb w wr g m F) {j : Nat} (hj : j < m) : wr.cell? ⟨g, j, none⟩ = some (.int .i64 (F j)) := by
  obtain ⟨cur, hh, hsz, hc⟩ := h.cells
  simp [World.cell?, hh, hc j hj]
theorem Tb.free {w wr : World} {g m : Nat} {F : Nat → Int} (h : Tb w wr g m F) (o : Nat) : wr.frozen? ⟨g, o, none⟩ = false := by
  obtain ⟨cur, hh, _⟩ := h.cells
  simp [World.frozen?, hh]
theorem Tb.congr {w wr : World} {g m : Nat} {F G : Nat → Int} (h : Tb w wr g m F) (e : ∀ j, j < m → F j = G j) : Tb w wr g m G := by
  obtain ⟨⟨cur, hh, hsz, hc⟩, hlo, hb⟩ := h
  exact ⟨⟨cur, hh, hsz, fun j hj => by rw [hc j hj, e j hj]⟩, hlo, hb⟩
theorem Tb.below {w wr w2 : World} {g m : Nat} {F : Nat → Int} (h : Tb w wr g m F) (hb : Below wr.heap.size wr w2) : Tb w w2 g m F := by
  have hlt := h.lt
  obtain ⟨⟨cur, hh, hsz, hc⟩, hlo, hb0⟩ := h
  exact ⟨⟨cur, (hb.block g hlt).trans hh, hsz, hc⟩, hlo, bl_step hb0 hb⟩
theorem Tb.drewN {w wr : World} {g m : Nat} {F : Nat → Int} (h : Tb w wr g m F) (n : Nat) : Tb w (wr.drewN n) g m F := h.below (bl_drewN (Below.refl _ _) n)
theorem Tb.set {w wr : World} {g m : Nat} {F : Nat → Int} (h : Tb w wr g m F) {j : Nat} (hj : j < m) (x : Int) : Tb w (wr.setCell ⟨g, j, none⟩ (.int .i64 x)) g m (fun i => if i = j then x else F i) := by
  obtain ⟨⟨cur, hh, hsz, hc⟩, hlo, hb0⟩ := h
  refine ⟨⟨cur.setIfInBounds j (.int .i64 x), by simp [World.setCell, Array.getElem?_modify, hh], by simp [hsz], fun i hi => ?_⟩, hlo, hb0.setCell hlo _⟩
  rw [Array.getElem?_setIfInBounds]
  by_cases e : j = i
  · subst e; simp [hsz, hj]
  · rw [if_neg e, hc i hi, if_neg (fun h => e h.symm)]
theorem Tb.row {w wr : World} {g m : Nat} {F : Nat → Int} (h : Tb w wr g m F) (hm : m ≤ maxLen) : IRow wr w.heap.size wr.heap.size (.slice (some ⟨g, 0, none⟩) m m) ((List.range m).map F) := by
  have hlt := h.lt
  obtain ⟨⟨cur, hh, hsz, hc⟩, hlo, hb0⟩ := h
  refine ⟨⟨by simp, .inr ⟨g, m, cur, by simp, hlo, hh, by simp, hm, by simpa using hsz, ?_⟩⟩, fun b hb => ?_⟩
  · apply List.ext_getElem?
    intro i
    by_cases hi : i < m
    · rw [List.getElem?_take_of_lt (by simpa using hi), Array.getElem?_toList, hc i hi]
      simp [hi]
    · rw [List.getElem?_eq_none (by simp; omega), List.getElem?_eq_none (by simp; omega)]
  · have : b = g := by simpa [Value.ownBlock] using hb.symm
    omega
theorem Tb.made {w w1 : World} {base m : Nat} (hb : Below w.heap.size w w1) (hlo : w.heap.size ≤ base) (hown : w1.ownsRow base 3 1 (.slice (some ⟨base, 0, none⟩) m m) m (madeCells #[Value.int .i64 0] m).toList) : Tb w w1 base m (fun _ => 0) := by
  obtain ⟨hl, h1 | ⟨g, cap, cur, hv, _, hh, _, _, hsz, htk⟩⟩ := hown
  · cases h1.1
  · injection hv with hv1 _ hv2
    injection hv1 with hv1
    injection hv1 with hv1
    subst hv1 hv2
    rw [Nat.mul_one] at hsz htk
    refine ⟨⟨cur, hh, hsz, fun j hj => ?_⟩, hlo, hb⟩
    have e : (cur.toList.take m)[j]? = (madeCells #[Value.int .i64 0] m).toList[j]? := by rw [htk]
    rw [List.getElem?_take_of_lt hj, Array.getElem?_toList] at e
    rw [e]
    simp [madeCells, hj, Nat.mod_one]

theorem many_next {fs : List Fm} {s : List Int} {p k : Nat} {f : Fm} (hf : fs[k]? = some f) (h0 : 0 < f.1.length) (h : mt s p f.1 = true) : (Rk fs s p (k + 1)).many = (Rk fs s p k).many + (R fs s (p + f.1.length)).many := by
  rw [Rk_succ, stR_yes _ hf h0 h]
  by_cases hm : 0 < (R fs s (p + f.1.length)).many
  · rw [addK_yes hm]; rfl
  · rw [addK_no (by omega)]; omega
theorem R_small {fs : List Fm} {s : List Int} {p : Nat} (hv : fv fs = true) (hs : s.length ≤ 23) (hp : p ≤ s.length) : (R fs s p).many ≤ 8388608 := by
  have h1 := R_many (s := s) hv _ p rfl hp
  have h2 : 2 ^ (s.length - p) ≤ 2 ^ 23 := Nat.pow_le_pow_right (by omega) (by omega)
  omega
/-- the model's table behind place q, and at the place ahead of it with k formulas -/
def wyA (fs : List Fm) (s : List Int) (q : Nat) (j : Nat) : Int := if q ≤ j then ((R fs s j).many : Int) else 0
def wyB (fs : List Fm) (s : List Int) (p k : Nat) (j : Nat) : Int := if p < j then ((R fs s j).many : Int) else if j = p then ((Rk fs s p k).many : Int) else 0
theorem wyA_start (fs : List Fm) (s : List Int) : ∀ j, j < s.length + 1 → (if j = s.length then (1 : Int) else 0) = wyA fs s s.length j := by
  intro j hj
  unfold wyA
  by_cases h : j = s.length
  · subst h; rw [if_pos rfl, if_pos (Nat.le_refl _), R_ge (by omega)]; rfl
  · rw [if_neg h, if_neg (by omega)]
theorem wyB_start (fs : List Fm) (s : List Int) (p : Nat) : ∀ j, wyA fs s (p + 1) j = wyB fs s p 0 j := by
  intro j
  unfold wyA wyB
  by_cases h : p < j
  · rw [if_pos (by omega), if_pos h]
  · rw [if_neg (by omega), if_neg h]
    split
    · rfl
    · rfl
theorem wyB_end {fs : List Fm} {s : List Int} {p : Nat} (hp : p < s.length) : ∀ j, wyB fs s p fs.length j = wyA fs s p j := by
  intro j
  unfold wyA wyB
  by_cases h : p < j
  · rw [if_pos h, if_pos (by omega)]
  · rw [if_neg h]
    by_cases e : j = p
    · subst e; rw [if_pos rfl, if_pos (Nat.le_refl _), R_lt hp]
    · rw [if_neg e, if_neg (by omega)]
theorem wyB_no {fs : List Fm} {s : List Int} {p k : Nat} {f : Fm} (hf : fs[k]? = some f) (h : mt s p f.1 = false) : ∀ j, wyB fs s p k j = wyB fs s p (k + 1) j := by
  intro j
  unfold wyB
  rw [Rk_succ, stR_no _ hf h]
theorem wyB_at {fs : List Fm} {s : List Int} {p k : Nat} : wyB fs s p k p = ((Rk fs s p k).many : Int) := by unfold wyB; rw [if_neg (by omega), if_pos rfl]
theorem wyB_far {fs : List Fm} {s : List Int} {p k j : Nat} (h : p < j) : wyB fs s p k j = ((R fs s j).many : Int) := by unfold wyB; rw [if_pos h]
theorem wyB_yes {fs : List Fm} {s : List Int} {p k : Nat} {f : Fm} (hf : fs[k]? = some f) (h0 : 0 < f.1.length) (h : mt s p f.1 = true) : ∀ j, (if j = p then ((Rk fs s p k).many : Int) + ((R fs s (p + f.1.length)).many : Int) else wyB fs s p k j) = wyB fs s p (k + 1) j := by
  intro j
  unfold wyB
  by_cases e : j = p
  · subst e; rw [if_pos rfl, if_neg (by omega), if_pos rfl, many_next hf h0 h]; omega
  · rw [if_neg e, if_neg e, if_neg e]

set_option maxHeartbeats 4000000 in
theorem l6fWays_any (v u : Value) (fs : List Fm) (s : List Int) (hok : fok fs s = true) (w : World) (h : FV w v fs) (k : IV w u s) :
    Calls Try.prog 38 #[v, u] w fun e w' => ∃ x, e = .returned x ∧ IRow w' w.heap.size w'.heap.size x ((List.range (s.length + 1)).map (fun j => ((R fs s j).many : Int))) ∧ Below w.heap.size w w' := by
  obtain ⟨hv, hs⟩ := fok_parts hok
  have HVV := Lib.hid hv
  have HK := Lib.hid k
  clear hv hok
  obtain ⟨i0, hi, hq0, hq1, hq2⟩ := info_parts infoIntI
  obtain ⟨a, c, rfl, ha, hc1, hc2⟩ := h
  obtain ⟨a', c', rfl, ha', hc1', hc2'⟩ := k
  unfold maxLen at hc2 hc2'
  have HA := Lib.hid ha
  clear ha ha'
  go_enter Try.func38, Try.ntmps38
  go_wp2_with (at_make; refine wpList_make_full _ rfl _ _ 23 rfl w.heap.size 3 i0 (.int .i64 0) 1 Try.underlying23 hi hq0 hq1 _ _ _ _ (s.length + 1) rfl (by first | rfl | simp) rfl rfl ?c1 ?c2 ?c3 ?_)
  case c1 => rw [hq2]; omega
  case c2 => unfold maxLen; omega
  case c3 => exact Nat.le_refl _
  intro w1 hown hg
  have hb1 : Below w.heap.size w w1 := ⟨hg.os, hg.tape, hg.output, hg.size, fun i hi => hg.block i hi (fun e => by cases e)⟩
  have hT0 := Tb.made hb1 (Nat.le_refl _) hown
  have d0 := hT0.get (j := s.length) (by omega)
  have d1 := hT0.free
  have hT1 := (hT0.set (j := s.length) (by omega) 1).congr (wyA_start fs s)
  have H0 := Lib.hid hT1
  clear hown hg hT0 hT1 hb1
  go_wp2
  go_loopw [7] (fun i wr => ∃ (q : Nat) (z : Int), q ≤ s.length ∧ i = .int .i64 z ∧ z = (q : Int) - 1 ∧ Tb w wr w.heap.size (s.length + 1) (wyA fs s q)) (fun i _ => (intOf i + 1).toNat)
  case atStart => exact ⟨s.length, _, Nat.le_refl _, rfl, rfl, H0.out⟩
  case round =>
    obtain ⟨q, z, hq, rfl, hz, hT⟩ := hrel
    have HT := Lib.hid hT
    clear hT d0 d1
    cases q with
    | zero =>
      have hz1 : decide (0 ≤ z) = false := decide_eq_false (by omega)
      have hrow := (HT.out.congr (G := fun j => ((R fs s j).many : Int)) (fun j hj => by unfold wyA; rw [if_pos (by omega)])).row (by unfold maxLen; omega)
      have HR := Lib.hid hrow
      have hb := HT.out.bl
      clear hrow
      go_wp2
      go_ret
      exact ⟨_, rfl, HR.out, hb⟩
    | succ p =>
      obtain rfl : z = (p : Int) := by omega
      have hz1 : decide (0 ≤ (p : Int)) = true := decide_eq_true (by omega)
      have hp0 : (0 : Int) ≤ (p : Int) := by omega
      clear hz
      have H1 := Lib.hid (HT.out.congr (fun j _ => wyB_start fs s p j))
      go_wp2
      go_loopw [8] (fun i wr' => ∃ k : Nat, k ≤ fs.length ∧ i = .int .i64 k ∧ Tb w wr' w.heap.size (s.length + 1) (wyB fs s p k)) (fun i _ => fs.length - (intOf i).toNat)
      case atStart => exact ⟨0, Nat.zero_le _, rfl, H1.out⟩
      case round =>
        rename_i wz
        obtain ⟨k, hk, rfl, hTk⟩ := hrel
        have HTk := Lib.hid hTk
        have hb := hTk.bl
        clear hTk
        by_cases hlt : k < fs.length
        · obtain ⟨xs, wt, hx⟩ := fs_get hlt
          have hxl := fo_len (fv_fo HVV.out hx)
          simp only at hxl
          rcases HA.out with h | ⟨A, off, rfl, hA, hc⟩
          · subst h; simp at hlt
          obtain ⟨x, e1, hu, e2⟩ := hc k _ hx
          have e1 := (hb.cell (p := ⟨A, off + k * 2, none⟩) hA).trans e1
          have e2 := (hb.cell (p := ⟨A, off + k * 2 + 1, none⟩) hA).trans e2
          have HL := Lib.hid (fun w' (hb' : Below w.heap.size w w') => l6fAt_any x _ xs s wt p hxl.1 hxl.2 (by omega) hs w' (hu.below hb') (HK.out.below hb'))
          have hk0 : (0 : Int) ≤ (k : Int) := by omega
          have hk1 : (k : Int) < (fs.length : Int) := by omega
          have HX := Lib.hid hx
          obtain ⟨xa, xc, rfl, _, _, _⟩ := hu
          clear hc hx
          cases hm : mt s p xs with
          | false =>
            rw [hm] at HL
            have HN := Lib.hid (wyB_no (p := p) HX.out hm)
            clear hm
            go_wp2_with (fail)
            (go_at_call 39; refine (HL.out _ hb).mono ?_; rintro e w2 ⟨rfl, hb2⟩)
            have HT2 := Lib.hid ((HTk.out.below hb2).congr (fun j _ => HN.out j))
            go_wp2
            go_roundw
            case rel => exact ⟨k + 1, by omega, by go_num, HT2.out⟩
            case measure => simp [intOf]; omega
          | true =>
            rw [hm] at HL
            have hle := mt_le hm
            have HY := Lib.hid (wyB_yes (p := p) HX.out hxl.1 hm)
            have hsm : (Rk fs s p k).many + (R fs s (p + xs.length)).many ≤ 8388608 := by
              have h1 := many_next HX.out hxl.1 hm
              have h2 := byl_mono (k := k + 1) (s := s) (p := p) (by omega) HVV.out (by omega)
              have h3 := R_small (s := s) (p := p) HVV.out hs (by omega)
              simp only at h1
              omega
            clear hm
            simp only at HY
            go_wp2_with (fail)
            (go_at_call 39; refine (HL.out _ hb).mono ?_; rintro e w2 ⟨rfl, hb2⟩)
            have hT2 := HTk.out.below hb2
            have c1 := hT2.get (j := p) (by omega)
            have c2 := hT2.get (j := p + xs.length) (by omega)
            have c3 := hT2.free
            rw [wyB_at] at c1
            rw [wyB_far (by omega)] at c2
            have f1 := (hb2.cell (p := ⟨A, off + k * 2, none⟩) (Nat.lt_of_lt_of_le hA hb.size)).trans e1
            have HT2 := Lib.hid (((hT2.set (j := p) (by omega) ((((Rk fs s p k).many : Int)) + ((R fs s (p + xs.length)).many : Int)))).congr (fun j _ => HY.out j))
            clear hT2 e1 e2
            have j1 : (p : Int) + (xs.length : Int) < ((s.length + 1 : Nat) : Int) := by omega
            have j2 : (p : Int) < ((s.length + 1 : Nat) : Int) := by omega
            have j3 : (p : Int) + (xs.length : Int) < (s.length : Int) + 1 := by omega
            have j4 : (p : Int) < (s.length : Int) + 1 := by omega
            have j5 : (0 : Int) ≤ (p : Int) + (xs.length : Int) := by omega
            generalize (Rk fs s p k).many = m1 at *
            generalize (R fs s (p + xs.length)).many = m2 at *
            go_wp2
            go_region
            all_goals
              go_wp2
              go_roundw
              case rel => exact ⟨k + 1, by omega, by go_num, HT2.out.below (bl_drewN (Below.refl _ _) 1)⟩
              case measure => simp [intOf]; omega
        · have hkn : k = fs.length := by omega
          subst hkn
          have HE := Lib.hid (HTk.out.congr (fun j _ => wyB_end (fs := fs) (s := s) (p := p) (by omega) j))
          go_wp2
          go_roundw
          case rel => exact ⟨p, _, by omega, rfl, rfl, HE.out⟩
          case measure => first | (simp [intOf]; done) | (simp [intOf]; omega)
end Go.Proofs.Ytjhigjbfnemdjaa
