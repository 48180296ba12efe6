/-
  The model's table of the least weights, or of the fewest formulas.
-/
import Derived.Test.YtjhigjbfnemdjaaTb
namespace Go.Proofs.Ytjhigjbfnemdjaa
open Go.RowKit
set_option maxRecDepth 100000
set_option linter.unusedVariables false

/-- the least weight (or the fewest formulas), or -1 -/
def lst (one : Bool) (r : Rs) : Int := bif decide (r.many = 0) then -1 else (bif one then r.few else r.wt)
theorem lst_none {one : Bool} {r : Rs} (h : r.many = 0) : lst one r = -1 := by unfold lst; rw [decide_eq_true h]; rfl
theorem lst_some {one : Bool} {r : Rs} (h : 0 < r.many) : lst one r = bif one then r.few else r.wt := by unfold lst; rw [decide_eq_false (by omega)]; rfl
theorem lst_ge {one : Bool} {r : Rs} {d n : Nat} (k : r.Ok d n) (h : 0 < r.many) : 0 ≤ lst one r ∧ lst one r ≤ 9 * d := by
  rw [lst_some h]
  have h1 := k.few0; have h2 := k.few1; have h3 := k.wt0; have h4 := k.wt1
  cases one <;> simp <;> omega
theorem lst_lo {one : Bool} {r : Rs} {d n : Nat} (k : r.Ok d n) : -1 ≤ lst one r ∧ lst one r ≤ 9 * d := by
  by_cases h : r.many = 0
  · rw [lst_none h]; omega
  · have := lst_ge (one := one) k (by omega); omega
theorem lst_add {one : Bool} {acc r : Rs} {k : Nat} {z : Int} (h : 0 < r.many) (hl : acc.many = 0 ∨ lst one r + (bif one then 1 else z) < lst one acc) : lst one (addR acc (behR k z r)) = lst one r + (bif one then 1 else z) := by
  have hm : 0 < (addR acc (behR k z r)).many := by show 0 < acc.many + r.many; omega
  rw [lst_some hm, lst_some h]
  rw [lst_some h] at hl
  cases one with
  | true =>
    have : lessR acc (r.few + 1) acc.few = true := by
      unfold lessR
      rcases hl with hl | hl
      · simp [hl]
      · by_cases h0 : acc.many = 0
        · simp [h0]
        · rw [lst_some (by omega)] at hl
          simp at hl
          simp [hl]
    simp [addR, behR, this]
  | false =>
    have : lessR acc (r.wt + z) acc.wt = true := by
      unfold lessR
      rcases hl with hl | hl
      · simp [hl]
      · by_cases h0 : acc.many = 0
        · simp [h0]
        · rw [lst_some (by omega)] at hl
          simp at hl
          simp [hl]
    simp [addR, behR, this]
theorem lst_keep {one : Bool} {acc r : Rs} {k : Nat} {z : Int} (h : 0 < r.many) (h0 : 0 < acc.many) (hl : ¬ lst one r + (bif one then 1 else z) < lst one acc) : lst one (addR acc (behR k z r)) = lst one acc := by
  have hm : 0 < (addR acc (behR k z r)).many := by show 0 < acc.many + r.many; omega
  rw [lst_some hm, lst_some h0]
  rw [lst_some h, lst_some h0] at hl
  cases one with
  | true =>
    have : lessR acc (r.few + 1) acc.few = false := by
      unfold lessR
      simp at hl
      simp; omega
    simp [addR, behR, this]
  | false =>
    have : lessR acc (r.wt + z) acc.wt = false := by
      unfold lessR
      simp at hl
      simp; omega
    simp [addR, behR, this]
def lsA (one : Bool) (fs : List Fm) (s : List Int) (q : Nat) (j : Nat) : Int := if q ≤ j then lst one (R fs s j) else 0
def lsB (one : Bool) (fs : List Fm) (s : List Int) (p k : Nat) (j : Nat) : Int := if p < j then lst one (R fs s j) else if j = p then lst one (Rk fs s p k) else 0
theorem lsA_start (one : Bool) (fs : List Fm) (s : List Int) : ∀ j, j < s.length + 1 → (0 : Int) = lsA one fs s s.length j := by
  intro j hj
  unfold lsA
  by_cases h : j = s.length
  · subst h; rw [if_pos (Nat.le_refl _), R_ge (by omega)]; cases one <;> rfl
  · rw [if_neg (by omega)]
theorem lsB_start (one : Bool) (fs : List Fm) (s : List Int) (p : Nat) : ∀ j, (if j = p then (-1 : Int) else lsA one fs s (p + 1) j) = lsB one fs s p 0 j := by
  intro j
  unfold lsA lsB
  by_cases h : p < j
  · rw [if_neg (by omega), if_pos (by omega), if_pos h]
  · rw [if_neg h]
    by_cases e : j = p
    · rw [if_pos e, if_pos e]; rfl
    · rw [if_neg e, if_neg e, if_neg (by omega)]
theorem lsB_end {one : Bool} {fs : List Fm} {s : List Int} {p : Nat} (hp : p < s.length) : ∀ j, lsB one fs s p fs.length j = lsA one fs s p j := by
  intro j
  unfold lsA lsB
  by_cases h : p < j
  · rw [if_pos h, if_pos (by omega)]
  · rw [if_neg h]
    by_cases e : j = p
    · subst e; rw [if_pos rfl, if_pos (Nat.le_refl _), R_lt hp]
    · rw [if_neg e, if_neg (by omega)]
theorem lsB_at {one : Bool} {fs : List Fm} {s : List Int} {p k : Nat} : lsB one fs s p k p = lst one (Rk fs s p k) := by unfold lsB; rw [if_neg (by omega), if_pos rfl]
theorem lsB_far {one : Bool} {fs : List Fm} {s : List Int} {p k j : Nat} (h : p < j) : lsB one fs s p k j = lst one (R fs s j) := by unfold lsB; rw [if_pos h]
theorem lsB_same {one : Bool} {fs : List Fm} {s : List Int} {p k : Nat} (h : lst one (Rk fs s p (k + 1)) = lst one (Rk fs s p k)) : ∀ j, lsB one fs s p k j = lsB one fs s p (k + 1) j := by
  intro j
  unfold lsB
  rw [h]
theorem lsB_new {one : Bool} {fs : List Fm} {s : List Int} {p k : Nat} {x : Int} (h : lst one (Rk fs s p (k + 1)) = x) : ∀ j, (if j = p then x else lsB one fs s p k j) = lsB one fs s p (k + 1) j := by
  intro j
  unfold lsB
  rw [h]
  by_cases e : j = p
  · subst e; rw [if_pos rfl, if_neg (by omega), if_pos rfl]
  · rw [if_neg e, if_neg e, if_neg e]

set_option maxHeartbeats 8000000 in
theorem l6fLeast_any (v u : Value) (fs : List Fm) (s : List Int) (one : Bool) (hok : fok fs s = true) (w : World) (h : FV w v fs) (k : IV w u s) :
    Calls Try.prog 79 #[v, u, .bool one] w fun e w' => ∃ x, e = .returned x ∧ IRow w' w.heap.size w'.heap.size x ((List.range (s.length + 1)).map (fun j => lst one (R fs s j))) ∧ Below w.heap.size w w' := by
  obtain ⟨hv, hs⟩ := fok_parts hok
  have HVV := Lib.hid hv
  have HK := Lib.hid k
  clear hv hok
  obtain ⟨i0, hi, hq0, hq1, hq2⟩ := info_parts infoIntI
  obtain ⟨a, c, rfl, ha, hc1, hc2⟩ := h
  obtain ⟨a', c', rfl, ha', hc1', hc2'⟩ := k
  unfold maxLen at hc2 hc2'
  have HA := Lib.hid ha
  clear ha ha'
  go_enter Try.func79, Try.ntmps79
  go_wp2_with (at_make; refine wpList_make_full _ rfl _ _ 23 rfl w.heap.size 3 i0 (.int .i64 0) 1 Try.underlying23 hi hq0 hq1 _ _ _ _ (s.length + 1) rfl (by first | rfl | simp) rfl rfl ?c1 ?c2 ?c3 ?_)
  case c1 => rw [hq2]; omega
  case c2 => unfold maxLen; omega
  case c3 => exact Nat.le_refl _
  intro w1 hown hg
  have hb1 : Below w.heap.size w w1 := ⟨hg.os, hg.tape, hg.output, hg.size, fun i hi => hg.block i hi (fun e => by cases e)⟩
  have H0 := Lib.hid ((Tb.made hb1 (Nat.le_refl _) hown).congr (lsA_start one fs s))
  clear hown hg hb1
  go_wp2
  go_loopw [9] (fun i wr => ∃ (q : Nat) (z : Int), q ≤ s.length ∧ i = .int .i64 z ∧ z = (q : Int) - 1 ∧ Tb w wr w.heap.size (s.length + 1) (lsA one fs s q)) (fun i _ => (intOf i + 1).toNat)
  case atStart => exact ⟨s.length, _, Nat.le_refl _, rfl, rfl, H0.out⟩
  case round =>
    obtain ⟨q, z, hq, rfl, hz, hT⟩ := hrel
    have HT := Lib.hid hT
    clear hT
    cases q with
    | zero =>
      have hz1 : decide (0 ≤ z) = false := decide_eq_false (by omega)
      have hrow := (HT.out.congr (G := fun j => lst one (R fs s j)) (fun j hj => by unfold lsA; rw [if_pos (by omega)])).row (by unfold maxLen; omega)
      have HR := Lib.hid hrow
      have hb := HT.out.bl
      clear hrow
      go_wp2
      go_ret
      exact ⟨_, rfl, HR.out, hb⟩
    | succ p =>
      obtain rfl : z = (p : Int) := by omega
      have hz1 : decide (0 ≤ (p : Int)) = true := decide_eq_true (by omega)
      have hp0 : (0 : Int) ≤ (p : Int) := by omega
      clear hz
      have p0 := HT.out.get (j := p) (by omega)
      have pf := HT.out.free
      have H1 := Lib.hid ((HT.out.set (j := p) (by omega) (-1)).congr (fun j _ => lsB_start one fs s p j))
      have j2 : (p : Int) < ((s.length + 1 : Nat) : Int) := by omega
      have j4 : (p : Int) < (s.length : Int) + 1 := by omega
      go_wp2
      clear p0 pf
      go_loopw [10] (fun i wr' => ∃ k : Nat, k ≤ fs.length ∧ i = .int .i64 k ∧ Tb w wr' w.heap.size (s.length + 1) (lsB one fs s p k)) (fun i _ => fs.length - (intOf i).toNat)
      case atStart => exact ⟨0, Nat.zero_le _, rfl, H1.out⟩
      case round =>
        rename_i wz
        obtain ⟨k, hk, rfl, hTk⟩ := hrel
        have HTk := Lib.hid hTk
        have hb := hTk.bl
        clear hTk
        by_cases hlt : k < fs.length
        · obtain ⟨xs, wt, hx⟩ := fs_get hlt
          have hxo := fo_parts (fv_fo HVV.out hx)
          simp only at hxo
          rcases HA.out with h | ⟨A, off, rfl, hA, hc⟩
          · subst h; simp at hlt
          obtain ⟨x, e1, hu, e2⟩ := hc k _ hx
          have e1 := (hb.cell (p := ⟨A, off + k * 2, none⟩) hA).trans e1
          have e2 := (hb.cell (p := ⟨A, off + k * 2 + 1, none⟩) hA).trans e2
          have HL := Lib.hid (fun w' (hb' : Below w.heap.size w w') => l6fAt_any x _ xs s wt p hxo.1 hxo.2.2.1 (by omega) hs w' (hu.below hb') (HK.out.below hb'))
          have hk0 : (0 : Int) ≤ (k : Int) := by omega
          have hk1 : (k : Int) < (fs.length : Int) := by omega
          have HX := Lib.hid hx
          obtain ⟨xa, xc, rfl, _, _, _⟩ := hu
          clear hc hx
          cases hm : mt s p xs with
          | false =>
            rw [hm] at HL
            have hN0 : Rk fs s p (k + 1) = Rk fs s p k := by rw [Rk_succ, stR_no _ HX.out hm]
            have HN := Lib.hid hN0
            clear hN0
            clear hm
            go_wp2_with (fail)
            (go_at_call 39; refine (HL.out _ hb).mono ?_; rintro e w2 ⟨rfl, hb2⟩)
            have HT2 := Lib.hid ((HTk.out.below hb2).congr (fun j _ => lsB_same (by rw [HN.out]) j))
            go_wp2
            go_roundw
            case rel => exact ⟨k + 1, by omega, by go_num, HT2.out⟩
            case measure => simp [intOf]; omega
          | true =>
            rw [hm] at HL
            have hle := mt_le hm
            have hst : Rk fs s p (k + 1) = addK k wt (Rk fs s p k) (R fs s (p + xs.length)) := by rw [Rk_succ, stR_yes _ HX.out hxo.1 hm]
            have hokq := R_ok (s := s) HVV.out _ (p + xs.length) rfl hle
            have hokk := Rk_ok (s := s) (p := p) HVV.out (by omega) (fun q h1 h2 => R_ok HVV.out _ q rfl h2) k hk
            have hq1 := lst_lo (one := one) hokq
            have hq2 := lst_lo (one := one) hokk
            clear hm
            go_wp2_with (fail)
            (go_at_call 39; refine (HL.out _ hb).mono ?_; rintro e w2 ⟨rfl, hb2⟩)
            have hT2 := HTk.out.below hb2
            have c1 := hT2.get (j := p) (by omega)
            have c2 := hT2.get (j := p + xs.length) (by omega)
            have c3 := hT2.free
            rw [lsB_at] at c1
            rw [lsB_far (by omega)] at c2
            have f1 := (hb2.cell (p := ⟨A, off + k * 2, none⟩) (Nat.lt_of_lt_of_le hA hb.size)).trans e1
            have f2 := (hb2.cell (p := ⟨A, off + k * 2 + 1, none⟩) (Nat.lt_of_lt_of_le hA hb.size)).trans e2
            have j1 : (p : Int) + (xs.length : Int) < ((s.length + 1 : Nat) : Int) := by omega
            have j3 : (p : Int) + (xs.length : Int) < (s.length : Int) + 1 := by omega
            have j5 : (0 : Int) ≤ (p : Int) + (xs.length : Int) := by omega
            clear e1 e2
            by_cases hm0 : (R fs s (p + xs.length)).many = 0
            · have hR : lst one (R fs s (p + xs.length)) = -1 := lst_none hm0
              have hN : Rk fs s p (k + 1) = Rk fs s p k := by rw [hst, addK_no hm0]
              have HT2 := Lib.hid (hT2.congr (fun j _ => lsB_same (by rw [hN]) j))
              rw [hR] at c2
              clear hT2 hst hN hR hm0 hokq hokk hq1
              go_wp2
              go_roundw
              case rel => exact ⟨k + 1, by omega, by go_num, HT2.out⟩
              case measure => simp [intOf]; omega
            · have hR0 := lst_ge (one := one) hokq (by omega)
              have hst2 : Rk fs s p (k + 1) = addR (Rk fs s p k) (behR k wt (R fs s (p + xs.length))) := by rw [hst, addK_yes (by omega)]
              have HT := Lib.hid hT2
              have t5 : decide (lst one (R fs s (p + xs.length)) < 0) = false := decide_eq_false (by omega)
              have HADD : Hid ((Rk fs s p k).many = 0 ∨ lst one (R fs s (p + xs.length)) + (bif one then 1 else wt) < lst one (Rk fs s p k) → ∀ j, (if j = p then lst one (R fs s (p + xs.length)) + (bif one then 1 else wt) else lsB one fs s p k j) = lsB one fs s p (k + 1) j) := fun hl => lsB_new (by rw [hst2]; exact lst_add (by omega) hl)
              have HKEEP : Hid (0 < (Rk fs s p k).many → ¬ lst one (R fs s (p + xs.length)) + (bif one then 1 else wt) < lst one (Rk fs s p k) → ∀ j, lsB one fs s p k j = lsB one fs s p (k + 1) j) := fun h0 hl => lsB_same (by rw [hst2]; exact lst_keep (by omega) h0 hl)
              have hneg : (Rk fs s p k).many = 0 → lst one (Rk fs s p k) = -1 := fun h => lst_none h
              have hpos : 0 < (Rk fs s p k).many → 0 ≤ lst one (Rk fs s p k) := fun h => (lst_ge (one := one) hokk h).1
              have hwt := hxo.2.2.2
              clear hT2 hst hst2 hm0 hokq hokk
              by_cases hm1 : (Rk fs s p k).many = 0
              · have hL := hneg hm1
                have HAD := Lib.hid (HADD.out (.inl hm1))
                rw [hL] at c1
                clear hneg hpos hL HADD HKEEP hm1
                generalize lst one (R fs s (p + xs.length)) = L2 at *
                cases one with
                | true =>
                  have HT3 := Lib.hid ((HT.out.set (j := p) (by omega) (L2 + 1)).congr (fun j _ => HAD.out j))
                  go_wp2
                  go_quiet (fail)
                  go_wp2
                  go_roundw
                  case rel => exact ⟨k + 1, by omega, by go_num, HT3.out.below (bl_drewN (Below.refl _ _) _)⟩
                  case measure => simp [intOf]; omega
                | false =>
                  have HT3 := Lib.hid ((HT.out.set (j := p) (by omega) (L2 + wt)).congr (fun j _ => HAD.out j))
                  go_wp2
                  go_quiet (fail)
                  go_wp2
                  go_roundw
                  case rel => exact ⟨k + 1, by omega, by go_num, HT3.out.below (bl_drewN (Below.refl _ _) _)⟩
                  case measure => simp [intOf]; omega
              · have hL := hpos (by omega)
                have hm2 : 0 < (Rk fs s p k).many := by omega
                by_cases hcmp : lst one (R fs s (p + xs.length)) + (bif one then 1 else wt) < lst one (Rk fs s p k)
                · have HAD := Lib.hid (HADD.out (.inr hcmp))
                  clear hneg hpos HADD HKEEP hm1 hm2
                  generalize lst one (R fs s (p + xs.length)) = L2 at *
                  generalize lst one (Rk fs s p k) = L1 at *
                  cases one with
                  | true =>
                    have HT3 := Lib.hid ((HT.out.set (j := p) (by omega) (L2 + 1)).congr (fun j _ => HAD.out j))
                    have t6 : decide (L1 < 0) = false := decide_eq_false (by omega)
                    have t7 : decide (L2 + 1 < L1) = true := decide_eq_true (by simpa using hcmp)
                    go_wp2
                    go_quiet (fail)
                    go_wp2
                    go_roundw
                    case rel => exact ⟨k + 1, by omega, by go_num, HT3.out.below (bl_drewN (Below.refl _ _) _)⟩
                    case measure => simp [intOf]; omega
                  | false =>
                    have HT3 := Lib.hid ((HT.out.set (j := p) (by omega) (L2 + wt)).congr (fun j _ => HAD.out j))
                    have t6 : decide (L1 < 0) = false := decide_eq_false (by omega)
                    have t7 : decide (L2 + wt < L1) = true := decide_eq_true (by simpa using hcmp)
                    go_wp2
                    go_quiet (fail)
                    go_wp2
                    go_roundw
                    case rel => exact ⟨k + 1, by omega, by go_num, HT3.out.below (bl_drewN (Below.refl _ _) _)⟩
                    case measure => simp [intOf]; omega
                · have HAD := Lib.hid (HKEEP.out hm2 hcmp)
                  clear hneg hpos HADD HKEEP hm1 hm2
                  generalize lst one (R fs s (p + xs.length)) = L2 at *
                  generalize lst one (Rk fs s p k) = L1 at *
                  cases one with
                  | true =>
                    have HT3 := Lib.hid (HT.out.congr (fun j _ => HAD.out j))
                    have t6 : decide (L1 < 0) = false := decide_eq_false (by omega)
                    have t7 : decide (L2 + 1 < L1) = false := decide_eq_false (by simpa using hcmp)
                    go_wp2
                    go_quiet (fail)
                    go_wp2
                    go_roundw
                    case rel => exact ⟨k + 1, by omega, by go_num, HT3.out.drewN _⟩
                    case measure => simp [intOf]; omega
                  | false =>
                    have HT3 := Lib.hid (HT.out.congr (fun j _ => HAD.out j))
                    have t6 : decide (L1 < 0) = false := decide_eq_false (by omega)
                    have t7 : decide (L2 + wt < L1) = false := decide_eq_false (by simpa using hcmp)
                    go_wp2
                    go_quiet (fail)
                    go_wp2
                    go_roundw
                    case rel => exact ⟨k + 1, by omega, by go_num, HT3.out.drewN _⟩
                    case measure => simp [intOf]; omega
        · have hkn : k = fs.length := by omega
          subst hkn
          have HE := Lib.hid (HTk.out.congr (fun j _ => lsB_end (fs := fs) (s := s) (p := p) (by omega) j))
          go_wp2
          go_roundw
          case rel => exact ⟨p, _, by omega, rfl, rfl, HE.out⟩
          case measure => first | (simp [intOf]; done) | (simp [intOf]; omega)
end Go.Proofs.Ytjhigjbfnemdjaa
