/-
  Does a list sing a melody? In both programs.
-/
import Derived.Test.YthnofdkkocpjhaaDoorMelV
import Derived.Test.YthnofdkkocpjhaaDoorHexs
import Derived.Test.YthnofdkkocpjhaaDoorInts
import Derived.IntWalk
namespace Go.Proofs.YthnofdkkocpjhaaDoor
open Go.RowKit
set_option maxRecDepth 100000
set_option linter.unusedVariables false

/-- the first k tones have their syllables -/
def sung (xs : List (Int × Bool)) (zs : List Int) (k : Nat) : Bool :=
  (List.range k).all fun i => decide (0 ≤ hsy (zs.getD i 0) (xs.getD i (0, false)).1 (xs.getD i (0, false)).2)
def sok (xs : List (Int × Bool)) (zs : List Int) : Bool := mv xs && decide (zs.length = xs.length) && sung xs zs xs.length
theorem sok_no1 {xs : List (Int × Bool)} {zs : List Int} (h : mv xs = false) : sok xs zs = false := by simp [sok, h]
theorem sok_no2 {xs : List (Int × Bool)} {zs : List Int} (h : zs.length ≠ xs.length) : sok xs zs = false := by simp [sok, h]
theorem sok_no3 {xs : List (Int × Bool)} {zs : List Int} {k : Nat} {t : Int × Bool} (ht : xs[k]? = some t) (h : hsy (zs.getD k 0) t.1 t.2 < 0) : sok xs zs = false := by
  have hk : k < xs.length := (List.getElem?_eq_some_iff.1 ht).1
  have : sung xs zs xs.length = false := by
    unfold sung
    rw [List.all_eq_false]
    refine ⟨k, by simpa using hk, ?_⟩
    simp [List.getD_eq_getElem?_getD, ht] at h ⊢
    exact h
  simp [sok, this]
theorem sok_yes {xs : List (Int × Bool)} {zs : List Int} (h1 : mv xs = true) (h2 : zs.length = xs.length) (h3 : sung xs zs xs.length = true) : sok xs zs = true := by simp [sok, h1, h2, h3]
theorem sung_snoc {xs : List (Int × Bool)} {zs : List Int} {k : Nat} {t : Int × Bool} (ht : xs[k]? = some t) (h : sung xs zs k = true) (g : 0 ≤ hsy (zs.getD k 0) t.1 t.2) : sung xs zs (k + 1) = true := by
  unfold sung at h ⊢
  rw [List.range_succ, List.all_append, h]
  simp [List.getD_eq_getElem?_getD, ht] at g ⊢
  exact g

set_option maxHeartbeats 4000000 in
set_option maxRecDepth 100000 in
theorem sSingOk_any (lo hi lo' hi' : Nat) (v u : Value) (xs : List (Int × Bool)) (zs : List Int) (w : World) (h : TRow w lo hi v xs) (k : IRow w lo' hi' u zs) :
    Calls Tryd.prog 35 #[v, u] w fun e w' => e = .returned (.bool (sok xs zs)) ∧ Below w.heap.size w w' := by
  obtain ⟨ua, uc, hu⟩ : ∃ a c, u = .slice a zs.length c := by
    rcases k.form with ⟨rfl, rfl⟩ | ⟨g, cap, cur, rfl, _⟩
    · exact ⟨none, 0, rfl⟩
    · exact ⟨_, _, rfl⟩
  by_cases hv : mv xs = false
  · rw [sok_no1 hv]
    clear hu
    go_enter Tryd.func35, Tryd.ntmps35
    go_wp2_with (fail)
    (go_at_call 24; refine (sMelodyValid_any lo hi v xs _ h).mono ?_; rintro e w1 ⟨rfl, hb1⟩)
    clear h k
    go_wp2
    go_ret
    exact ⟨rfl, hb1⟩
  rw [Bool.not_eq_false] at hv
  have hlx : xs.length ≤ 24 := by simp [mv] at hv; exact hv.1
  obtain ⟨va, vc, hvv⟩ : ∃ a c, v = .slice a xs.length c := by
    rcases h.form with ⟨rfl, rfl⟩ | ⟨g, cap, rfl, _⟩
    · exact ⟨none, 0, rfl⟩
    · exact ⟨_, _, rfl⟩
  by_cases hl : zs.length = xs.length
  case neg =>
    rw [sok_no2 hl]
    have hl' : ((zs.length : Int) != (xs.length : Int)) = true := by simp; omega
    subst hu hvv
    clear hl
    go_enter Tryd.func35, Tryd.ntmps35
    go_wp2_with (fail)
    (go_at_call 24; refine (sMelodyValid_any lo hi _ xs _ h).mono ?_; rintro e w1 ⟨rfl, hb1⟩)
    clear h k
    go_wp2
    go_ret
    exact ⟨rfl, hb1⟩
  have hl' : ((zs.length : Int) != (xs.length : Int)) = false := by simp; omega
  have HY : Hid (sung xs zs xs.length = true → sok xs zs = true) := fun h3 => sok_yes hv hl h3
  have HN : Hid (∀ j t, xs[j]? = some t → hsy (zs.getD j 0) t.1 t.2 < 0 → sok xs zs = false) := fun j t => sok_no3
  rcases h.form with ⟨rfl, rfl⟩ | ⟨g, cap, rfl, hg, hg2, hgs, hcap, hmax, hc⟩
  · have hz : zs = [] := List.eq_nil_of_length_eq_zero hl
    subst hz
    have HE := Lib.hid (HY.out rfl)
    subst hu
    clear hvv HY HN hl hl'
    go_enter Tryd.func35, Tryd.ntmps35
    go_wp2_with (fail)
    (go_at_call 24; refine (sMelodyValid_any lo hi _ [] _ h).mono ?_; rintro e w1 ⟨rfl, hb1⟩)
    clear h k
    go_wp2
    go_rounds 1
    go_ret
    exact ⟨by rw [HE.out]; rfl, hb1⟩
  by_cases hx0 : xs.length = 0
  · have hxe : xs = [] := List.eq_nil_of_length_eq_zero hx0
    subst hxe
    have hz : zs = [] := List.eq_nil_of_length_eq_zero hl
    subst hz
    have HE := Lib.hid (HY.out rfl)
    subst hu
    clear hvv HY HN hl hl' hc
    go_enter Tryd.func35, Tryd.ntmps35
    go_wp2_with (fail)
    (go_at_call 24; refine (sMelodyValid_any lo hi _ [] _ h).mono ?_; rintro e w1 ⟨rfl, hb1⟩)
    clear h k
    go_wp2
    go_rounds 1
    go_ret
    exact ⟨by rw [HE.out]; rfl, hb1⟩
  rcases k.form with ⟨rfl, rfl⟩ | ⟨g', cap', cur, rfl, _, _, hgs', hcap', hmax', _, _, _, hc', _⟩
  · exact absurd (show xs.length = 0 by simpa using hl.symm) hx0
  unfold maxLen at hmax hmax'
  have HC := Lib.hid hc
  have HC' := Lib.hid hc'
  have HL := Lib.hid hl
  clear hc hc' hu hvv hx0 hl
  go_enter Tryd.func35, Tryd.ntmps35
  go_wp2_with (fail)
  (go_at_call 24; refine (sMelodyValid_any lo hi _ xs _ h).mono ?_; rintro e w1 ⟨rfl, hb1⟩)
  clear h k
  go_wp2
  go_loopw [5] (fun i wr => ∃ k : Nat, k ≤ xs.length ∧ i = .int .i64 k ∧ sung xs zs k = true ∧ Below w.heap.size w wr) (fun i _ => xs.length - (intOf i).toNat)
  case atStart => exact ⟨0, Nat.zero_le _, rfl, rfl, hb1⟩
  case round =>
    obtain ⟨k, hk, rfl, hs, hb⟩ := hrel
    by_cases hlt : k < xs.length
    · have ht : xs[k]? = some xs[k] := List.getElem?_eq_getElem hlt
      obtain ⟨e1, e2⟩ := HC.out k _ ht
      have e3 := HC'.out k (by have := HL.out; omega)
      have e1 := (hb.cell (p := ⟨g, k * 2, none⟩) hgs).trans e1
      have e2 := (hb.cell (p := ⟨g, k * 2 + 1, none⟩) hgs).trans e2
      have e3 := (hb.cell (p := ⟨g', k, none⟩) hgs').trans e3
      have hk0 : (0 : Int) ≤ (k : Int) := by omega
      have hk1 : (k : Int) < (xs.length : Int) := by omega
      have hk2 : (k : Int) < (zs.length : Int) := by have := HL.out; omega
      by_cases hh : hsy (zs.getD k 0) xs[k].1 xs[k].2 < 0
      · have HF := Lib.hid (HN.out k _ ht hh)
        have hd : decide (hsy (zs.getD k 0) xs[k].1 xs[k].2 < 0) = true := by simpa using hh
        clear hs ht hh
        generalize xs[k] = t at e1 e2 hd
        obtain ⟨s, b⟩ := t
        generalize zs.getD k 0 = z at e3 hd
        go_wp2
        go_region_held3 (fun wx => wx.cell? ⟨g, k * 2, none⟩ = some (.int .i64 s) ∧ wx.cell? ⟨g, k * 2 + 1, none⟩ = some (.bool b) ∧ wx.cell? ⟨g', k, none⟩ = some (.int .i64 z)) (go_keep)
          (first | (go_at_call 36; refine (sHexSyllable_any z s b _).mono ?_; rintro e w2 ⟨rfl, hb2⟩; have d1 := (hb2.cell (p := ⟨g, k * 2, none⟩) (Nat.lt_of_lt_of_le hgs hb.size)).trans e1; have d2 := (hb2.cell (p := ⟨g, k * 2 + 1, none⟩) (Nat.lt_of_lt_of_le hgs hb.size)).trans e2; have d3 := (hb2.cell (p := ⟨g', k, none⟩) (Nat.lt_of_lt_of_le hgs' hb.size)).trans e3))
        have hbw := bl_step hb.drew hb2
        clear e1 e2 e3 d1 d2 d3 hb hb2
        go_wp2
        go_ret
        exact ⟨by rw [HF.out]; rfl, hbw⟩
      · have HS := Lib.hid (sung_snoc ht hs (by omega))
        have hd : decide (hsy (zs.getD k 0) xs[k].1 xs[k].2 < 0) = false := by simpa using hh
        clear hs ht hh
        generalize xs[k] = t at e1 e2 hd
        obtain ⟨s, b⟩ := t
        generalize zs.getD k 0 = z at e3 hd
        go_wp2
        go_region_held3 (fun wx => wx.cell? ⟨g, k * 2, none⟩ = some (.int .i64 s) ∧ wx.cell? ⟨g, k * 2 + 1, none⟩ = some (.bool b) ∧ wx.cell? ⟨g', k, none⟩ = some (.int .i64 z)) (go_keep)
          (first | (go_at_call 36; refine (sHexSyllable_any z s b _).mono ?_; rintro e w2 ⟨rfl, hb2⟩; have d1 := (hb2.cell (p := ⟨g, k * 2, none⟩) (Nat.lt_of_lt_of_le hgs hb.size)).trans e1; have d2 := (hb2.cell (p := ⟨g, k * 2 + 1, none⟩) (Nat.lt_of_lt_of_le hgs hb.size)).trans e2; have d3 := (hb2.cell (p := ⟨g', k, none⟩) (Nat.lt_of_lt_of_le hgs' hb.size)).trans e3))
        have hbw := bl_step hb.drew hb2
        clear e1 e2 e3 d1 d2 d3 hb hb2
        go_wp2
        go_roundw
        case rel => exact ⟨k + 1, by omega, by go_num, HS.out, hbw⟩
        case measure => simp [intOf]; omega
    · have hk0 : k = xs.length := by omega
      subst hk0
      have HE := Lib.hid (HY.out hs)
      clear hs
      go_wp2
      go_ret
      exact ⟨by rw [HE.out]; rfl, hb⟩
end Go.Proofs.YthnofdkkocpjhaaDoor
