/-
  Does a list sing a melody? In the program.
-/
import Derived.Test.YthnofdkkocpjhaaDoorSing3
namespace Go.Proofs.YthnofdkkocpjhaaDoor
open Go.RowKit
set_option maxRecDepth 100000
set_option linter.unusedVariables false

set_option maxHeartbeats 4000000 in
set_option maxRecDepth 100000 in
theorem singOk_any (lo hi lo' hi' : Nat) (v u : Value) (xs : List (Int × Bool)) (zs : List Int) (w : World) (h : TRow w lo hi v xs) (k : IRow w lo' hi' u zs) :
    Calls Tryd.prog 16 #[v, u] w fun e w' => e = .returned (.bool (sok xs zs)) ∧ Below w.heap.size w w' := by
  obtain ⟨ua, uc, hu⟩ : ∃ a c, u = .slice a zs.length c := by
    rcases k.form with ⟨rfl, rfl⟩ | ⟨g, cap, cur, rfl, _⟩
    · exact ⟨none, 0, rfl⟩
    · exact ⟨_, _, rfl⟩
  by_cases hv : mv xs = false
  · rw [sok_no1 hv]
    clear hu
    go_enter Tryd.func16, Tryd.ntmps16
    go_wp2_with (fail)
    (go_at_call 37; refine (melodyValid_any lo hi v xs _ h).mono ?_; rintro e w1 ⟨rfl, hb1⟩)
    clear h k
    go_wp2
    go_ret
    exact ⟨rfl, hb1⟩
  rw [Bool.not_eq_false] at hv
  have hlx : xs.length ≤ 24 := by simp [mv] at hv; exact hv.1
  obtain ⟨va, vc, hvv⟩ : ∃ a c, v = .slice a xs.length c := by
    rcases h.form with ⟨rfl, rfl⟩ | ⟨g, cap, rfl, _⟩
    · exact ⟨none, 0, rfl⟩
    · exact ⟨_, _, rfl⟩
  by_cases hl : zs.length = xs.length
  case neg =>
    rw [sok_no2 hl]
    have hl' : ((zs.length : Int) != (xs.length : Int)) = true := by simp; omega
    subst hu hvv
    clear hl
    go_enter Tryd.func16, Tryd.ntmps16
    go_wp2_with (fail)
    (go_at_call 37; refine (melodyValid_any lo hi _ xs _ h).mono ?_; rintro e w1 ⟨rfl, hb1⟩)
    clear h k
    go_wp2
    go_ret
    exact ⟨rfl, hb1⟩
  have hl' : ((zs.length : Int) != (xs.length : Int)) = false := by simp; omega
  have HY : Hid (sung xs zs xs.length = true → sok xs zs = true) := fun h3 => sok_yes hv hl h3
  have HN : Hid (∀ j t, xs[j]? = some t → hsy (zs.getD j 0) t.1 t.2 < 0 → sok xs zs = false) := fun j t => sok_no3
  rcases h.form with ⟨rfl, rfl⟩ | ⟨g, cap, rfl, hg, hg2, hgs, hcap, hmax, hc⟩
  · have hz : zs = [] := List.eq_nil_of_length_eq_zero hl
    subst hz
    have HE := Lib.hid (HY.out rfl)
    subst hu
    clear hvv HY HN hl hl'
    go_enter Tryd.func16, Tryd.ntmps16
    go_wp2_with (fail)
    (go_at_call 37; refine (melodyValid_any lo hi _ [] _ h).mono ?_; rintro e w1 ⟨rfl, hb1⟩)
    clear h k
    go_wp2
    go_rounds 1
    go_ret
    exact ⟨by rw [HE.out]; rfl, hb1⟩
  by_cases hx0 : xs.length = 0
  · have hxe : xs = [] := List.eq_nil_of_length_eq_zero hx0
    subst hxe
    have hz : zs = [] := List.eq_nil_of_length_eq_zero hl
    subst hz
    have HE := Lib.hid (HY.out rfl)
    subst hu
    clear hvv HY HN hl hl' hc
    go_enter Tryd.func16, Tryd.ntmps16
    go_wp2_with (fail)
    (go_at_call 37; refine (melodyValid_any lo hi _ [] _ h).mono ?_; rintro e w1 ⟨rfl, hb1⟩)
    clear h k
    go_wp2
    go_rounds 1
    go_ret
    exact ⟨by rw [HE.out]; rfl, hb1⟩
  rcases k.form with ⟨rfl, rfl⟩ | ⟨g', cap', cur, rfl, _, _, hgs', hcap', hmax', _, _, _, hc', _⟩
  · exact absurd (show xs.length = 0 by simpa using hl.symm) hx0
  unfold maxLen at hmax hmax'
  have HC := Lib.hid hc
  have HC' := Lib.hid hc'
  have HL := Lib.hid hl
  clear hc hc' hu hvv hx0 hl
  go_enter Tryd.func16, Tryd.ntmps16
  go_wp2_with (fail)
  (go_at_call 37; refine (melodyValid_any lo hi _ xs _ h).mono ?_; rintro e w1 ⟨rfl, hb1⟩)
  clear h k
  go_wp2
  go_loopw [19] (fun i wr => ∃ k : Nat, k ≤ xs.length ∧ i = .int .i64 k ∧ sung xs zs k = true ∧ Below w.heap.size w wr) (fun i _ => xs.length - (intOf i).toNat)
  case atStart => exact ⟨0, Nat.zero_le _, rfl, rfl, hb1⟩
  case round =>
    obtain ⟨k, hk, rfl, hs, hb⟩ := hrel
    by_cases hlt : k < xs.length
    · have ht : xs[k]? = some xs[k] := List.getElem?_eq_getElem hlt
      obtain ⟨e1, e2⟩ := HC.out k _ ht
      have e3 := HC'.out k (by have := HL.out; omega)
      have e1 := (hb.cell (p := ⟨g, k * 2, none⟩) hgs).trans e1
      have e2 := (hb.cell (p := ⟨g, k * 2 + 1, none⟩) hgs).trans e2
      have e3 := (hb.cell (p := ⟨g', k, none⟩) hgs').trans e3
      have hk0 : (0 : Int) ≤ (k : Int) := by omega
      have hk1 : (k : Int) < (xs.length : Int) := by omega
      have hk2 : (k : Int) < (zs.length : Int) := by have := HL.out; omega
      by_cases hh : hsy (zs.getD k 0) xs[k].1 xs[k].2 < 0
      · have HF := Lib.hid (HN.out k _ ht hh)
        have hd : decide (hsy (zs.getD k 0) xs[k].1 xs[k].2 < 0) = true := by simpa using hh
        clear hs ht hh
        generalize xs[k] = t at e1 e2 hd
        obtain ⟨s, b⟩ := t
        generalize zs.getD k 0 = z at e3 hd
        go_wp2
        obtain ⟨W, hW⟩ : ∃ W, W = wr.alloc (.cells #[.int .i64 s, .bool b] 52) := ⟨_, rfl⟩
        have f1 : W.cell? ⟨wr.heap.size, 0, none⟩ = some (.int .i64 s) := by rw [hW]; go_simp
        have f2 : W.cell? ⟨wr.heap.size, 1, none⟩ = some (.bool b) := by rw [hW]; go_simp
        have f3 : W.cell? ⟨g', k, none⟩ = some (.int .i64 z) := by rw [hW, World.cell?_alloc_lt _ _ _ (Nat.lt_of_lt_of_le hgs' hb.size)]; exact e3
        have fB : Below w.heap.size w W := by rw [hW]; exact hb.alloc hb.size _
        have fz : wr.heap.size < W.heap.size := by rw [hW]; simp
        have fg : g' < W.heap.size := Nat.lt_trans (Nat.lt_of_lt_of_le hgs' hb.size) fz
        rw [← hW]
        clear hW e1 e2 e3
        go_region_held3 (fun wx => wx.cell? ⟨wr.heap.size, 0, none⟩ = some (.int .i64 s) ∧ wx.cell? ⟨wr.heap.size, 1, none⟩ = some (.bool b) ∧ wx.cell? ⟨g', k, none⟩ = some (.int .i64 z)) (go_keep)
          (first | (go_at_call 33; refine (hexSyllable_any z s b _).mono ?_; rintro e w2 ⟨rfl, hb2⟩; have d1 := (hb2.cell (p := ⟨wr.heap.size, 0, none⟩) fz).trans f1; have d2 := (hb2.cell (p := ⟨wr.heap.size, 1, none⟩) fz).trans f2; have d3 := (hb2.cell (p := ⟨g', k, none⟩) fg).trans f3))
        have hbw := bl_step fB.drew hb2
        clear f1 f2 f3 fB fz fg d1 d2 d3 hb hb2
        go_wp2
        go_ret
        exact ⟨by rw [HF.out]; rfl, hbw⟩
      · have HS := Lib.hid (sung_snoc ht hs (by omega))
        have hd : decide (hsy (zs.getD k 0) xs[k].1 xs[k].2 < 0) = false := by simpa using hh
        clear hs ht hh
        generalize xs[k] = t at e1 e2 hd
        obtain ⟨s, b⟩ := t
        generalize zs.getD k 0 = z at e3 hd
        go_wp2
        obtain ⟨W, hW⟩ : ∃ W, W = wr.alloc (.cells #[.int .i64 s, .bool b] 52) := ⟨_, rfl⟩
        have f1 : W.cell? ⟨wr.heap.size, 0, none⟩ = some (.int .i64 s) := by rw [hW]; go_simp
        have f2 : W.cell? ⟨wr.heap.size, 1, none⟩ = some (.bool b) := by rw [hW]; go_simp
        have f3 : W.cell? ⟨g', k, none⟩ = some (.int .i64 z) := by rw [hW, World.cell?_alloc_lt _ _ _ (Nat.lt_of_lt_of_le hgs' hb.size)]; exact e3
        have fB : Below w.heap.size w W := by rw [hW]; exact hb.alloc hb.size _
        have fz : wr.heap.size < W.heap.size := by rw [hW]; simp
        have fg : g' < W.heap.size := Nat.lt_trans (Nat.lt_of_lt_of_le hgs' hb.size) fz
        rw [← hW]
        clear hW e1 e2 e3
        go_region_held3 (fun wx => wx.cell? ⟨wr.heap.size, 0, none⟩ = some (.int .i64 s) ∧ wx.cell? ⟨wr.heap.size, 1, none⟩ = some (.bool b) ∧ wx.cell? ⟨g', k, none⟩ = some (.int .i64 z)) (go_keep)
          (first | (go_at_call 33; refine (hexSyllable_any z s b _).mono ?_; rintro e w2 ⟨rfl, hb2⟩; have d1 := (hb2.cell (p := ⟨wr.heap.size, 0, none⟩) fz).trans f1; have d2 := (hb2.cell (p := ⟨wr.heap.size, 1, none⟩) fz).trans f2; have d3 := (hb2.cell (p := ⟨g', k, none⟩) fg).trans f3))
        have hbw := bl_step fB.drew hb2
        clear f1 f2 f3 fB fz fg d1 d2 d3 hb hb2
        go_wp2
        go_roundw
        case rel => exact ⟨k + 1, by omega, by go_num, HS.out, hbw⟩
        case measure => simp [intOf]; omega
    · have hk0 : k = xs.length := by omega
      subst hk0
      have HE := Lib.hid (HY.out hs)
      clear hs
      go_wp2
      go_ret
      exact ⟨by rw [HE.out]; rfl, hb⟩
end Go.Proofs.YthnofdkkocpjhaaDoor
