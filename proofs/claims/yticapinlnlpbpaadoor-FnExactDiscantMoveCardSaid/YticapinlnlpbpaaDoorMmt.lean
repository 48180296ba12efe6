/-
  MelodyMove in the model: the walk.
-/
import Derived.Test.YticapinlnlpbpaaDoorMms
import Derived.Test.YticapinlnlpbpaaDoorMelV
namespace Go.Proofs.YticapinlnlpbpaaDoor
open Go.RowKit
set_option maxRecDepth 100000
set_option linter.unusedVariables false

theorem abv_out {s k : Int} {b c : Bool} (h : k < -20 ∨ 20 < k) : abv s b k c = false := by
  rcases h with h | h
  · exact ab_no2 h
  · exact ab_no3 h
theorem mm_far {k : Int} {xs : List (Int × Bool)} (h : k < -20 ∨ 20 < k) (hx : xs ≠ []) : mmL k xs = [] ∧ mmB k xs = false := by
  cases xs with
  | nil => exact absurd rfl hx
  | cons t r =>
    by_cases hm : mv (t :: r) = true
    · exact mm_miss hm (hitc_no1 (abv_out h)) (hitc_no1 (abv_out h))
    · exact mm_no1 (by simpa using hm)

set_option maxHeartbeats 16000000 in
theorem sMelodyMove_any (lo hi : Nat) (v : Value) (ys : List (Int × Bool)) (k : Int) (w : World) (h : TRow w lo hi v ys) :
    Calls Tryd.prog 58 #[v, .int .i64 k] w (TBuilt2 w (mmL k ys) (mmB k ys)) := by
  rcases h.form with ⟨rfl, rfl⟩ | ⟨g, cap, rfl, hg, hg2, hgs, hcap, hmax, hc⟩
  · have HE := Lib.hid (empty_built2 (w := w) (w1 := w) (ok := true) (Below.refl _ _))
    rw [(mm_nil k).1, (mm_nil k).2]
    clear h
    go_enter Tryd.func58, Tryd.ntmps58
    go_wp2
    go_ret2
    exact HE.out
  by_cases hl0 : ys.length = 0
  · have hy0 : ys = [] := List.eq_nil_of_length_eq_zero hl0
    subst hy0
    have HE := Lib.hid (empty_built2 (w := w) (w1 := w) (ok := true) (Below.refl _ _))
    rw [(mm_nil k).1, (mm_nil k).2]
    clear h hc
    go_enter Tryd.func58, Tryd.ntmps58
    go_wp2
    go_ret2
    exact HE.out
  obtain ⟨L, hL⟩ : ∃ L : Nat, ys.length = L := ⟨_, rfl⟩
  have hz0 : ((L : Int) == 0) = false := by rw [beq_eq_false_iff_ne]; omega
  have hp0 : (0 : Int) < (L : Int) := by omega
  have hp1 : 0 < L := by omega
  rw [hL] at h hcap ⊢
  by_cases hm : mv ys = false
  · rw [(mm_no1 hm).1, (mm_no1 hm).2]
    have HE := Lib.hid (fun w1 hb => empty_built2 (w := w) (w1 := w1) (ok := false) hb)
    have HH := Lib.hid h
    clear h hc hl0
    go_enter Tryd.func58, Tryd.ntmps58
    go_wp2_with (fail)
    (go_at_call 86; refine (sMelodyValid_any lo hi _ ys _ HH.out).mono ?_; rintro e w1 ⟨rfl, hb1⟩)
    rw [hm]
    go_wp2
    go_ret2
    exact HE.out _ hb1
  rw [Bool.not_eq_false] at hm
  by_cases hk : k < -20 ∨ 20 < k
  · have hf := mm_far (xs := ys) hk (fun e => hl0 (by rw [e]; rfl))
    rw [hf.1, hf.2]
    have HE := Lib.hid (fun w1 hb => empty_built2 (w := w) (w1 := w1) (ok := false) hb)
    have HH := Lib.hid h
    have HF := Lib.hid hk
    clear h hc hl0 hk hf
    go_enter Tryd.func58, Tryd.ntmps58
    go_wp2_with (fail)
    (go_at_call 86; refine (sMelodyValid_any lo hi _ ys _ HH.out).mono ?_; rintro e w1 ⟨rfl, hb1⟩)
    rw [hm]
    go_wp2_with (fail)
    (go_at_call 85; refine (in_no k (-20) 20 HF.out _).mono ?_; rintro e wx ⟨rfl, rfl⟩)
    go_wp2
    go_ret2
    exact HE.out _ hb1
  have hk0 : -20 ≤ k := by omega
  have hk1 : k ≤ 20 := by omega
  obtain ⟨t, r, HYS0⟩ : ∃ t r, ys = t :: r := by
    cases ys with
    | nil => exact absurd rfl hl0
    | cons t r => exact ⟨t, r, rfl⟩
  obtain ⟨s, b⟩ := t
  have HYS : Hid (ys = (s, b) :: r) := HYS0
  have hmt := mv_tail (t := (s, b)) (r := r) (by rw [← HYS.out]; exact hm)
  rw [← HYS.out] at hmt
  obtain ⟨hv, hall, hlen⟩ := hmt
  have HV := Lib.hid hall
  have HM := Lib.hid hm
  have hv : vd s b = true := hv
  obtain ⟨v0, v1⟩ := vd_in hv
  obtain ⟨g0, g1⟩ := hgt_bd (b := b) v0 v1
  have hab : ∀ c, abv s b k c = vd (s + k) c := fun c => abv_in hv hk0 hk1
  have HAB := Lib.hid hab
  have HL := Lib.hid hlen
  have HH := Lib.hid h
  have sk : IntKind.i64.wrap (s + k) = s + k := IntWalk.i64_in _ (by omega)
  obtain ⟨a1, a2⟩ := hc 0 (s, b) (by rw [HYS.out]; rfl)
  simp only [Nat.zero_mul, Nat.zero_add] at a1 a2
  clear HYS0 hall hv hab hl0 hk h hc
  go_enter Tryd.func58, Tryd.ntmps58
  go_wp2_with (fail)
  (go_at_call 86; refine (sMelodyValid_any lo hi _ ys _ HH.out).mono ?_; rintro e w1 ⟨rfl, hb1⟩)
  rw [hm]
  go_wp2_with (fail)
  (go_at_call 85; refine (in_yes k (-20) 20 hk0 hk1 _).mono ?_; rintro e wx ⟨rfl, rfl⟩)
  go_wp2
  go_loopw [6] (fun i wr => ∃ j : Int, (j = 0 ∨ j = 1 ∧ hitc k false ys = false ∨ j = 2 ∧ hitc k false ys = false ∧ hitc k true ys = false) ∧ i = .int .i64 j ∧ Below w.heap.size w wr) (fun i _ => 2 - (intOf i).toNat)
  case atStart => exact ⟨0, .inl rfl, rfl, hb1⟩
  case round =>
    obtain ⟨j, hj, rfl, hb⟩ := hrel
    have e0 := (hb.cell (p := ⟨g, 0, none⟩) hgs).trans a1
    have e1 := (hb.cell (p := ⟨g, 1, none⟩) hgs).trans a2
    have hgs1 : g < wr.heap.size := Nat.lt_of_lt_of_le hgs hb.size
    have HB := Lib.hid hb
    clear hb hm
    rcases hj with rfl | ⟨rfl, hm0⟩ | ⟨rfl, hm0, hm1⟩
    · by_cases hA : vd (s + k) false = false
      · have HA := Lib.hid hA
        go_wp2_with (fail)
        obtain ⟨W, hW⟩ : ∃ W, W = wr.alloc (.cells #[.int .i64 (s + k), .bool false] 41) := ⟨_, rfl⟩
        have f0 : W.cell? ⟨wr.heap.size, 0, none⟩ = some (.int .i64 (s + k)) := by rw [hW]; go_simp
        have f1 : W.cell? ⟨wr.heap.size, 1, none⟩ = some (.bool false) := by rw [hW]; go_simp
        have f2 : W.cell? ⟨g, 0, none⟩ = some (.int .i64 s) := by rw [hW, World.cell?_alloc_lt _ _ _ hgs1]; exact e0
        have f3 : W.cell? ⟨g, 1, none⟩ = some (.bool b) := by rw [hW, World.cell?_alloc_lt _ _ _ hgs1]; exact e1
        have HBW : Hid (Below w.heap.size w W) := by rw [hW]; exact HB.out.alloc HB.out.size _
        have fz : wr.heap.size < W.heap.size := two_lt f0
        have fg : g < W.heap.size := World.block_lt_of_cell? W _ f2
        rw [← hW]
        clear hW e0 e1
        (go_at_call 84; refine (sToneValid_any _ _ _).mono ?_; rintro e w3 ⟨rfl, hb3⟩)
        have c3a := (hb3.cell (p := ⟨wr.heap.size, 0, none⟩) fz).trans f0
        have c3b := (hb3.cell (p := ⟨wr.heap.size, 1, none⟩) fz).trans f1
        have c3c := (hb3.cell (p := ⟨g, 0, none⟩) fg).trans f2
        have c3d := (hb3.cell (p := ⟨g, 1, none⟩) fg).trans f3
        have fz3 := Nat.lt_of_lt_of_le fz hb3.size
        have fg3 := Nat.lt_of_lt_of_le fg hb3.size
        have HB3 := Lib.hid (bl_step HBW.out hb3)
        rw [hA]
        clear hA f0 f1 f2 f3 c3a c3b c3c c3d
        go_wp2
        go_roundw
        case rel => exact ⟨1, .inr (.inl ⟨rfl, hitc_no1' (HYS.out) ((HAB.out false).trans HA.out)⟩), rfl, HB3.out⟩
        case measure => simp [intOf]
      rw [Bool.not_eq_false] at hA
      obtain ⟨u0, u1⟩ := vd_in hA
      obtain ⟨g2, g3⟩ := hgt_bd (b := false) u0 u1
      have hAv : abv s b k false = true := (HAB.out false).trans hA
      have sw : IntKind.i64.wrap (hgt (s + k) false - hgt s b) = hgt (s + k) false - hgt s b := IntWalk.i64_in _ (by omega)
      by_cases hG : ys.all (tmo k (hgt (s + k) false - hgt s b)) = true
      · have HG := Lib.hid hG
        have HH1 := Lib.hid (mm_hit0 HM.out (hitc_yes' HYS.out hAv hG).1)
        have HZ := Lib.hid (hitc_yes' HYS.out hAv hG).2
        go_wp2_with (fail)
        obtain ⟨W, hW⟩ : ∃ W, W = wr.alloc (.cells #[.int .i64 (s + k), .bool false] 41) := ⟨_, rfl⟩
        have f0 : W.cell? ⟨wr.heap.size, 0, none⟩ = some (.int .i64 (s + k)) := by rw [hW]; go_simp
        have f1 : W.cell? ⟨wr.heap.size, 1, none⟩ = some (.bool false) := by rw [hW]; go_simp
        have f2 : W.cell? ⟨g, 0, none⟩ = some (.int .i64 s) := by rw [hW, World.cell?_alloc_lt _ _ _ hgs1]; exact e0
        have f3 : W.cell? ⟨g, 1, none⟩ = some (.bool b) := by rw [hW, World.cell?_alloc_lt _ _ _ hgs1]; exact e1
        have HBW : Hid (Below w.heap.size w W) := by rw [hW]; exact HB.out.alloc HB.out.size _
        have fz : wr.heap.size < W.heap.size := two_lt f0
        have fg : g < W.heap.size := World.block_lt_of_cell? W _ f2
        rw [← hW]
        clear hW e0 e1
        (go_at_call 84; refine (sToneValid_any _ _ _).mono ?_; rintro e w3 ⟨rfl, hb3⟩)
        have c3a := (hb3.cell (p := ⟨wr.heap.size, 0, none⟩) fz).trans f0
        have c3b := (hb3.cell (p := ⟨wr.heap.size, 1, none⟩) fz).trans f1
        have c3c := (hb3.cell (p := ⟨g, 0, none⟩) fg).trans f2
        have c3d := (hb3.cell (p := ⟨g, 1, none⟩) fg).trans f3
        have fz3 := Nat.lt_of_lt_of_le fz hb3.size
        have fg3 := Nat.lt_of_lt_of_le fg hb3.size
        have HB3 := Lib.hid (bl_step HBW.out hb3)
        rw [hA]
        go_wp2
        go_region_held3 (fun wx => wx.cell? ⟨wr.heap.size, 0, none⟩ = some (.int .i64 (s + k)) ∧ wx.cell? ⟨wr.heap.size, 1, none⟩ = some (.bool false) ∧ wx.cell? ⟨g, 0, none⟩ = some (.int .i64 s) ∧ wx.cell? ⟨g, 1, none⟩ = some (.bool b)) (go_keep)
          (first | (go_at_call_of 88 (Value.agg #[Value.int .i64 (s + k), Value.bool false]); refine (l1Height_any _ _ u0 u1 _).mono ?_; rintro e w4 ⟨rfl, hb4⟩; have c4a := (hb4.cell (p := ⟨wr.heap.size, 0, none⟩) fz3).trans c3a; have c4b := (hb4.cell (p := ⟨wr.heap.size, 1, none⟩) fz3).trans c3b; have c4c := (hb4.cell (p := ⟨g, 0, none⟩) fg3).trans c3c; have c4d := (hb4.cell (p := ⟨g, 1, none⟩) fg3).trans c3d; have fz4 := Nat.lt_of_lt_of_le fz3 hb4.size; have fg4 := Nat.lt_of_lt_of_le fg3 hb4.size; have HB4 := Lib.hid (bl_step HB3.out.drew hb4)) | (go_at_call 88; refine (l1Height_any _ _ v0 v1 _).mono ?_; rintro e w5 ⟨rfl, hb5⟩; have c5a := (hb5.cell (p := ⟨wr.heap.size, 0, none⟩) fz4).trans c4a; have c5b := (hb5.cell (p := ⟨wr.heap.size, 1, none⟩) fz4).trans c4b; have c5c := (hb5.cell (p := ⟨g, 0, none⟩) fg4).trans c4c; have c5d := (hb5.cell (p := ⟨g, 1, none⟩) fg4).trans c4d; have fz5 := Nat.lt_of_lt_of_le fz4 hb5.size; have fg5 := Nat.lt_of_lt_of_le fg4 hb5.size; have HB5 := Lib.hid (bl_step HB4.out hb5)) | (go_at_call 87; refine (sMoved_any lo hi _ ys k _ hk0 hk1 HV.out HL.out _ (HH.out.below HB5.out (.inr (Nat.le_refl _)))).mono ?_; rintro e w6 ⟨u, rfl, hu, hb6⟩; have c6a := (hb6.cell (p := ⟨wr.heap.size, 0, none⟩) fz5).trans c5a; have c6b := (hb6.cell (p := ⟨wr.heap.size, 1, none⟩) fz5).trans c5b; have c6c := (hb6.cell (p := ⟨g, 0, none⟩) fg5).trans c5c; have c6d := (hb6.cell (p := ⟨g, 1, none⟩) fg5).trans c5d))
        (try rw [HG.out])
        have HE : Hid (TBuilt2 w (mmL k ys) (mmB k ys) (.returned (.tuple #[u, .bool true])) w6) := by
          rw [HH1.out.1, HH1.out.2, HZ.out, ← moL_yes HG.out]
          exact ⟨u, rfl, ⟨tmono hu.1 HB5.out.size, hu.2⟩, bl_step HB5.out hb6⟩
        clear hu f0 f1 f2 f3 c3a c3b c3c c3d c4a c4b c4c c4d c5a c5b c5c c5d c6a c6b c6c c6d
        go_wp2
        go_ret2
        exact HE.out
      · rw [Bool.not_eq_true] at hG
        have HG := Lib.hid hG
        go_wp2_with (fail)
        obtain ⟨W, hW⟩ : ∃ W, W = wr.alloc (.cells #[.int .i64 (s + k), .bool false] 41) := ⟨_, rfl⟩
        have f0 : W.cell? ⟨wr.heap.size, 0, none⟩ = some (.int .i64 (s + k)) := by rw [hW]; go_simp
        have f1 : W.cell? ⟨wr.heap.size, 1, none⟩ = some (.bool false) := by rw [hW]; go_simp
        have f2 : W.cell? ⟨g, 0, none⟩ = some (.int .i64 s) := by rw [hW, World.cell?_alloc_lt _ _ _ hgs1]; exact e0
        have f3 : W.cell? ⟨g, 1, none⟩ = some (.bool b) := by rw [hW, World.cell?_alloc_lt _ _ _ hgs1]; exact e1
        have HBW : Hid (Below w.heap.size w W) := by rw [hW]; exact HB.out.alloc HB.out.size _
        have fz : wr.heap.size < W.heap.size := two_lt f0
        have fg : g < W.heap.size := World.block_lt_of_cell? W _ f2
        rw [← hW]
        clear hW e0 e1
        (go_at_call 84; refine (sToneValid_any _ _ _).mono ?_; rintro e w3 ⟨rfl, hb3⟩)
        have c3a := (hb3.cell (p := ⟨wr.heap.size, 0, none⟩) fz).trans f0
        have c3b := (hb3.cell (p := ⟨wr.heap.size, 1, none⟩) fz).trans f1
        have c3c := (hb3.cell (p := ⟨g, 0, none⟩) fg).trans f2
        have c3d := (hb3.cell (p := ⟨g, 1, none⟩) fg).trans f3
        have fz3 := Nat.lt_of_lt_of_le fz hb3.size
        have fg3 := Nat.lt_of_lt_of_le fg hb3.size
        have HB3 := Lib.hid (bl_step HBW.out hb3)
        rw [hA]
        go_wp2
        go_region_held3 (fun wx => wx.cell? ⟨wr.heap.size, 0, none⟩ = some (.int .i64 (s + k)) ∧ wx.cell? ⟨wr.heap.size, 1, none⟩ = some (.bool false) ∧ wx.cell? ⟨g, 0, none⟩ = some (.int .i64 s) ∧ wx.cell? ⟨g, 1, none⟩ = some (.bool b)) (go_keep)
          (first | (go_at_call_of 88 (Value.agg #[Value.int .i64 (s + k), Value.bool false]); refine (l1Height_any _ _ u0 u1 _).mono ?_; rintro e w4 ⟨rfl, hb4⟩; have c4a := (hb4.cell (p := ⟨wr.heap.size, 0, none⟩) fz3).trans c3a; have c4b := (hb4.cell (p := ⟨wr.heap.size, 1, none⟩) fz3).trans c3b; have c4c := (hb4.cell (p := ⟨g, 0, none⟩) fg3).trans c3c; have c4d := (hb4.cell (p := ⟨g, 1, none⟩) fg3).trans c3d; have fz4 := Nat.lt_of_lt_of_le fz3 hb4.size; have fg4 := Nat.lt_of_lt_of_le fg3 hb4.size; have HB4 := Lib.hid (bl_step HB3.out.drew hb4)) | (go_at_call 88; refine (l1Height_any _ _ v0 v1 _).mono ?_; rintro e w5 ⟨rfl, hb5⟩; have c5a := (hb5.cell (p := ⟨wr.heap.size, 0, none⟩) fz4).trans c4a; have c5b := (hb5.cell (p := ⟨wr.heap.size, 1, none⟩) fz4).trans c4b; have c5c := (hb5.cell (p := ⟨g, 0, none⟩) fg4).trans c4c; have c5d := (hb5.cell (p := ⟨g, 1, none⟩) fg4).trans c4d; have fz5 := Nat.lt_of_lt_of_le fz4 hb5.size; have fg5 := Nat.lt_of_lt_of_le fg4 hb5.size; have HB5 := Lib.hid (bl_step HB4.out hb5)) | (go_at_call 87; refine (sMoved_any lo hi _ ys k _ hk0 hk1 HV.out HL.out _ (HH.out.below HB5.out (.inr (Nat.le_refl _)))).mono ?_; rintro e w6 ⟨u, rfl, hu, hb6⟩; have c6a := (hb6.cell (p := ⟨wr.heap.size, 0, none⟩) fz5).trans c5a; have c6b := (hb6.cell (p := ⟨wr.heap.size, 1, none⟩) fz5).trans c5b; have c6c := (hb6.cell (p := ⟨g, 0, none⟩) fg5).trans c5c; have c6d := (hb6.cell (p := ⟨g, 1, none⟩) fg5).trans c5d))
        (try rw [HG.out])
        have HB6 := Lib.hid (bl_step HB5.out hb6)
        clear hu f0 f1 f2 f3 c3a c3b c3c c3d c4a c4b c4c c4d c5a c5b c5c c5d c6a c6b c6c c6d
        go_wp2
        go_roundw
        case rel => exact ⟨1, .inr (.inl ⟨rfl, hitc_no2' (HYS.out) HG.out⟩), rfl, HB6.out⟩
        case measure => simp [intOf]
    · have HM0 := Lib.hid hm0
      clear hm0
      by_cases hA : vd (s + k) true = false
      · have HA := Lib.hid hA
        go_wp2_with (fail)
        obtain ⟨W, hW⟩ : ∃ W, W = wr.alloc (.cells #[.int .i64 (s + k), .bool true] 41) := ⟨_, rfl⟩
        have f0 : W.cell? ⟨wr.heap.size, 0, none⟩ = some (.int .i64 (s + k)) := by rw [hW]; go_simp
        have f1 : W.cell? ⟨wr.heap.size, 1, none⟩ = some (.bool true) := by rw [hW]; go_simp
        have f2 : W.cell? ⟨g, 0, none⟩ = some (.int .i64 s) := by rw [hW, World.cell?_alloc_lt _ _ _ hgs1]; exact e0
        have f3 : W.cell? ⟨g, 1, none⟩ = some (.bool b) := by rw [hW, World.cell?_alloc_lt _ _ _ hgs1]; exact e1
        have HBW : Hid (Below w.heap.size w W) := by rw [hW]; exact HB.out.alloc HB.out.size _
        have fz : wr.heap.size < W.heap.size := two_lt f0
        have fg : g < W.heap.size := World.block_lt_of_cell? W _ f2
        rw [← hW]
        clear hW e0 e1
        (go_at_call 84; refine (sToneValid_any _ _ _).mono ?_; rintro e w3 ⟨rfl, hb3⟩)
        have c3a := (hb3.cell (p := ⟨wr.heap.size, 0, none⟩) fz).trans f0
        have c3b := (hb3.cell (p := ⟨wr.heap.size, 1, none⟩) fz).trans f1
        have c3c := (hb3.cell (p := ⟨g, 0, none⟩) fg).trans f2
        have c3d := (hb3.cell (p := ⟨g, 1, none⟩) fg).trans f3
        have fz3 := Nat.lt_of_lt_of_le fz hb3.size
        have fg3 := Nat.lt_of_lt_of_le fg hb3.size
        have HB3 := Lib.hid (bl_step HBW.out hb3)
        rw [hA]
        clear hA f0 f1 f2 f3 c3a c3b c3c c3d
        go_wp2
        go_roundw
        case rel => exact ⟨2, .inr (.inr ⟨rfl, HM0.out, hitc_no1' (HYS.out) ((HAB.out true).trans HA.out)⟩), rfl, HB3.out⟩
        case measure => simp [intOf]
      rw [Bool.not_eq_false] at hA
      obtain ⟨u0, u1⟩ := vd_in hA
      obtain ⟨g2, g3⟩ := hgt_bd (b := true) u0 u1
      have hAv : abv s b k true = true := (HAB.out true).trans hA
      have sw : IntKind.i64.wrap (hgt (s + k) true - hgt s b) = hgt (s + k) true - hgt s b := IntWalk.i64_in _ (by omega)
      by_cases hG : ys.all (tmo k (hgt (s + k) true - hgt s b)) = true
      · have HG := Lib.hid hG
        have HH1 := Lib.hid (mm_hit1 HM.out HM0.out (hitc_yes' HYS.out hAv hG).1)
        have HZ := Lib.hid (hitc_yes' HYS.out hAv hG).2
        go_wp2_with (fail)
        obtain ⟨W, hW⟩ : ∃ W, W = wr.alloc (.cells #[.int .i64 (s + k), .bool true] 41) := ⟨_, rfl⟩
        have f0 : W.cell? ⟨wr.heap.size, 0, none⟩ = some (.int .i64 (s + k)) := by rw [hW]; go_simp
        have f1 : W.cell? ⟨wr.heap.size, 1, none⟩ = some (.bool true) := by rw [hW]; go_simp
        have f2 : W.cell? ⟨g, 0, none⟩ = some (.int .i64 s) := by rw [hW, World.cell?_alloc_lt _ _ _ hgs1]; exact e0
        have f3 : W.cell? ⟨g, 1, none⟩ = some (.bool b) := by rw [hW, World.cell?_alloc_lt _ _ _ hgs1]; exact e1
        have HBW : Hid (Below w.heap.size w W) := by rw [hW]; exact HB.out.alloc HB.out.size _
        have fz : wr.heap.size < W.heap.size := two_lt f0
        have fg : g < W.heap.size := World.block_lt_of_cell? W _ f2
        rw [← hW]
        clear hW e0 e1
        (go_at_call 84; refine (sToneValid_any _ _ _).mono ?_; rintro e w3 ⟨rfl, hb3⟩)
        have c3a := (hb3.cell (p := ⟨wr.heap.size, 0, none⟩) fz).trans f0
        have c3b := (hb3.cell (p := ⟨wr.heap.size, 1, none⟩) fz).trans f1
        have c3c := (hb3.cell (p := ⟨g, 0, none⟩) fg).trans f2
        have c3d := (hb3.cell (p := ⟨g, 1, none⟩) fg).trans f3
        have fz3 := Nat.lt_of_lt_of_le fz hb3.size
        have fg3 := Nat.lt_of_lt_of_le fg hb3.size
        have HB3 := Lib.hid (bl_step HBW.out hb3)
        rw [hA]
        go_wp2
        go_region_held3 (fun wx => wx.cell? ⟨wr.heap.size, 0, none⟩ = some (.int .i64 (s + k)) ∧ wx.cell? ⟨wr.heap.size, 1, none⟩ = some (.bool true) ∧ wx.cell? ⟨g, 0, none⟩ = some (.int .i64 s) ∧ wx.cell? ⟨g, 1, none⟩ = some (.bool b)) (go_keep)
          (first | (go_at_call_of 88 (Value.agg #[Value.int .i64 (s + k), Value.bool true]); refine (l1Height_any _ _ u0 u1 _).mono ?_; rintro e w4 ⟨rfl, hb4⟩; have c4a := (hb4.cell (p := ⟨wr.heap.size, 0, none⟩) fz3).trans c3a; have c4b := (hb4.cell (p := ⟨wr.heap.size, 1, none⟩) fz3).trans c3b; have c4c := (hb4.cell (p := ⟨g, 0, none⟩) fg3).trans c3c; have c4d := (hb4.cell (p := ⟨g, 1, none⟩) fg3).trans c3d; have fz4 := Nat.lt_of_lt_of_le fz3 hb4.size; have fg4 := Nat.lt_of_lt_of_le fg3 hb4.size; have HB4 := Lib.hid (bl_step HB3.out.drew hb4)) | (go_at_call 88; refine (l1Height_any _ _ v0 v1 _).mono ?_; rintro e w5 ⟨rfl, hb5⟩; have c5a := (hb5.cell (p := ⟨wr.heap.size, 0, none⟩) fz4).trans c4a; have c5b := (hb5.cell (p := ⟨wr.heap.size, 1, none⟩) fz4).trans c4b; have c5c := (hb5.cell (p := ⟨g, 0, none⟩) fg4).trans c4c; have c5d := (hb5.cell (p := ⟨g, 1, none⟩) fg4).trans c4d; have fz5 := Nat.lt_of_lt_of_le fz4 hb5.size; have fg5 := Nat.lt_of_lt_of_le fg4 hb5.size; have HB5 := Lib.hid (bl_step HB4.out hb5)) | (go_at_call 87; refine (sMoved_any lo hi _ ys k _ hk0 hk1 HV.out HL.out _ (HH.out.below HB5.out (.inr (Nat.le_refl _)))).mono ?_; rintro e w6 ⟨u, rfl, hu, hb6⟩; have c6a := (hb6.cell (p := ⟨wr.heap.size, 0, none⟩) fz5).trans c5a; have c6b := (hb6.cell (p := ⟨wr.heap.size, 1, none⟩) fz5).trans c5b; have c6c := (hb6.cell (p := ⟨g, 0, none⟩) fg5).trans c5c; have c6d := (hb6.cell (p := ⟨g, 1, none⟩) fg5).trans c5d))
        (try rw [HG.out])
        have HE : Hid (TBuilt2 w (mmL k ys) (mmB k ys) (.returned (.tuple #[u, .bool true])) w6) := by
          rw [HH1.out.1, HH1.out.2, HZ.out, ← moL_yes HG.out]
          exact ⟨u, rfl, ⟨tmono hu.1 HB5.out.size, hu.2⟩, bl_step HB5.out hb6⟩
        clear hu f0 f1 f2 f3 c3a c3b c3c c3d c4a c4b c4c c4d c5a c5b c5c c5d c6a c6b c6c c6d
        go_wp2
        go_ret2
        exact HE.out
      · rw [Bool.not_eq_true] at hG
        have HG := Lib.hid hG
        go_wp2_with (fail)
        obtain ⟨W, hW⟩ : ∃ W, W = wr.alloc (.cells #[.int .i64 (s + k), .bool true] 41) := ⟨_, rfl⟩
        have f0 : W.cell? ⟨wr.heap.size, 0, none⟩ = some (.int .i64 (s + k)) := by rw [hW]; go_simp
        have f1 : W.cell? ⟨wr.heap.size, 1, none⟩ = some (.bool true) := by rw [hW]; go_simp
        have f2 : W.cell? ⟨g, 0, none⟩ = some (.int .i64 s) := by rw [hW, World.cell?_alloc_lt _ _ _ hgs1]; exact e0
        have f3 : W.cell? ⟨g, 1, none⟩ = some (.bool b) := by rw [hW, World.cell?_alloc_lt _ _ _ hgs1]; exact e1
        have HBW : Hid (Below w.heap.size w W) := by rw [hW]; exact HB.out.alloc HB.out.size _
        have fz : wr.heap.size < W.heap.size := two_lt f0
        have fg : g < W.heap.size := World.block_lt_of_cell? W _ f2
        rw [← hW]
        clear hW e0 e1
        (go_at_call 84; refine (sToneValid_any _ _ _).mono ?_; rintro e w3 ⟨rfl, hb3⟩)
        have c3a := (hb3.cell (p := ⟨wr.heap.size, 0, none⟩) fz).trans f0
        have c3b := (hb3.cell (p := ⟨wr.heap.size, 1, none⟩) fz).trans f1
        have c3c := (hb3.cell (p := ⟨g, 0, none⟩) fg).trans f2
        have c3d := (hb3.cell (p := ⟨g, 1, none⟩) fg).trans f3
        have fz3 := Nat.lt_of_lt_of_le fz hb3.size
        have fg3 := Nat.lt_of_lt_of_le fg hb3.size
        have HB3 := Lib.hid (bl_step HBW.out hb3)
        rw [hA]
        go_wp2
        go_region_held3 (fun wx => wx.cell? ⟨wr.heap.size, 0, none⟩ = some (.int .i64 (s + k)) ∧ wx.cell? ⟨wr.heap.size, 1, none⟩ = some (.bool true) ∧ wx.cell? ⟨g, 0, none⟩ = some (.int .i64 s) ∧ wx.cell? ⟨g, 1, none⟩ = some (.bool b)) (go_keep)
          (first | (go_at_call_of 88 (Value.agg #[Value.int .i64 (s + k), Value.bool true]); refine (l1Height_any _ _ u0 u1 _).mono ?_; rintro e w4 ⟨rfl, hb4⟩; have c4a := (hb4.cell (p := ⟨wr.heap.size, 0, none⟩) fz3).trans c3a; have c4b := (hb4.cell (p := ⟨wr.heap.size, 1, none⟩) fz3).trans c3b; have c4c := (hb4.cell (p := ⟨g, 0, none⟩) fg3).trans c3c; have c4d := (hb4.cell (p := ⟨g, 1, none⟩) fg3).trans c3d; have fz4 := Nat.lt_of_lt_of_le fz3 hb4.size; have fg4 := Nat.lt_of_lt_of_le fg3 hb4.size; have HB4 := Lib.hid (bl_step HB3.out.drew hb4)) | (go_at_call 88; refine (l1Height_any _ _ v0 v1 _).mono ?_; rintro e w5 ⟨rfl, hb5⟩; have c5a := (hb5.cell (p := ⟨wr.heap.size, 0, none⟩) fz4).trans c4a; have c5b := (hb5.cell (p := ⟨wr.heap.size, 1, none⟩) fz4).trans c4b; have c5c := (hb5.cell (p := ⟨g, 0, none⟩) fg4).trans c4c; have c5d := (hb5.cell (p := ⟨g, 1, none⟩) fg4).trans c4d; have fz5 := Nat.lt_of_lt_of_le fz4 hb5.size; have fg5 := Nat.lt_of_lt_of_le fg4 hb5.size; have HB5 := Lib.hid (bl_step HB4.out hb5)) | (go_at_call 87; refine (sMoved_any lo hi _ ys k _ hk0 hk1 HV.out HL.out _ (HH.out.below HB5.out (.inr (Nat.le_refl _)))).mono ?_; rintro e w6 ⟨u, rfl, hu, hb6⟩; have c6a := (hb6.cell (p := ⟨wr.heap.size, 0, none⟩) fz5).trans c5a; have c6b := (hb6.cell (p := ⟨wr.heap.size, 1, none⟩) fz5).trans c5b; have c6c := (hb6.cell (p := ⟨g, 0, none⟩) fg5).trans c5c; have c6d := (hb6.cell (p := ⟨g, 1, none⟩) fg5).trans c5d))
        (try rw [HG.out])
        have HB6 := Lib.hid (bl_step HB5.out hb6)
        clear hu f0 f1 f2 f3 c3a c3b c3c c3d c4a c4b c4c c4d c5a c5b c5c c5d c6a c6b c6c c6d
        go_wp2
        go_roundw
        case rel => exact ⟨2, .inr (.inr ⟨rfl, HM0.out, hitc_no2' (HYS.out) HG.out⟩), rfl, HB6.out⟩
        case measure => simp [intOf]
    · have HX := Lib.hid (mm_miss' HYS.out HM.out hm0 hm1)
      have HE : Hid (TBuilt2 w (mmL k ys) (mmB k ys) (.returned (.tuple #[.slice (some ⟨wr.heap.size, 0, none⟩) 0 0, .bool false])) (wr.alloc (.cells #[] 41))) := by
        rw [HX.out.1, HX.out.2]
        exact empty_built2 HB.out
      clear hm0 hm1
      go_wp2
      go_ret2
      exact HE.out
end Go.Proofs.YticapinlnlpbpaaDoor
