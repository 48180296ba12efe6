/-
  A tone moved and a melody moved, in the program: plain facts and both walks.
-/
import Derived.Test.YticapinlnlpbpaaDoorHeights
import Derived.Test.YticapinlnlpbpaaDoorMel
import Derived.Test.YticapinlnlpbpaaDoorMelT
namespace Go.Proofs.YticapinlnlpbpaaDoor
open Go.RowKit
set_option maxRecDepth 100000
set_option linter.unusedVariables false

/-- has the tone k steps higher of this kind the height that is asked? -/
def cnd (k z : Int) (c : Bool) (t : Int × Bool) : Bool := abv t.1 t.2 k c && (hgt (t.1 + k) c - hgt t.1 t.2 == z)
def tmo (k z : Int) (t : Int × Bool) : Bool := cnd k z false t || cnd k z true t
def tmv (k z : Int) (t : Int × Bool) : Int × Bool := (t.1 + k, !cnd k z false t)
def tmr (k z : Int) (t : Int × Bool) : Int × Bool := if tmo k z t then tmv k z t else (0, false)
theorem cnd_no1 {k z : Int} {c : Bool} {t : Int × Bool} (h : abv t.1 t.2 k c = false) : cnd k z c t = false := by simp [cnd, h]
theorem cnd_no2 {k z : Int} {c : Bool} {t : Int × Bool} (h : (hgt (t.1 + k) c - hgt t.1 t.2 == z) = false) : cnd k z c t = false := by
  unfold cnd; rw [h, Bool.and_false]
theorem cnd_yes {k z : Int} {c : Bool} {t : Int × Bool} (h : abv t.1 t.2 k c = true) (h' : (hgt (t.1 + k) c - hgt t.1 t.2 == z) = true) : cnd k z c t = true := by
  unfold cnd; rw [h, h']; rfl
theorem tmo_hit0 {k z : Int} {t : Int × Bool} (h : cnd k z false t = true) : tmo k z t = true ∧ tmr k z t = (t.1 + k, false) := by
  have e : tmo k z t = true := by unfold tmo; rw [h]; rfl
  exact ⟨e, by unfold tmr tmv; rw [e, h]; rfl⟩
theorem tmo_hit1 {k z : Int} {t : Int × Bool} (h : cnd k z false t = false) (h' : cnd k z true t = true) : tmo k z t = true ∧ tmr k z t = (t.1 + k, true) := by
  have e : tmo k z t = true := by unfold tmo; rw [h, h']; rfl
  exact ⟨e, by unfold tmr tmv; rw [e, h]; rfl⟩
theorem tmo_miss {k z : Int} {t : Int × Bool} (h : cnd k z false t = false) (h' : cnd k z true t = false) : tmo k z t = false ∧ tmr k z t = (0, false) := by
  have e : tmo k z t = false := by unfold tmo; rw [h, h']; rfl
  exact ⟨e, by unfold tmr; rw [e]; rfl⟩
theorem abv_vd {s k : Int} {b c : Bool} (h : abv s b k c = true) : vd s b = true ∧ vd (s + k) c = true ∧ -20 ≤ k ∧ k ≤ 20 := by
  unfold abv at h
  rw [Bool.and_eq_true, Bool.and_eq_true, Bool.and_eq_true] at h
  exact ⟨h.1.1.1, h.2, by simpa using h.1.1.2, by simpa using h.1.2⟩

theorem above_yes (s k : Int) (b c : Bool) (h : abv s b k c = true) (w : World) :
    Calls Tryd.prog 74 #[.agg #[.int .i64 s, .bool b], .int .i64 k, .bool c] w fun e w' => e = .returned (.tuple #[.agg #[.int .i64 (s + k), .bool c], .bool true]) ∧ Below w.heap.size w w' := by
  have K := toneAbove_any s k b c w
  rw [(ab_yes h).1, (ab_yes h).2, h] at K
  exact K
theorem above_no (s k : Int) (b c : Bool) (h : abv s b k c = false) (w : World) :
    Calls Tryd.prog 74 #[.agg #[.int .i64 s, .bool b], .int .i64 k, .bool c] w fun e w' => e = .returned (.tuple #[.agg #[.int .i64 0, .bool false], .bool false]) ∧ Below w.heap.size w w' := by
  have K := toneAbove_any s k b c w
  rw [(ab_no h).1, (ab_no h).2, h] at K
  exact K

/-- the boxes of a tone's move -/
structure TvInv (s : Int) (b : Bool) (w wr : World) : Prop where
  c0 : wr.cell? ⟨w.heap.size, 0, none⟩ = some (.int .i64 s)
  c1 : wr.cell? ⟨w.heap.size, 1, none⟩ = some (.bool b)
  r0 : wr.cell? ⟨w.heap.size + 1, 0, none⟩ = some (.int .i64 0)
  r1 : wr.cell? ⟨w.heap.size + 1, 1, none⟩ = some (.bool false)
  rf : ∀ o, wr.frozen? ⟨w.heap.size + 1, o, none⟩ = false
  z : w.heap.size + 1 < wr.heap.size
  bl : Below w.heap.size w wr
theorem TvInv.below {s : Int} {b : Bool} {w wr w1 : World} (h : TvInv s b w wr) (hb : Below wr.heap.size wr w1) : TvInv s b w w1 := by
  have z := h.z
  exact ⟨(hb.cell (p := ⟨w.heap.size, 0, none⟩) (by show w.heap.size < _; omega)).trans h.c0, (hb.cell (p := ⟨w.heap.size, 1, none⟩) (by show w.heap.size < _; omega)).trans h.c1, (hb.cell (p := ⟨w.heap.size + 1, 0, none⟩) z).trans h.r0,
    (hb.cell (p := ⟨w.heap.size + 1, 1, none⟩) z).trans h.r1, fun o => (hb.frozen (p := ⟨w.heap.size + 1, o, none⟩) z).trans (h.rf o), Nat.lt_of_lt_of_le z hb.size, bl_step h.bl hb⟩
theorem TvInv.alloc {s : Int} {b : Bool} {w wr : World} (h : TvInv s b w wr) (o : Obj) : TvInv s b w (wr.alloc o) := h.below ((Below.refl _ _).alloc (Nat.le_refl _) o)
theorem TvInv.drewN {s : Int} {b : Bool} {w wr : World} (h : TvInv s b w wr) (n : Nat) : TvInv s b w (wr.drewN n) := h.below (bl_drewN (Below.refl _ _) n)
theorem TvInv.start (s : Int) (b : Bool) (w : World) : TvInv s b w ((w.alloc (.cells #[.int .i64 s, .bool b] 41)).alloc (.cells #[.int .i64 0, .bool false] 41)) := by
  refine ⟨by go_simp, by go_simp, by go_simp, by go_simp, fun o => ?_, by simp, ((Below.refl _ _).alloc (Nat.le_refl _) _).alloc (by simp) _⟩
  have hh := heap_alloc_new (w.alloc (.cells #[.int .i64 s, .bool b] 41)) (.cells #[.int .i64 0, .bool false] 41)
  rw [World.size_alloc] at hh
  unfold World.frozen?
  dsimp only
  rw [hh]
  simp

theorem TvInv.drew {s : Int} {b : Bool} {w wr : World} (h : TvInv s b w wr) : TvInv s b w wr.drew := h.below (Below.refl _ _).drew
theorem two_lt {W : World} {n : Nat} {v : Value} (h : W.cell? ⟨n, 0, none⟩ = some v) : n < W.heap.size := World.block_lt_of_cell? W ⟨n, 0, none⟩ h

set_option maxHeartbeats 8000000 in
theorem tmove_any (s k z : Int) (b : Bool) (hv : vd s b = true) (w : World) (ht : StepTab w) :
    Calls Tryd.prog 94 #[.agg #[.int .i64 s, .bool b], .int .i64 k, .int .i64 z] w fun e w' => e = .returned (.tuple #[.agg #[.int .i64 (tmr k z (s, b)).1, .bool (tmr k z (s, b)).2], .bool (tmo k z (s, b))]) ∧ Below w.heap.size w w' := by
  have i0 : ∀ w, (Instr.index 96 (.agg #[.bool false, .bool true]) (.int .i64 0)).run Tryd.prog w = .ok (.bool false) w := fun _ => by kernel_rfl
  have i1 : ∀ w, (Instr.index 96 (.agg #[.bool false, .bool true]) (.int .i64 1)).run Tryd.prog w = .ok (.bool true) w := fun _ => by kernel_rfl
  have HT := Lib.hid ht
  clear ht
  have hI0 := Lib.hid (TvInv.start s b w)
  obtain ⟨v0, v1⟩ := vd_in hv
  obtain ⟨g0, g1⟩ := hgt_bd (b := b) v0 v1
  go_enter Tryd.func94, Tryd.ntmps94
  go_wp2
  go_loopw [13] (fun i wr => ∃ j : Int, (j = 0 ∨ j = 1 ∧ cnd k z false (s, b) = false ∨ j = 2 ∧ cnd k z false (s, b) = false ∧ cnd k z true (s, b) = false) ∧ i = .int .i64 j ∧ TvInv s b w wr) (fun i _ => 2 - (intOf i).toNat)
  case atStart => exact ⟨0, .inl rfl, rfl, hI0.out⟩
  case round =>
    obtain ⟨j, hj, rfl, hI⟩ := hrel
    have e0 := hI.c0
    have e1 := hI.c1
    have e2 := hI.r0
    have e3 := hI.r1
    have HI := Lib.hid hI
    clear hI hI0
    rcases hj with rfl | ⟨rfl, hm0⟩ | ⟨rfl, hm0, hm1⟩
    · by_cases hA : abv s b k false = false
      · have HA := Lib.hid hA
        go_wp2_with (fail)
        (go_at_call 74; refine (above_no s k b false HA.out _).mono ?_; rintro e w1 ⟨rfl, hb1⟩)
        have HI1 := Lib.hid (HI.out.below hb1)
        clear e0 e1 e2 e3 hA
        go_wp2
        go_quiet (fail)
        go_wp2
        go_roundw
        case rel => exact ⟨1, .inr (.inl ⟨rfl, cnd_no1 (t := (s, b)) HA.out⟩), rfl, (HI1.out.alloc _).drewN _⟩
        case measure => simp [intOf]
      rw [Bool.not_eq_false] at hA
      obtain ⟨_, hu, _, _⟩ := abv_vd hA
      obtain ⟨u0, u1⟩ := vd_in hu
      obtain ⟨g2, g3⟩ := hgt_bd (b := false) u0 u1
      have sw : IntKind.i64.wrap (hgt (s + k) false - hgt s b) = hgt (s + k) false - hgt s b := IntWalk.i64_in _ (by omega)
      by_cases hG : (hgt (s + k) false - hgt s b == z) = true
      · have HH := Lib.hid (tmo_hit0 (cnd_yes (t := (s, b)) hA hG))
        go_wp2_with (fail)
        (go_at_call 74; refine (above_yes s k b false hA _).mono ?_; rintro e w1 ⟨rfl, hb1⟩)
        have hI1 := HI.out.below hb1
        clear e0 e1 e2 e3
        go_wp2
        obtain ⟨W, hW⟩ : ∃ W, W = w1.alloc (.cells #[.int .i64 (s + k), .bool false] 41) := ⟨_, rfl⟩
        have f0 : W.cell? ⟨w1.heap.size, 0, none⟩ = some (.int .i64 (s + k)) := by rw [hW]; go_simp
        have f1 : W.cell? ⟨w1.heap.size, 1, none⟩ = some (.bool false) := by rw [hW]; go_simp
        have hI2 : TvInv s b w W := by rw [hW]; exact hI1.alloc _
        have k0 := hI2.c0
        have k1 := hI2.c1
        have HI2 := Lib.hid hI2
        have HT2 : Hid (StepTab W.drew) := HT.out.below hI2.bl.drew
        have fz : w1.heap.size < W.heap.size := two_lt f0
        have fw : w.heap.size < W.heap.size := two_lt k0
        rw [← hW]
        clear hW hI1 hI2
        go_region_held3 (fun wx => wx.cell? ⟨w.heap.size, 0, none⟩ = some (.int .i64 s) ∧ wx.cell? ⟨w.heap.size, 1, none⟩ = some (.bool b) ∧ wx.cell? ⟨w1.heap.size, 0, none⟩ = some (.int .i64 (s + k)) ∧ wx.cell? ⟨w1.heap.size, 1, none⟩ = some (.bool false)) (go_keep)
          (first | (go_at_call_of 69 (Value.agg #[Value.int .i64 (s + k), Value.bool false]); refine (height_any _ _ u0 u1 _ HT2.out).mono ?_; rintro e w3 ⟨rfl, hb3⟩; have HT3 := Lib.hid (HT2.out.below hb3); have HI3 := Lib.hid (HI2.out.drew.below hb3); have c3a := HI3.out.c0; have c3b := HI3.out.c1; have c3c := (hb3.cell (p := ⟨w1.heap.size, 0, none⟩) fz).trans f0; have c3d := (hb3.cell (p := ⟨w1.heap.size, 1, none⟩) fz).trans f1; have fz3 := Nat.lt_of_lt_of_le fz hb3.size) | (go_at_call 69; refine (height_any _ _ v0 v1 _ HT3.out).mono ?_; rintro e w4 ⟨rfl, hb4⟩; have HI4 := Lib.hid (HI3.out.below hb4); have c4a := HI4.out.c0; have c4b := HI4.out.c1; have c4c := (hb4.cell (p := ⟨w1.heap.size, 0, none⟩) fz3).trans c3c; have c4d := (hb4.cell (p := ⟨w1.heap.size, 1, none⟩) fz3).trans c3d))
        have rz0 := HI4.out.r0
        have rz1 := HI4.out.r1
        have rzf := HI4.out.rf
        have hbw := HI4.out.bl
        go_wp2
        refine bodyPost_ret (v := .tuple #[.agg #[.int .i64 (s + k), .bool false], .bool true]) (by simp only [results, Tryd.results94]; go_simp) rfl ⟨by rw [HH.out.1, HH.out.2], ?_⟩
        exact (hbw.setCell (by simp) _).setCell (by simp) _
      · rw [Bool.not_eq_true] at hG
        have HG := Lib.hid hG
        go_wp2_with (fail)
        (go_at_call 74; refine (above_yes s k b false hA _).mono ?_; rintro e w1 ⟨rfl, hb1⟩)
        have hI1 := HI.out.below hb1
        clear e0 e1 e2 e3
        go_wp2
        obtain ⟨W, hW⟩ : ∃ W, W = w1.alloc (.cells #[.int .i64 (s + k), .bool false] 41) := ⟨_, rfl⟩
        have f0 : W.cell? ⟨w1.heap.size, 0, none⟩ = some (.int .i64 (s + k)) := by rw [hW]; go_simp
        have f1 : W.cell? ⟨w1.heap.size, 1, none⟩ = some (.bool false) := by rw [hW]; go_simp
        have hI2 : TvInv s b w W := by rw [hW]; exact hI1.alloc _
        have k0 := hI2.c0
        have k1 := hI2.c1
        have HI2 := Lib.hid hI2
        have HT2 : Hid (StepTab W.drew) := HT.out.below hI2.bl.drew
        have fz : w1.heap.size < W.heap.size := two_lt f0
        have fw : w.heap.size < W.heap.size := two_lt k0
        rw [← hW]
        clear hW hI1 hI2
        go_region_held3 (fun wx => wx.cell? ⟨w.heap.size, 0, none⟩ = some (.int .i64 s) ∧ wx.cell? ⟨w.heap.size, 1, none⟩ = some (.bool b) ∧ wx.cell? ⟨w1.heap.size, 0, none⟩ = some (.int .i64 (s + k)) ∧ wx.cell? ⟨w1.heap.size, 1, none⟩ = some (.bool false)) (go_keep)
          (first | (go_at_call_of 69 (Value.agg #[Value.int .i64 (s + k), Value.bool false]); refine (height_any _ _ u0 u1 _ HT2.out).mono ?_; rintro e w3 ⟨rfl, hb3⟩; have HT3 := Lib.hid (HT2.out.below hb3); have HI3 := Lib.hid (HI2.out.drew.below hb3); have c3a := HI3.out.c0; have c3b := HI3.out.c1; have c3c := (hb3.cell (p := ⟨w1.heap.size, 0, none⟩) fz).trans f0; have c3d := (hb3.cell (p := ⟨w1.heap.size, 1, none⟩) fz).trans f1; have fz3 := Nat.lt_of_lt_of_le fz hb3.size) | (go_at_call 69; refine (height_any _ _ v0 v1 _ HT3.out).mono ?_; rintro e w4 ⟨rfl, hb4⟩; have HI4 := Lib.hid (HI3.out.below hb4); have c4a := HI4.out.c0; have c4b := HI4.out.c1; have c4c := (hb4.cell (p := ⟨w1.heap.size, 0, none⟩) fz3).trans c3c; have c4d := (hb4.cell (p := ⟨w1.heap.size, 1, none⟩) fz3).trans c3d))
        go_wp2
        go_roundw
        case rel => exact ⟨1, .inr (.inl ⟨rfl, cnd_no2 (t := (s, b)) HG.out⟩), rfl, HI4.out⟩
        case measure => simp [intOf]
    · have HM0 := Lib.hid hm0
      clear hm0
      by_cases hA : abv s b k true = false
      · have HA := Lib.hid hA
        go_wp2_with (fail)
        (go_at_call 74; refine (above_no s k b true HA.out _).mono ?_; rintro e w1 ⟨rfl, hb1⟩)
        have HI1 := Lib.hid (HI.out.below hb1)
        clear e0 e1 e2 e3 hA
        go_wp2
        go_quiet (fail)
        go_wp2
        go_roundw
        case rel => exact ⟨2, .inr (.inr ⟨rfl, HM0.out, cnd_no1 (t := (s, b)) HA.out⟩), rfl, (HI1.out.alloc _).drewN _⟩
        case measure => simp [intOf]
      rw [Bool.not_eq_false] at hA
      obtain ⟨_, hu, _, _⟩ := abv_vd hA
      obtain ⟨u0, u1⟩ := vd_in hu
      obtain ⟨g2, g3⟩ := hgt_bd (b := true) u0 u1
      have sw : IntKind.i64.wrap (hgt (s + k) true - hgt s b) = hgt (s + k) true - hgt s b := IntWalk.i64_in _ (by omega)
      by_cases hG : (hgt (s + k) true - hgt s b == z) = true
      · have HH := Lib.hid (tmo_hit1 HM0.out (cnd_yes (t := (s, b)) hA hG))
        go_wp2_with (fail)
        (go_at_call 74; refine (above_yes s k b true hA _).mono ?_; rintro e w1 ⟨rfl, hb1⟩)
        have hI1 := HI.out.below hb1
        clear e0 e1 e2 e3
        go_wp2
        obtain ⟨W, hW⟩ : ∃ W, W = w1.alloc (.cells #[.int .i64 (s + k), .bool true] 41) := ⟨_, rfl⟩
        have f0 : W.cell? ⟨w1.heap.size, 0, none⟩ = some (.int .i64 (s + k)) := by rw [hW]; go_simp
        have f1 : W.cell? ⟨w1.heap.size, 1, none⟩ = some (.bool true) := by rw [hW]; go_simp
        have hI2 : TvInv s b w W := by rw [hW]; exact hI1.alloc _
        have k0 := hI2.c0
        have k1 := hI2.c1
        have HI2 := Lib.hid hI2
        have HT2 : Hid (StepTab W.drew) := HT.out.below hI2.bl.drew
        have fz : w1.heap.size < W.heap.size := two_lt f0
        have fw : w.heap.size < W.heap.size := two_lt k0
        rw [← hW]
        clear hW hI1 hI2
        go_region_held3 (fun wx => wx.cell? ⟨w.heap.size, 0, none⟩ = some (.int .i64 s) ∧ wx.cell? ⟨w.heap.size, 1, none⟩ = some (.bool b) ∧ wx.cell? ⟨w1.heap.size, 0, none⟩ = some (.int .i64 (s + k)) ∧ wx.cell? ⟨w1.heap.size, 1, none⟩ = some (.bool true)) (go_keep)
          (first | (go_at_call_of 69 (Value.agg #[Value.int .i64 (s + k), Value.bool true]); refine (height_any _ _ u0 u1 _ HT2.out).mono ?_; rintro e w3 ⟨rfl, hb3⟩; have HT3 := Lib.hid (HT2.out.below hb3); have HI3 := Lib.hid (HI2.out.drew.below hb3); have c3a := HI3.out.c0; have c3b := HI3.out.c1; have c3c := (hb3.cell (p := ⟨w1.heap.size, 0, none⟩) fz).trans f0; have c3d := (hb3.cell (p := ⟨w1.heap.size, 1, none⟩) fz).trans f1; have fz3 := Nat.lt_of_lt_of_le fz hb3.size) | (go_at_call 69; refine (height_any _ _ v0 v1 _ HT3.out).mono ?_; rintro e w4 ⟨rfl, hb4⟩; have HI4 := Lib.hid (HI3.out.below hb4); have c4a := HI4.out.c0; have c4b := HI4.out.c1; have c4c := (hb4.cell (p := ⟨w1.heap.size, 0, none⟩) fz3).trans c3c; have c4d := (hb4.cell (p := ⟨w1.heap.size, 1, none⟩) fz3).trans c3d))
        have rz0 := HI4.out.r0
        have rz1 := HI4.out.r1
        have rzf := HI4.out.rf
        have hbw := HI4.out.bl
        go_wp2
        refine bodyPost_ret (v := .tuple #[.agg #[.int .i64 (s + k), .bool true], .bool true]) (by simp only [results, Tryd.results94]; go_simp) rfl ⟨by rw [HH.out.1, HH.out.2], ?_⟩
        exact (hbw.setCell (by simp) _).setCell (by simp) _
      · rw [Bool.not_eq_true] at hG
        have HG := Lib.hid hG
        go_wp2_with (fail)
        (go_at_call 74; refine (above_yes s k b true hA _).mono ?_; rintro e w1 ⟨rfl, hb1⟩)
        have hI1 := HI.out.below hb1
        clear e0 e1 e2 e3
        go_wp2
        obtain ⟨W, hW⟩ : ∃ W, W = w1.alloc (.cells #[.int .i64 (s + k), .bool true] 41) := ⟨_, rfl⟩
        have f0 : W.cell? ⟨w1.heap.size, 0, none⟩ = some (.int .i64 (s + k)) := by rw [hW]; go_simp
        have f1 : W.cell? ⟨w1.heap.size, 1, none⟩ = some (.bool true) := by rw [hW]; go_simp
        have hI2 : TvInv s b w W := by rw [hW]; exact hI1.alloc _
        have k0 := hI2.c0
        have k1 := hI2.c1
        have HI2 := Lib.hid hI2
        have HT2 : Hid (StepTab W.drew) := HT.out.below hI2.bl.drew
        have fz : w1.heap.size < W.heap.size := two_lt f0
        have fw : w.heap.size < W.heap.size := two_lt k0
        rw [← hW]
        clear hW hI1 hI2
        go_region_held3 (fun wx => wx.cell? ⟨w.heap.size, 0, none⟩ = some (.int .i64 s) ∧ wx.cell? ⟨w.heap.size, 1, none⟩ = some (.bool b) ∧ wx.cell? ⟨w1.heap.size, 0, none⟩ = some (.int .i64 (s + k)) ∧ wx.cell? ⟨w1.heap.size, 1, none⟩ = some (.bool true)) (go_keep)
          (first | (go_at_call_of 69 (Value.agg #[Value.int .i64 (s + k), Value.bool true]); refine (height_any _ _ u0 u1 _ HT2.out).mono ?_; rintro e w3 ⟨rfl, hb3⟩; have HT3 := Lib.hid (HT2.out.below hb3); have HI3 := Lib.hid (HI2.out.drew.below hb3); have c3a := HI3.out.c0; have c3b := HI3.out.c1; have c3c := (hb3.cell (p := ⟨w1.heap.size, 0, none⟩) fz).trans f0; have c3d := (hb3.cell (p := ⟨w1.heap.size, 1, none⟩) fz).trans f1; have fz3 := Nat.lt_of_lt_of_le fz hb3.size) | (go_at_call 69; refine (height_any _ _ v0 v1 _ HT3.out).mono ?_; rintro e w4 ⟨rfl, hb4⟩; have HI4 := Lib.hid (HI3.out.below hb4); have c4a := HI4.out.c0; have c4b := HI4.out.c1; have c4c := (hb4.cell (p := ⟨w1.heap.size, 0, none⟩) fz3).trans c3c; have c4d := (hb4.cell (p := ⟨w1.heap.size, 1, none⟩) fz3).trans c3d))
        go_wp2
        go_roundw
        case rel => exact ⟨2, .inr (.inr ⟨rfl, HM0.out, cnd_no2 (t := (s, b)) HG.out⟩), rfl, HI4.out⟩
        case measure => simp [intOf]
    · have HM := Lib.hid (tmo_miss hm0 hm1)
      have ef := HI.out.rf
      have hbw := HI.out.bl
      clear hm0 hm1
      go_wp2
      refine bodyPost_ret (v := .tuple #[.agg #[.int .i64 0, .bool false], .bool false]) (by simp only [results, Tryd.results94]; go_simp) rfl ⟨by rw [HM.out.1, HM.out.2], ?_⟩
      exact (hbw.setCell (by simp) _).setCell (by simp) _

/-- what a moved melody is -/
def MvRes (w : World) (k z : Int) (xs : List (Int × Bool)) (e : Ending) (w' : World) : Prop :=
  ∃ p, e = .returned (.tuple #[.pointer p, .bool (xs.all (tmo k z))]) ∧ Mel w' w.heap.size p (if xs.all (tmo k z) then xs.map (tmv k z) else []) ∧ Below w.heap.size w w'
theorem mv_no {w w' : World} {k z : Int} {xs : List (Int × Bool)} (h : xs.all (tmo k z) = false) (hb : Below w.heap.size w w') : MvRes w k z xs (.returned (.tuple #[.pointer none, .bool false])) w' :=
  ⟨none, by rw [h], by rw [h]; exact rfl, hb⟩
theorem all_cons_no1 {f : Int × Bool → Bool} {t : Int × Bool} {r : List (Int × Bool)} (h : f t = false) : (t :: r).all f = false := by simp [h]
theorem all_cons_no2 {f : Int × Bool → Bool} {t : Int × Bool} {r : List (Int × Bool)} (h : r.all f = false) : (t :: r).all f = false := by rw [List.all_cons, h, Bool.and_false]
theorem all_cons_yes {f : Int × Bool → Bool} {t : Int × Bool} {r : List (Int × Bool)} (h : f t = true) (h' : r.all f = true) : (t :: r).all f = true := by rw [List.all_cons, h, h']; rfl

set_option maxHeartbeats 4000000 in
theorem mmove_any (k z : Int) (xs : List (Int × Bool)) (hx : xs.all (fun t => vd t.1 t.2) = true) : ∀ (p : Option Addr) (lo : Nat) (w : World), Mel w lo p xs → StepTab w →
    Calls Tryd.prog 75 #[.pointer p, .int .i64 k, .int .i64 z] w (MvRes w k z xs) := by
  induction xs with
  | nil =>
    intro p lo w hp ht
    have hp0 : p = none := hp
    subst hp0
    have HE : Hid (MvRes w k z [] (.returned (.tuple #[.pointer none, .bool true])) w) := ⟨none, rfl, rfl, Below.refl _ _⟩
    clear hp ht
    go_enter Tryd.func75, Tryd.ntmps75
    go_wp2
    go_ret2
    exact HE.out
  | cons t r ih =>
    intro p lo w hp ht
    rw [List.all_cons, Bool.and_eq_true] at hx
    obtain ⟨s, b⟩ := t
    obtain ⟨hv, hr0⟩ := hx
    obtain ⟨B, p', rfl, hlo, hB, c0, c1, c2, hr⟩ := hp.head
    have HV := Lib.hid hv
    have HR := Lib.hid hr
    have HT := Lib.hid ht
    have HI := Lib.hid (ih hr0)
    clear hp hr ih ht hv hr0
    by_cases hm : tmo k z (s, b) = false
    · have HN := Lib.hid (fun w' => mv_no (w := w) (w' := w') (all_cons_no1 (r := r) hm))
      go_enter Tryd.func75, Tryd.ntmps75
      go_wp2_with (fail)
      (go_at_call 94; refine (tmove_any s k z b HV.out _ HT.out).mono ?_; rintro e w1 ⟨rfl, hb1⟩)
      go_wp2
      go_ret2
      exact HN.out _ (hb1.alloc hb1.size _)
    rw [Bool.not_eq_false] at hm
    have HM := Lib.hid hm
    have HX : Hid (tmr k z (s, b) = tmv k z (s, b)) := by
      show tmr k z (s, b) = _
      unfold tmr; rw [hm]; rfl
    by_cases ha : r.all (tmo k z) = false
    · have HN := Lib.hid (fun w' => mv_no (w := w) (w' := w') (all_cons_no2 (t := (s, b)) ha))
      have HA := Lib.hid ha
      clear ha
      go_enter Tryd.func75, Tryd.ntmps75
      go_wp2_with (fail)
      (go_at_call 94; refine (tmove_any s k z b HV.out _ HT.out).mono ?_; rintro e w1 ⟨rfl, hb1⟩)
      have d2 := (hb1.cell (p := ⟨B, 2, none⟩) hB).trans c2
      have hB1 : B < w1.heap.size := Nat.lt_of_lt_of_le hB hb1.size
      have hbw := hb1.alloc hb1.size (.cells #[.int .i64 (tmr k z (s, b)).1, .bool (tmr k z (s, b)).2] 41)
      clear c0 c1 c2
      go_wp2_with (fail)
      (go_at_call 75; refine (HI.out p' lo _ (HR.out.below hbw) (HT.out.below hbw)).mono ?_; rintro e w2 ⟨q, rfl, hq, hb2⟩)
      have HB := Lib.hid (bl_step hbw hb2)
      clear hq
      rw [HA.out]
      go_wp2
      go_ret2
      exact HN.out _ HB.out
    rw [Bool.not_eq_false] at ha
    have HA := Lib.hid ha
    have HY := Lib.hid (all_cons_yes hm ha)
    clear ha
    go_enter Tryd.func75, Tryd.ntmps75
    go_wp2_with (fail)
    (go_at_call 94; refine (tmove_any s k z b HV.out _ HT.out).mono ?_; rintro e w1 ⟨rfl, hb1⟩)
    have d2 := (hb1.cell (p := ⟨B, 2, none⟩) hB).trans c2
    have hB1 : B < w1.heap.size := Nat.lt_of_lt_of_le hB hb1.size
    have hbw := hb1.alloc hb1.size (.cells #[.int .i64 (tmr k z (s, b)).1, .bool (tmr k z (s, b)).2] 41)
    clear c0 c1 c2
    go_wp2_with (fail)
    (go_at_call 75; refine (HI.out p' lo _ (HR.out.below hbw) (HT.out.below hbw)).mono ?_; rintro e w2 ⟨q, rfl, hq, hb2⟩)
    have m0 : w2.cell? ⟨w1.heap.size, 0, none⟩ = some (.int .i64 (tmr k z (s, b)).1) := (hb2.cell (p := ⟨w1.heap.size, 0, none⟩) (by simp)).trans (by go_simp)
    have m1 : w2.cell? ⟨w1.heap.size, 1, none⟩ = some (.bool (tmr k z (s, b)).2) := (hb2.cell (p := ⟨w1.heap.size, 1, none⟩) (by simp)).trans (by go_simp)
    rw [HA.out] at hq
    have hbq := bl_step hbw hb2
    have HE : Hid (MvRes w k z ((s, b) :: r) (.returned (.tuple #[.pointer (some ⟨w2.heap.size, 0, none⟩), .bool true])) (w2.alloc (.cells #[.int .i64 (tmr k z (s, b)).1, .bool (tmr k z (s, b)).2, .pointer q] 99))) := by
      refine ⟨_, by rw [HY.out], ?_, hbq.alloc hbq.size _⟩
      rw [HY.out, if_pos rfl, List.map_cons, HX.out]
      exact (hq.mono (by have := hbw.size; omega)).cons_ (t := tmv k z (s, b)) hbq.size
    clear hq
    rw [HA.out]
    go_wp2
    go_ret2
    exact HE.out
end Go.Proofs.YticapinlnlpbpaaDoor
