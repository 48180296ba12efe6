/-
  MelodyMove in the program.
-/
import Derived.Test.YticapinlnlpbpaaDoorMmv
import Derived.Test.YticapinlnlpbpaaDoorMelB
import Derived.Test.YticapinlnlpbpaaDoorMelJ
namespace Go.Proofs.YticapinlnlpbpaaDoor
open Go.RowKit
set_option maxRecDepth 100000
set_option linter.unusedVariables false

/-- does the move succeed with a first tone of this kind? -/
def hitc (k : Int) (c : Bool) : List (Int × Bool) → Bool
  | [] => false
  | t :: r => abv t.1 t.2 k c && (t :: r).all (tmo k (hgt (t.1 + k) c - hgt t.1 t.2))
def mvz (k : Int) (c : Bool) : List (Int × Bool) → List (Int × Bool)
  | [] => []
  | t :: r => (t :: r).map (tmv k (hgt (t.1 + k) c - hgt t.1 t.2))
def mmB (k : Int) (xs : List (Int × Bool)) : Bool := mv xs && (xs.isEmpty || (hitc k false xs || hitc k true xs))
def mmL (k : Int) (xs : List (Int × Bool)) : List (Int × Bool) := if mv xs then (if hitc k false xs then mvz k false xs else if hitc k true xs then mvz k true xs else []) else []
theorem mm_no1 {k : Int} {xs : List (Int × Bool)} (h : mv xs = false) : mmL k xs = [] ∧ mmB k xs = false := by simp [mmL, mmB, h]
theorem mm_nil (k : Int) : mmL k [] = [] ∧ mmB k [] = true := ⟨rfl, rfl⟩
theorem mm_hit0 {k : Int} {xs : List (Int × Bool)} (h : mv xs = true) (h0 : hitc k false xs = true) : mmL k xs = mvz k false xs ∧ mmB k xs = true := by
  unfold mmL mmB; rw [h, h0]; simp
theorem mm_hit1 {k : Int} {xs : List (Int × Bool)} (h : mv xs = true) (h0 : hitc k false xs = false) (h1 : hitc k true xs = true) : mmL k xs = mvz k true xs ∧ mmB k xs = true := by
  unfold mmL mmB; rw [h, h0, h1]; simp
theorem mm_miss {k : Int} {t : Int × Bool} {r : List (Int × Bool)} (h : mv (t :: r) = true) (h0 : hitc k false (t :: r) = false) (h1 : hitc k true (t :: r) = false) : mmL k (t :: r) = [] ∧ mmB k (t :: r) = false := by
  unfold mmL mmB; rw [h, h0, h1]; simp
theorem hitc_no1 {k : Int} {c : Bool} {t : Int × Bool} {r : List (Int × Bool)} (h : abv t.1 t.2 k c = false) : hitc k c (t :: r) = false := by
  show (abv t.1 t.2 k c && (t :: r).all (tmo k (hgt (t.1 + k) c - hgt t.1 t.2))) = false
  rw [h, Bool.false_and]
theorem hitc_no2 {k : Int} {c : Bool} {t : Int × Bool} {r : List (Int × Bool)} (h : (t :: r).all (tmo k (hgt (t.1 + k) c - hgt t.1 t.2)) = false) : hitc k c (t :: r) = false := by
  show (abv t.1 t.2 k c && (t :: r).all (tmo k (hgt (t.1 + k) c - hgt t.1 t.2))) = false
  rw [h, Bool.and_false]
theorem hitc_yes {k : Int} {c : Bool} {t : Int × Bool} {r : List (Int × Bool)} (h : abv t.1 t.2 k c = true) (h' : (t :: r).all (tmo k (hgt (t.1 + k) c - hgt t.1 t.2)) = true) : hitc k c (t :: r) = true := by
  show (abv t.1 t.2 k c && (t :: r).all (tmo k (hgt (t.1 + k) c - hgt t.1 t.2))) = true
  rw [h, h']; rfl
theorem mvz_len (k : Int) (c : Bool) (xs : List (Int × Bool)) : (mvz k c xs).length = xs.length := by cases xs <;> simp [mvz]
theorem mmL_len (k : Int) (xs : List (Int × Bool)) : (mmL k xs).length ≤ 24 := by
  unfold mmL
  by_cases h : mv xs = true
  · have hl : xs.length ≤ 24 := by simp [mv] at h; exact h.1
    rw [if_pos h]
    split
    · rw [mvz_len]; exact hl
    · split
      · rw [mvz_len]; exact hl
      · simp
  · rw [if_neg h]; simp
theorem mv_tail {t : Int × Bool} {r : List (Int × Bool)} (h : mv (t :: r) = true) : vd t.1 t.2 = true ∧ (t :: r).all (fun u => vd u.1 u.2) = true ∧ (t :: r).length ≤ 24 := by
  unfold mv at h
  rw [Bool.and_eq_true] at h
  have h2 : (t :: r).all (fun u => vd u.1 u.2) = true := h.2
  have h3 := h2
  rw [List.all_cons, Bool.and_eq_true] at h3
  exact ⟨h3.1, h2, by simpa using h.1⟩

theorem hitc_no1' {k : Int} {c : Bool} {t : Int × Bool} {r ys : List (Int × Bool)} (e : ys = t :: r) (h : abv t.1 t.2 k c = false) : hitc k c ys = false := by subst e; exact hitc_no1 h
theorem hitc_no2' {k : Int} {c : Bool} {t : Int × Bool} {r ys : List (Int × Bool)} (e : ys = t :: r) (h : ys.all (tmo k (hgt (t.1 + k) c - hgt t.1 t.2)) = false) : hitc k c ys = false := by subst e; exact hitc_no2 h
theorem hitc_yes' {k : Int} {c : Bool} {t : Int × Bool} {r ys : List (Int × Bool)} (e : ys = t :: r) (h : abv t.1 t.2 k c = true) (h' : ys.all (tmo k (hgt (t.1 + k) c - hgt t.1 t.2)) = true) : hitc k c ys = true ∧ mvz k c ys = ys.map (tmv k (hgt (t.1 + k) c - hgt t.1 t.2)) := by
  subst e; exact ⟨hitc_yes h h', rfl⟩
theorem mm_miss' {k : Int} {t : Int × Bool} {r ys : List (Int × Bool)} (e : ys = t :: r) (h : mv ys = true) (h0 : hitc k false ys = false) (h1 : hitc k true ys = false) : mmL k ys = [] ∧ mmB k ys = false := by subst e; exact mm_miss h h0 h1

theorem empty_built2 {w w1 : World} {ok : Bool} (hb : Below w.heap.size w w1) : TBuilt2 w [] ok (.returned (.tuple #[.slice (some ⟨w1.heap.size, 0, none⟩) 0 0, .bool ok])) (w1.alloc (.cells #[] 41)) :=
  ⟨_, rfl, (empty_row w1).lohi hb.size (Nat.le_refl _), hb.alloc hb.size _⟩

set_option maxHeartbeats 8000000 in
theorem melodyMove_cons (lo hi : Nat) (v : Value) (ys : List (Int × Bool)) (s : Int) (b : Bool) (r : List (Int × Bool)) (HYS : Hid (ys = (s, b) :: r)) (k : Int) (w : World) (h : TRow w lo hi v ys) (ht : StepTab w) (hm : mv ys = true) :
    Calls Tryd.prog 42 #[v, .int .i64 k] w (TBuilt2 w (mmL k ys) (mmB k ys)) := by
  have HT := Lib.hid ht
  clear ht
  have hmt := mv_tail (t := (s, b)) (r := r) (by rw [← HYS.out]; exact hm)
  rw [← HYS.out] at hmt
  obtain ⟨hv, hall, hlen⟩ := hmt
  have HV := Lib.hid hall
  have HM := Lib.hid hm
  have HVL := Lib.hid (mvl_yes hm)
  have hv : vd s b = true := hv
  obtain ⟨v0, v1⟩ := vd_in hv
  obtain ⟨g0, g1⟩ := hgt_bd (b := b) v0 v1
  have HL := Lib.hid hlen
  have i0 : ∀ w, (Instr.index 96 (.agg #[.bool false, .bool true]) (.int .i64 0)).run Tryd.prog w = .ok (.bool false) w := fun _ => by kernel_rfl
  have i1 : ∀ w, (Instr.index 96 (.agg #[.bool false, .bool true]) (.int .i64 1)).run Tryd.prog w = .ok (.bool true) w := fun _ => by kernel_rfl
  clear hall hlen hv
  go_enter Tryd.func42, Tryd.ntmps42
  go_wp2_with (fail)
  (go_at_call 73; refine (newMelody_any lo hi v ys _ h).mono ?_; rintro e w1 ⟨p, rfl, hm1, hb1⟩)
  rw [HVL.out] at hm1
  have HME := Lib.hid hm1
  rw [HYS.out] at hm1
  obtain ⟨B, q, rfl, hlo, hB, c0, c1, c2, hr⟩ := hm1.head
  have HB1 := Lib.hid hb1
  clear hm1 h hr
  go_wp2
  go_loopw [28] (fun i wr => ∃ j : Int, (j = 0 ∨ j = 1 ∧ hitc k false ys = false ∨ j = 2 ∧ hitc k false ys = false ∧ hitc k true ys = false) ∧ i = .int .i64 j ∧ Below w1.heap.size w1 wr) (fun i _ => 2 - (intOf i).toNat)
  case atStart => exact ⟨0, .inl rfl, rfl, by first | exact Below.refl _ _ | exact ⟨rfl, rfl, rfl, Nat.le_refl _, fun _ _ => rfl⟩⟩
  case round =>
    obtain ⟨j, hj, rfl, hb⟩ := hrel
    have e0 := (hb.cell (p := ⟨B, 0, none⟩) hB).trans c0
    have e1 := (hb.cell (p := ⟨B, 1, none⟩) hB).trans c1
    have hz := hb.size
    have HB := Lib.hid hb
    clear c0 c1 c2 hb hm
    rcases hj with rfl | ⟨rfl, hm0⟩ | ⟨rfl, hm0, hm1⟩
    · by_cases hA : abv s b k false = false
      · have HA := Lib.hid hA
        go_wp2_with (fail)
        (go_at_call 74; refine (above_no s k b false HA.out _).mono ?_; rintro e w2 ⟨rfl, hb2⟩)
        have HB2 := Lib.hid ((bl_step HB.out hb2).alloc (by have := hb2.size; omega) (.cells #[.int .i64 0, .bool false] 41))
        clear e0 e1 hA
        go_wp2
        go_roundw
        case rel => exact ⟨1, .inr (.inl ⟨rfl, hitc_no1' HYS.out HA.out⟩), rfl, HB2.out⟩
        case measure => simp [intOf]
      rw [Bool.not_eq_false] at hA
      obtain ⟨_, hu, _, _⟩ := abv_vd hA
      obtain ⟨u0, u1⟩ := vd_in hu
      obtain ⟨g2, g3⟩ := hgt_bd (b := false) u0 u1
      have sw : IntKind.i64.wrap (hgt (s + k) false - hgt s b) = hgt (s + k) false - hgt s b := IntWalk.i64_in _ (by omega)
      by_cases hG : ys.all (tmo k (hgt (s + k) false - hgt s b)) = true
      · have HH := Lib.hid (mm_hit0 HM.out (hitc_yes' HYS.out hA hG).1)
        have HG := Lib.hid hG
        go_wp2_with (fail)
        (go_at_call 74; refine (above_yes s k b false hA _).mono ?_; rintro e w2 ⟨rfl, hb2⟩)
        go_wp2
        obtain ⟨W, hW⟩ : ∃ W, W = w2.alloc (.cells #[.int .i64 (s + k), .bool false] 41) := ⟨_, rfl⟩
        have f0 : W.cell? ⟨w2.heap.size, 0, none⟩ = some (.int .i64 (s + k)) := by rw [hW]; go_simp
        have f1 : W.cell? ⟨w2.heap.size, 1, none⟩ = some (.bool false) := by rw [hW]; go_simp
        have hbW : Below w1.heap.size w1 W := by rw [hW]; exact (bl_step HB.out hb2).alloc (by have := hb2.size; omega) _
        have k0 : W.cell? ⟨B, 0, none⟩ = some (.int .i64 s) := (hbW.cell (p := ⟨B, 0, none⟩) hB).trans ((HB.out.cell (p := ⟨B, 0, none⟩) hB).symm.trans e0)
        have k1 : W.cell? ⟨B, 1, none⟩ = some (.bool b) := (hbW.cell (p := ⟨B, 1, none⟩) hB).trans ((HB.out.cell (p := ⟨B, 1, none⟩) hB).symm.trans e1)
        have HBW := Lib.hid hbW
        have HT2 : Hid (StepTab W.drew) := (HT.out.below HB1.out).below hbW.drew
        have fz : w2.heap.size < W.heap.size := two_lt f0
        have fB : B < W.heap.size := two_lt k0
        rw [← hW]
        clear hW hbW e0 e1
        go_region_held3 (fun wx => wx.cell? ⟨B, 0, none⟩ = some (.int .i64 s) ∧ wx.cell? ⟨B, 1, none⟩ = some (.bool b) ∧ wx.cell? ⟨w2.heap.size, 0, none⟩ = some (.int .i64 (s + k)) ∧ wx.cell? ⟨w2.heap.size, 1, none⟩ = some (.bool false)) (go_keep)
          (first | (go_at_call_of 69 (Value.agg #[Value.int .i64 (s + k), Value.bool false]); refine (height_any _ _ u0 u1 _ HT2.out).mono ?_; rintro e w3 ⟨rfl, hb3⟩; have HT3 := Lib.hid (HT2.out.below hb3); have c3a := (hb3.cell (p := ⟨B, 0, none⟩) fB).trans k0; have c3b := (hb3.cell (p := ⟨B, 1, none⟩) fB).trans k1; have c3c := (hb3.cell (p := ⟨w2.heap.size, 0, none⟩) fz).trans f0; have c3d := (hb3.cell (p := ⟨w2.heap.size, 1, none⟩) fz).trans f1; have fz3 := Nat.lt_of_lt_of_le fz hb3.size; have fB3 := Nat.lt_of_lt_of_le fB hb3.size) | (go_at_call 69; refine (height_any _ _ v0 v1 _ HT3.out).mono ?_; rintro e w4 ⟨rfl, hb4⟩; have HT4 := Lib.hid (HT3.out.below hb4); have c4a := (hb4.cell (p := ⟨B, 0, none⟩) fB3).trans c3a; have c4b := (hb4.cell (p := ⟨B, 1, none⟩) fB3).trans c3b; have c4c := (hb4.cell (p := ⟨w2.heap.size, 0, none⟩) fz3).trans c3c; have c4d := (hb4.cell (p := ⟨w2.heap.size, 1, none⟩) fz3).trans c3d; have HB4 := Lib.hid (bl_step (bl_step HBW.out.drew hb3) hb4); have fz4 := Nat.lt_of_lt_of_le fz3 hb4.size; have fB4 := Nat.lt_of_lt_of_le fB3 hb4.size) | (go_at_call 75; refine (mmove_any k _ _ HV.out _ _ _ (HME.out.below HB4.out) HT4.out).mono ?_; rintro e w5 ⟨y, rfl, hy, hb5⟩; have c5a := (hb5.cell (p := ⟨B, 0, none⟩) fB4).trans c4a; have c5b := (hb5.cell (p := ⟨B, 1, none⟩) fB4).trans c4b; have c5c := (hb5.cell (p := ⟨w2.heap.size, 0, none⟩) fz4).trans c4c; have c5d := (hb5.cell (p := ⟨w2.heap.size, 1, none⟩) fz4).trans c4d))
        have HB5 := Lib.hid (bl_step HB4.out hb5)
        have HZ := Lib.hid (hitc_yes' HYS.out hA HG.out).2
        rw [HG.out, if_pos rfl] at hy
        have HY := Lib.hid hy
        have HLY : Hid ((ys.map (tmv k (hgt (s + k) false - hgt s b))).length ≤ 24) := by
          show (ys.map (tmv k (hgt (s + k) false - hgt s b))).length ≤ 24
          rw [List.length_map]; exact HL.out
        clear hy c5a c5b c5c c5d c4a c4b c4c c4d c3a c3b c3c c3d k0 k1 f0 f1
        go_wp2_with (fail)
        (go_at_call 76; refine (tones_any _ _ _ _ HY.out HLY.out).mono ?_; rintro e w6 ⟨u, rfl, hu6, hb6⟩)
        have HE : Hid (TBuilt2 w (mmL k ys) (mmB k ys) (.returned (.tuple #[u, .bool true])) w6) := by
          rw [HH.out.1, HH.out.2, HZ.out]
          have hbf := bl_step HB1.out HB5.out
          exact ⟨u, rfl, ⟨tmono hu6.1 hbf.size, hu6.2⟩, bl_step hbf hb6⟩
        clear hu6
        go_wp2
        go_ret2
        exact HE.out
      · rw [Bool.not_eq_true] at hG
        have HG := Lib.hid hG
        go_wp2_with (fail)
        (go_at_call 74; refine (above_yes s k b false hA _).mono ?_; rintro e w2 ⟨rfl, hb2⟩)
        go_wp2
        obtain ⟨W, hW⟩ : ∃ W, W = w2.alloc (.cells #[.int .i64 (s + k), .bool false] 41) := ⟨_, rfl⟩
        have f0 : W.cell? ⟨w2.heap.size, 0, none⟩ = some (.int .i64 (s + k)) := by rw [hW]; go_simp
        have f1 : W.cell? ⟨w2.heap.size, 1, none⟩ = some (.bool false) := by rw [hW]; go_simp
        have hbW : Below w1.heap.size w1 W := by rw [hW]; exact (bl_step HB.out hb2).alloc (by have := hb2.size; omega) _
        have k0 : W.cell? ⟨B, 0, none⟩ = some (.int .i64 s) := (hbW.cell (p := ⟨B, 0, none⟩) hB).trans ((HB.out.cell (p := ⟨B, 0, none⟩) hB).symm.trans e0)
        have k1 : W.cell? ⟨B, 1, none⟩ = some (.bool b) := (hbW.cell (p := ⟨B, 1, none⟩) hB).trans ((HB.out.cell (p := ⟨B, 1, none⟩) hB).symm.trans e1)
        have HBW := Lib.hid hbW
        have HT2 : Hid (StepTab W.drew) := (HT.out.below HB1.out).below hbW.drew
        have fz : w2.heap.size < W.heap.size := two_lt f0
        have fB : B < W.heap.size := two_lt k0
        rw [← hW]
        clear hW hbW e0 e1
        go_region_held3 (fun wx => wx.cell? ⟨B, 0, none⟩ = some (.int .i64 s) ∧ wx.cell? ⟨B, 1, none⟩ = some (.bool b) ∧ wx.cell? ⟨w2.heap.size, 0, none⟩ = some (.int .i64 (s + k)) ∧ wx.cell? ⟨w2.heap.size, 1, none⟩ = some (.bool false)) (go_keep)
          (first | (go_at_call_of 69 (Value.agg #[Value.int .i64 (s + k), Value.bool false]); refine (height_any _ _ u0 u1 _ HT2.out).mono ?_; rintro e w3 ⟨rfl, hb3⟩; have HT3 := Lib.hid (HT2.out.below hb3); have c3a := (hb3.cell (p := ⟨B, 0, none⟩) fB).trans k0; have c3b := (hb3.cell (p := ⟨B, 1, none⟩) fB).trans k1; have c3c := (hb3.cell (p := ⟨w2.heap.size, 0, none⟩) fz).trans f0; have c3d := (hb3.cell (p := ⟨w2.heap.size, 1, none⟩) fz).trans f1; have fz3 := Nat.lt_of_lt_of_le fz hb3.size; have fB3 := Nat.lt_of_lt_of_le fB hb3.size) | (go_at_call 69; refine (height_any _ _ v0 v1 _ HT3.out).mono ?_; rintro e w4 ⟨rfl, hb4⟩; have HT4 := Lib.hid (HT3.out.below hb4); have c4a := (hb4.cell (p := ⟨B, 0, none⟩) fB3).trans c3a; have c4b := (hb4.cell (p := ⟨B, 1, none⟩) fB3).trans c3b; have c4c := (hb4.cell (p := ⟨w2.heap.size, 0, none⟩) fz3).trans c3c; have c4d := (hb4.cell (p := ⟨w2.heap.size, 1, none⟩) fz3).trans c3d; have HB4 := Lib.hid (bl_step (bl_step HBW.out.drew hb3) hb4); have fz4 := Nat.lt_of_lt_of_le fz3 hb4.size; have fB4 := Nat.lt_of_lt_of_le fB3 hb4.size) | (go_at_call 75; refine (mmove_any k _ _ HV.out _ _ _ (HME.out.below HB4.out) HT4.out).mono ?_; rintro e w5 ⟨y, rfl, hy, hb5⟩; have c5a := (hb5.cell (p := ⟨B, 0, none⟩) fB4).trans c4a; have c5b := (hb5.cell (p := ⟨B, 1, none⟩) fB4).trans c4b; have c5c := (hb5.cell (p := ⟨w2.heap.size, 0, none⟩) fz4).trans c4c; have c5d := (hb5.cell (p := ⟨w2.heap.size, 1, none⟩) fz4).trans c4d))
        have HB5 := Lib.hid (bl_step HB4.out hb5)
        clear hy c5a c5b c5c c5d c4a c4b c4c c4d c3a c3b c3c c3d k0 k1 f0 f1
        go_wp2
        go_roundw
        case rel => exact ⟨1, .inr (.inl ⟨rfl, hitc_no2' HYS.out HG.out⟩), rfl, HB5.out⟩
        case measure => simp [intOf]
    · have HM0 := Lib.hid hm0
      clear hm0
      by_cases hA : abv s b k true = false
      · have HA := Lib.hid hA
        go_wp2_with (fail)
        (go_at_call 74; refine (above_no s k b true HA.out _).mono ?_; rintro e w2 ⟨rfl, hb2⟩)
        have HB2 := Lib.hid ((bl_step HB.out hb2).alloc (by have := hb2.size; omega) (.cells #[.int .i64 0, .bool false] 41))
        clear e0 e1 hA
        go_wp2
        go_roundw
        case rel => exact ⟨2, .inr (.inr ⟨rfl, HM0.out, hitc_no1' HYS.out HA.out⟩), rfl, HB2.out⟩
        case measure => simp [intOf]
      rw [Bool.not_eq_false] at hA
      obtain ⟨_, hu, _, _⟩ := abv_vd hA
      obtain ⟨u0, u1⟩ := vd_in hu
      obtain ⟨g2, g3⟩ := hgt_bd (b := true) u0 u1
      have sw : IntKind.i64.wrap (hgt (s + k) true - hgt s b) = hgt (s + k) true - hgt s b := IntWalk.i64_in _ (by omega)
      by_cases hG : ys.all (tmo k (hgt (s + k) true - hgt s b)) = true
      · have HH := Lib.hid (mm_hit1 HM.out HM0.out (hitc_yes' HYS.out hA hG).1)
        have HG := Lib.hid hG
        go_wp2_with (fail)
        (go_at_call 74; refine (above_yes s k b true hA _).mono ?_; rintro e w2 ⟨rfl, hb2⟩)
        go_wp2
        obtain ⟨W, hW⟩ : ∃ W, W = w2.alloc (.cells #[.int .i64 (s + k), .bool true] 41) := ⟨_, rfl⟩
        have f0 : W.cell? ⟨w2.heap.size, 0, none⟩ = some (.int .i64 (s + k)) := by rw [hW]; go_simp
        have f1 : W.cell? ⟨w2.heap.size, 1, none⟩ = some (.bool true) := by rw [hW]; go_simp
        have hbW : Below w1.heap.size w1 W := by rw [hW]; exact (bl_step HB.out hb2).alloc (by have := hb2.size; omega) _
        have k0 : W.cell? ⟨B, 0, none⟩ = some (.int .i64 s) := (hbW.cell (p := ⟨B, 0, none⟩) hB).trans ((HB.out.cell (p := ⟨B, 0, none⟩) hB).symm.trans e0)
        have k1 : W.cell? ⟨B, 1, none⟩ = some (.bool b) := (hbW.cell (p := ⟨B, 1, none⟩) hB).trans ((HB.out.cell (p := ⟨B, 1, none⟩) hB).symm.trans e1)
        have HBW := Lib.hid hbW
        have HT2 : Hid (StepTab W.drew) := (HT.out.below HB1.out).below hbW.drew
        have fz : w2.heap.size < W.heap.size := two_lt f0
        have fB : B < W.heap.size := two_lt k0
        rw [← hW]
        clear hW hbW e0 e1
        go_region_held3 (fun wx => wx.cell? ⟨B, 0, none⟩ = some (.int .i64 s) ∧ wx.cell? ⟨B, 1, none⟩ = some (.bool b) ∧ wx.cell? ⟨w2.heap.size, 0, none⟩ = some (.int .i64 (s + k)) ∧ wx.cell? ⟨w2.heap.size, 1, none⟩ = some (.bool true)) (go_keep)
          (first | (go_at_call_of 69 (Value.agg #[Value.int .i64 (s + k), Value.bool true]); refine (height_any _ _ u0 u1 _ HT2.out).mono ?_; rintro e w3 ⟨rfl, hb3⟩; have HT3 := Lib.hid (HT2.out.below hb3); have c3a := (hb3.cell (p := ⟨B, 0, none⟩) fB).trans k0; have c3b := (hb3.cell (p := ⟨B, 1, none⟩) fB).trans k1; have c3c := (hb3.cell (p := ⟨w2.heap.size, 0, none⟩) fz).trans f0; have c3d := (hb3.cell (p := ⟨w2.heap.size, 1, none⟩) fz).trans f1; have fz3 := Nat.lt_of_lt_of_le fz hb3.size; have fB3 := Nat.lt_of_lt_of_le fB hb3.size) | (go_at_call 69; refine (height_any _ _ v0 v1 _ HT3.out).mono ?_; rintro e w4 ⟨rfl, hb4⟩; have HT4 := Lib.hid (HT3.out.below hb4); have c4a := (hb4.cell (p := ⟨B, 0, none⟩) fB3).trans c3a; have c4b := (hb4.cell (p := ⟨B, 1, none⟩) fB3).trans c3b; have c4c := (hb4.cell (p := ⟨w2.heap.size, 0, none⟩) fz3).trans c3c; have c4d := (hb4.cell (p := ⟨w2.heap.size, 1, none⟩) fz3).trans c3d; have HB4 := Lib.hid (bl_step (bl_step HBW.out.drew hb3) hb4); have fz4 := Nat.lt_of_lt_of_le fz3 hb4.size; have fB4 := Nat.lt_of_lt_of_le fB3 hb4.size) | (go_at_call 75; refine (mmove_any k _ _ HV.out _ _ _ (HME.out.below HB4.out) HT4.out).mono ?_; rintro e w5 ⟨y, rfl, hy, hb5⟩; have c5a := (hb5.cell (p := ⟨B, 0, none⟩) fB4).trans c4a; have c5b := (hb5.cell (p := ⟨B, 1, none⟩) fB4).trans c4b; have c5c := (hb5.cell (p := ⟨w2.heap.size, 0, none⟩) fz4).trans c4c; have c5d := (hb5.cell (p := ⟨w2.heap.size, 1, none⟩) fz4).trans c4d))
        have HB5 := Lib.hid (bl_step HB4.out hb5)
        have HZ := Lib.hid (hitc_yes' HYS.out hA HG.out).2
        rw [HG.out, if_pos rfl] at hy
        have HY := Lib.hid hy
        have HLY : Hid ((ys.map (tmv k (hgt (s + k) true - hgt s b))).length ≤ 24) := by
          show (ys.map (tmv k (hgt (s + k) true - hgt s b))).length ≤ 24
          rw [List.length_map]; exact HL.out
        clear hy c5a c5b c5c c5d c4a c4b c4c c4d c3a c3b c3c c3d k0 k1 f0 f1
        go_wp2_with (fail)
        (go_at_call 76; refine (tones_any _ _ _ _ HY.out HLY.out).mono ?_; rintro e w6 ⟨u, rfl, hu6, hb6⟩)
        have HE : Hid (TBuilt2 w (mmL k ys) (mmB k ys) (.returned (.tuple #[u, .bool true])) w6) := by
          rw [HH.out.1, HH.out.2, HZ.out]
          have hbf := bl_step HB1.out HB5.out
          exact ⟨u, rfl, ⟨tmono hu6.1 hbf.size, hu6.2⟩, bl_step hbf hb6⟩
        clear hu6
        go_wp2
        go_ret2
        exact HE.out
      · rw [Bool.not_eq_true] at hG
        have HG := Lib.hid hG
        go_wp2_with (fail)
        (go_at_call 74; refine (above_yes s k b true hA _).mono ?_; rintro e w2 ⟨rfl, hb2⟩)
        go_wp2
        obtain ⟨W, hW⟩ : ∃ W, W = w2.alloc (.cells #[.int .i64 (s + k), .bool true] 41) := ⟨_, rfl⟩
        have f0 : W.cell? ⟨w2.heap.size, 0, none⟩ = some (.int .i64 (s + k)) := by rw [hW]; go_simp
        have f1 : W.cell? ⟨w2.heap.size, 1, none⟩ = some (.bool true) := by rw [hW]; go_simp
        have hbW : Below w1.heap.size w1 W := by rw [hW]; exact (bl_step HB.out hb2).alloc (by have := hb2.size; omega) _
        have k0 : W.cell? ⟨B, 0, none⟩ = some (.int .i64 s) := (hbW.cell (p := ⟨B, 0, none⟩) hB).trans ((HB.out.cell (p := ⟨B, 0, none⟩) hB).symm.trans e0)
        have k1 : W.cell? ⟨B, 1, none⟩ = some (.bool b) := (hbW.cell (p := ⟨B, 1, none⟩) hB).trans ((HB.out.cell (p := ⟨B, 1, none⟩) hB).symm.trans e1)
        have HBW := Lib.hid hbW
        have HT2 : Hid (StepTab W.drew) := (HT.out.below HB1.out).below hbW.drew
        have fz : w2.heap.size < W.heap.size := two_lt f0
        have fB : B < W.heap.size := two_lt k0
        rw [← hW]
        clear hW hbW e0 e1
        go_region_held3 (fun wx => wx.cell? ⟨B, 0, none⟩ = some (.int .i64 s) ∧ wx.cell? ⟨B, 1, none⟩ = some (.bool b) ∧ wx.cell? ⟨w2.heap.size, 0, none⟩ = some (.int .i64 (s + k)) ∧ wx.cell? ⟨w2.heap.size, 1, none⟩ = some (.bool true)) (go_keep)
          (first | (go_at_call_of 69 (Value.agg #[Value.int .i64 (s + k), Value.bool true]); refine (height_any _ _ u0 u1 _ HT2.out).mono ?_; rintro e w3 ⟨rfl, hb3⟩; have HT3 := Lib.hid (HT2.out.below hb3); have c3a := (hb3.cell (p := ⟨B, 0, none⟩) fB).trans k0; have c3b := (hb3.cell (p := ⟨B, 1, none⟩) fB).trans k1; have c3c := (hb3.cell (p := ⟨w2.heap.size, 0, none⟩) fz).trans f0; have c3d := (hb3.cell (p := ⟨w2.heap.size, 1, none⟩) fz).trans f1; have fz3 := Nat.lt_of_lt_of_le fz hb3.size; have fB3 := Nat.lt_of_lt_of_le fB hb3.size) | (go_at_call 69; refine (height_any _ _ v0 v1 _ HT3.out).mono ?_; rintro e w4 ⟨rfl, hb4⟩; have HT4 := Lib.hid (HT3.out.below hb4); have c4a := (hb4.cell (p := ⟨B, 0, none⟩) fB3).trans c3a; have c4b := (hb4.cell (p := ⟨B, 1, none⟩) fB3).trans c3b; have c4c := (hb4.cell (p := ⟨w2.heap.size, 0, none⟩) fz3).trans c3c; have c4d := (hb4.cell (p := ⟨w2.heap.size, 1, none⟩) fz3).trans c3d; have HB4 := Lib.hid (bl_step (bl_step HBW.out.drew hb3) hb4); have fz4 := Nat.lt_of_lt_of_le fz3 hb4.size; have fB4 := Nat.lt_of_lt_of_le fB3 hb4.size) | (go_at_call 75; refine (mmove_any k _ _ HV.out _ _ _ (HME.out.below HB4.out) HT4.out).mono ?_; rintro e w5 ⟨y, rfl, hy, hb5⟩; have c5a := (hb5.cell (p := ⟨B, 0, none⟩) fB4).trans c4a; have c5b := (hb5.cell (p := ⟨B, 1, none⟩) fB4).trans c4b; have c5c := (hb5.cell (p := ⟨w2.heap.size, 0, none⟩) fz4).trans c4c; have c5d := (hb5.cell (p := ⟨w2.heap.size, 1, none⟩) fz4).trans c4d))
        have HB5 := Lib.hid (bl_step HB4.out hb5)
        clear hy c5a c5b c5c c5d c4a c4b c4c c4d c3a c3b c3c c3d k0 k1 f0 f1
        go_wp2
        go_roundw
        case rel => exact ⟨2, .inr (.inr ⟨rfl, HM0.out, hitc_no2' HYS.out HG.out⟩), rfl, HB5.out⟩
        case measure => simp [intOf]
    · have HX := Lib.hid (mm_miss' HYS.out HM.out hm0 hm1)
      have HE : Hid (TBuilt2 w (mmL k ys) (mmB k ys) (.returned (.tuple #[.slice (some ⟨wr.heap.size, 0, none⟩) 0 0, .bool false])) (wr.alloc (.cells #[] 41))) := by
        rw [HX.out.1, HX.out.2]
        exact empty_built2 (bl_step HB1.out HB.out)
      clear hm0 hm1
      go_wp2
      go_ret2
      exact HE.out

set_option maxHeartbeats 8000000 in
theorem melodyMove_any (lo hi : Nat) (v : Value) (xs : List (Int × Bool)) (k : Int) (w : World) (h : TRow w lo hi v xs) (ht : StepTab w) :
    Calls Tryd.prog 42 #[v, .int .i64 k] w (TBuilt2 w (mmL k xs) (mmB k xs)) := by
  have HT := Lib.hid ht
  clear ht
  by_cases hm : mv xs = false
  · rw [(mm_no1 hm).1, (mm_no1 hm).2]
    have HE := Lib.hid (fun w1 hb => empty_built2 (w := w) (w1 := w1) (ok := false) hb)
    go_enter Tryd.func42, Tryd.ntmps42
    go_wp2_with (fail)
    (go_at_call 73; refine (newMelody_any lo hi v xs _ h).mono ?_; rintro e w1 ⟨p, rfl, hm1, hb1⟩)
    clear hm1 h
    go_wp2
    go_ret2
    exact HE.out _ hb1
  rw [Bool.not_eq_false] at hm
  cases xs with
  | nil =>
    have HE := Lib.hid (fun w1 hb => empty_built2 (w := w) (w1 := w1) (ok := true) hb)
    rw [(mm_nil k).1, (mm_nil k).2]
    go_enter Tryd.func42, Tryd.ntmps42
    go_wp2_with (fail)
    (go_at_call 73; refine (newMelody_any lo hi v [] _ h).mono ?_; rintro e w1 ⟨p, rfl, hm1, hb1⟩)
    have hp : p = none := hm1
    subst hp
    clear hm1 h
    go_wp2
    go_ret2
    exact HE.out _ hb1
  | cons t r =>
    obtain ⟨s, b⟩ := t
    exact melodyMove_cons lo hi v _ s b r (Lib.hid rfl) k w h HT.out hm
end Go.Proofs.YticapinlnlpbpaaDoor
