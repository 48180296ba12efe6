/-
  Two parts beat by beat, in the program: turning, changes, crossings.
-/
import Derived.Test.YticapinlnlpbpaaDoorDi
import Derived.BigQuiet
namespace Go.Proofs.YticapinlnlpbpaaDoor
open Go.RowKit
set_option maxRecDepth 100000
set_option linter.unusedVariables false

set_option maxHeartbeats 1000000 in
theorem discantTogether_any (v u : Value) (xs ys : List Vc) (w : World) (h : VV w v xs) (k : VV w u ys) : Calls Tryd.prog 44 #[v, u] w fun e w' => e = .returned (.bool (tog xs ys)) ∧ Below w.heap.size w w' := by
  have HN := Lib.hid (newDiscant_any v u xs ys w h k)
  unfold NewDis at HN
  generalize tog xs ys = ok at HN
  clear h k
  go_enter Tryd.func44, Tryd.ntmps44
  go_wp2_with (fail)
  (go_at_call 50; refine (HN.out).mono ?_; rintro e w1 ⟨D, rfl, hb1, _, _⟩)
  have HB := Lib.hid hb1
  clear hb1
  go_wp2
  go_ret
  exact ⟨rfl, HB.out⟩

theorem bl_dnB {B : Nat} {w W : World} (h : Below B w W) (m : Nat) : Below B w (W.drewN m) := ⟨h.os, h.tape, h.output, h.size, h.block⟩

/-- the pair of parts one beat on -/
theorem DisI.step {B : Nat} {w : World} {D : Nat} {P Q : Nat → Nat} {ts us : List (Int × Bool)} {n k : Nat} (h : DisI B w D P Q ts us n k) (hk : k < n) (m : Nat) :
    DisI B (((w.drewN m).setCell ⟨D, 0, none⟩ (curP P n (k + 1))).setCell ⟨D, 1, none⟩ (curP Q n (k + 1))) D P Q ts us n (k + 1) ∧ Below B w (((w.drewN m).setCell ⟨D, 0, none⟩ (curP P n (k + 1))).setCell ⟨D, 1, none⟩ (curP Q n (k + 1))) := by
  have hb : (w.drewN m).heap[D]? = _ := h.blk
  have nod : ∀ {R : Nat → Nat} {xs : List (Int × Bool)}, NodI B w R xs → NodI B (((w.drewN m).setCell ⟨D, 0, none⟩ (curP P n (k + 1))).setCell ⟨D, 1, none⟩ (curP Q n (k + 1))) R xs := fun hr j hj => by
    have hne : _ ≠ D := kind_no (hr j hj).2 h.blk (by decide)
    refine ⟨(hr j hj).1, ?_⟩
    rw [heap_set_ne hne, heap_set_ne hne]
    exact (hr j hj).2
  refine ⟨⟨h.hD, h.lt, h.lu, ?_, nod h.na, nod h.nb, h.va, h.vb⟩, ?_⟩
  · rw [heap_set_eq (heap_set_eq hb)]
    simp
  · have h0 : Below B w (w.drewN m) := ⟨rfl, rfl, rfl, Nat.le_refl _, fun _ _ => rfl⟩
    exact (h0.setCell h.hD _).setCell h.hD _

set_option maxHeartbeats 4000000 in
theorem turn_any (B D : Nat) (P Q : Nat → Nat) (ts us : List (Int × Bool)) (n k : Nat) (w : World) (h : DisI B w D P Q ts us n k) (hk : k < n) :
    Calls Tryd.prog 52 #[.pointer (some ⟨D, 0, none⟩)] w fun e w' => e = .returned (.tuple #[]) ∧ DisI B w' D P Q ts us n (k + 1) ∧ Below B w w' := by
  have HS := Lib.hid (fun m => h.step hk m)
  rw [curP_next P hk, curP_next Q hk] at HS
  have c0 : w.cell? ⟨D, 0, none⟩ = some (.pointer (some ⟨P k, 0, none⟩)) := by rw [← curP_lt P hk]; simp [World.cell?, h.blk]
  have c1 : w.cell? ⟨D, 1, none⟩ = some (.pointer (some ⟨Q k, 0, none⟩)) := by rw [← curP_lt Q hk]; simp [World.cell?, h.blk]
  have cf : ∀ o, w.frozen? ⟨D, o, none⟩ = false := fun o => by simp [World.frozen?, h.blk]
  have a2 := (h.na.cells (k := k) (by rw [h.lt]; exact hk)).2.2
  have b2 := (h.nb.cells (k := k) (by rw [h.lu]; exact hk)).2.2
  have na : P k ≠ D := kind_no (h.na k (by rw [h.lt]; exact hk)).2 h.blk (by decide)
  have nb : Q k ≠ D := kind_no (h.nb k (by rw [h.lu]; exact hk)).2 h.blk (by decide)
  have na2 := Ne.symm na
  have nb2 := Ne.symm nb
  rw [h.lt] at a2
  rw [h.lu] at b2
  generalize P (nxt n k) = p at HS a2
  generalize Q (nxt n k) = q at HS b2
  generalize P k = pk at c0 a2 na na2
  generalize Q k = qk at c1 b2 nb nb2
  clear h
  go_enter Tryd.func52, Tryd.ntmps52
  go_wp2
  go_region
  all_goals
    go_end0
    exact ⟨rfl, HS.out 1⟩

set_option maxHeartbeats 4000000 in
theorem changes_any (B D : Nat) (P Q : Nat → Nat) (ts us : List (Int × Bool)) (n k : Nat) (w : World) (h : DisI B w D P Q ts us n k) (hk : k < n) :
    Calls Tryd.prog 83 #[.pointer (some ⟨D, 0, none⟩)] w fun e w' => e = .returned (.tuple #[.int .i64 ((tnA ts (nxt n k)).1 - (tnA ts k).1), .int .i64 ((tnA us (nxt n k)).1 - (tnA us k).1)]) ∧ ∃ m, w' = w.drewN m := by
  have hx := nxt_lt hk
  have c0 : w.cell? ⟨D, 0, none⟩ = some (.pointer (some ⟨P k, 0, none⟩)) := by rw [← curP_lt P hk]; simp [World.cell?, h.blk]
  have c1 : w.cell? ⟨D, 1, none⟩ = some (.pointer (some ⟨Q k, 0, none⟩)) := by rw [← curP_lt Q hk]; simp [World.cell?, h.blk]
  obtain ⟨a0, _, a2⟩ := h.na.cells (k := k) (by rw [h.lt]; exact hk)
  obtain ⟨b0, _, b2⟩ := h.nb.cells (k := k) (by rw [h.lu]; exact hk)
  rw [h.lt] at a2
  rw [h.lu] at b2
  have a1 := (h.na.cells (k := nxt n k) (by rw [h.lt]; exact hx)).1
  have b1 := (h.nb.cells (k := nxt n k) (by rw [h.lu]; exact hx)).1
  have s1 := step_in h.va (k := k) (by rw [h.lt]; exact hk)
  have s2 := step_in h.va (k := nxt n k) (by rw [h.lt]; exact hx)
  have s3 := step_in h.vb (k := k) (by rw [h.lu]; exact hk)
  have s4 := step_in h.vb (k := nxt n k) (by rw [h.lu]; exact hx)
  generalize nxt n k = j at a1 b1 a2 b2 s2 s4 ⊢
  generalize (tnA ts k).1 = x1 at a0 s1 ⊢
  generalize (tnA ts j).1 = x2 at a1 s2 ⊢
  generalize (tnA us k).1 = y1 at b0 s3 ⊢
  generalize (tnA us j).1 = y2 at b1 s4 ⊢
  have w1 : IntKind.i64.wrap (x2 - x1) = x2 - x1 := IntWalk.i64_in _ (by omega)
  have w2 : IntKind.i64.wrap (y2 - y1) = y2 - y1 := IntWalk.i64_in _ (by omega)
  generalize P k = pk at c0 a0 a2
  generalize P j = pj at a1 a2
  generalize Q k = qk at c1 b0 b2
  generalize Q j = qj at b1 b2
  clear h hk hx
  go_enter Tryd.func83, Tryd.ntmps83
  go_wp2
  go_quiet (fail)
  go_wp2
  go_ret2
  exact ⟨rfl, _, rfl⟩

/-- do two changes go in opposite directions -/
def opp (x y : Int) : Bool := (decide (x < 0) && decide (0 < y)) || (decide (0 < x) && decide (y < 0))

set_option maxHeartbeats 4000000 in
theorem contrary_any (B D : Nat) (P Q : Nat → Nat) (ts us : List (Int × Bool)) (n k : Nat) (w : World) (h : DisI B w D P Q ts us n k) (hk : k < n) :
    Calls Tryd.prog 70 #[.pointer (some ⟨D, 0, none⟩)] w fun e w' => e = .returned (.bool (opp ((tnA ts (nxt n k)).1 - (tnA ts k).1) ((tnA us (nxt n k)).1 - (tnA us k).1))) ∧ ∃ m, w' = w.drewN m := by
  have HC := Lib.hid (changes_any B D P Q ts us n k w h hk)
  clear h
  generalize (tnA ts (nxt n k)).1 - (tnA ts k).1 = x at HC ⊢
  generalize (tnA us (nxt n k)).1 - (tnA us k).1 = y at HC ⊢
  by_cases h1 : x < 0
  · have g1 : decide (x < 0) = true := decide_eq_true h1
    have g2 : decide (0 < x) = false := decide_eq_false (by omega)
    have e : opp x y = decide (0 < y) := by unfold opp; rw [g1, g2]; simp
    rw [e]
    by_cases h2 : 0 < y
    · have g3 : decide (0 < y) = true := decide_eq_true h2
      have g4 : decide (y < 0) = false := decide_eq_false (by omega)
      rw [g3]
      clear e
      go_enter Tryd.func70, Tryd.ntmps70
      go_wp2_with (fail)
      (go_at_call 83; refine (HC.out).mono ?_; rintro e w1 ⟨rfl, hm⟩)
      go_wp2
      go_ret
      exact ⟨rfl, hm⟩
    · have g3 : decide (0 < y) = false := decide_eq_false h2
      rw [g3]
      clear e
      go_enter Tryd.func70, Tryd.ntmps70
      go_wp2_with (fail)
      (go_at_call 83; refine (HC.out).mono ?_; rintro e w1 ⟨rfl, hm⟩)
      go_wp2
      go_ret
      exact ⟨rfl, hm⟩
  · have g1 : decide (x < 0) = false := decide_eq_false h1
    by_cases h2 : 0 < x
    · have g2 : decide (0 < x) = true := decide_eq_true h2
      have e : opp x y = decide (y < 0) := by unfold opp; rw [g1, g2]; simp
      rw [e]
      clear e
      go_enter Tryd.func70, Tryd.ntmps70
      go_wp2_with (fail)
      (go_at_call 83; refine (HC.out).mono ?_; rintro e w1 ⟨rfl, hm⟩)
      go_wp2
      go_ret
      exact ⟨rfl, hm⟩
    · have g2 : decide (0 < x) = false := decide_eq_false h2
      have e : opp x y = false := by unfold opp; rw [g1, g2]; simp
      rw [e]
      clear e
      go_enter Tryd.func70, Tryd.ntmps70
      go_wp2_with (fail)
      (go_at_call 83; refine (HC.out).mono ?_; rintro e w1 ⟨rfl, hm⟩)
      go_wp2
      go_ret
      exact ⟨rfl, hm⟩

set_option maxHeartbeats 4000000 in
theorem discantCross_any (v u : Value) (xs ys : List Vc) (w : World) (h : VV w v xs) (k : VV w u ys) : Calls Tryd.prog 38 #[v, u] w fun e w' => e = .returned (.int .i64 (dcr xs ys)) ∧ Below w.heap.size w w' := by
  have HN := Lib.hid (newDiscant_any v u xs ys w h k)
  unfold NewDis at HN
  clear h k
  cases ht : tog xs ys with
  | false =>
    rw [ht] at HN
    rw [show dcr xs ys = -1 by simp [dcr, ht]]
    clear ht
    go_enter Tryd.func38, Tryd.ntmps38
    go_wp2_with (fail)
    (go_at_call 50; refine (HN.out).mono ?_; rintro e w1 ⟨D, rfl, hb1, _, _⟩)
    have HB := Lib.hid hb1
    clear hb1
    go_wp2
    go_ret
    exact ⟨rfl, HB.out⟩
  | true =>
    have h24 : (snd8 xs).length ≤ 24 := by
      have h1 := pval_in (tog_in ht).1
      have h2 := snd_len h1.1
      omega
    rw [ht] at HN
    rw [show dcr xs ys = cnt (crs (snd8 xs) (snd8 ys)) (snd8 xs).length by simp [dcr, ht]]
    clear ht
    generalize snd8 xs = ts at HN h24 ⊢
    generalize snd8 ys = us at HN ⊢
    obtain ⟨n, hn⟩ : ∃ n, ts.length = n := ⟨_, rfl⟩
    rw [hn] at h24 ⊢
    have HLN := Lib.hid hn
    clear hn
    go_enter Tryd.func38, Tryd.ntmps38
    go_wp2_with (fail)
    (go_at_call 50; refine (HN.out).mono ?_; rintro e w1 ⟨D, rfl, hb1, hd, _⟩)
    obtain ⟨P, Q, hD⟩ := hd (by first | rfl | trivial)
    have c2 : w1.cell? ⟨D, 2, none⟩ = some (.int .i64 (ts.length : Int)) := by simp [World.cell?, hD.blk]
    have HD := Lib.hid hD
    have HB := Lib.hid hb1
    clear hD hd hb1
    rw [HLN.out] at c2 HD
    go_wp2
    go_loopw [7, 20] (fun m i wr => ∃ k : Nat, k ≤ n ∧ i = .int .i64 (k : Int) ∧ m = .int .i64 (cnt (crs ts us) k) ∧ DisI w.heap.size wr D P Q ts us n k ∧ Below w.heap.size w wr) (fun _ i _ => n - (intOf i).toNat)
    case atStart => exact ⟨0, by omega, rfl, rfl, HD.out, HB.out⟩
    case round =>
      obtain ⟨k, hk, rfl, rfl, hd, hb⟩ := hrel
      clear HD HB c2
      by_cases hlt : k < n
      · have c0 : wr.cell? ⟨D, 0, none⟩ = some (.pointer (some ⟨P k, 0, none⟩)) := by rw [← curP_lt P hlt]; simp [World.cell?, hd.blk]
        have c1 : wr.cell? ⟨D, 1, none⟩ = some (.pointer (some ⟨Q k, 0, none⟩)) := by rw [← curP_lt Q hlt]; simp [World.cell?, hd.blk]
        have a0 := (hd.na.cells (k := k) (by rw [hd.lt]; exact hlt)).1
        have b0 := (hd.nb.cells (k := k) (by rw [hd.lu]; exact hlt)).1
        have hc := cnt_in (crs ts us) k
        have HT := Lib.hid (fun m => turn_any w.heap.size D P Q ts us n k (wr.drewN m) (hd.below (bl_dn8 _ _)) hlt)
        have HW := Lib.hid hb
        have hcr : crs ts us k = decide ((tnA us k).1 < (tnA ts k).1) := rfl
        clear hd hb
        cases hx : crs ts us k with
        | true =>
          have HX := Lib.hid (cnt_hit hx)
          rw [hx] at hcr
          generalize (tnA us k).1 = y at b0 hcr
          generalize (tnA ts k).1 = x at a0 hcr
          have g1 : y < x := of_decide_eq_true hcr.symm
          generalize cnt (crs ts us) k = z at hc HX
          have wz : IntKind.i64.wrap (z + 1) = z + 1 := IntWalk.i64_in _ (by omega)
          clear hx hcr
          go_wp2
          go_quiet (fail)
          go_wp2_with (fail)
          (go_at_call 52; refine (HT.out _).mono ?_; rintro e w2 ⟨rfl, hd2, hb2⟩)
          have HE := Lib.hid hd2
          have HF : Hid (Below w.heap.size w w2) := (bl_dnB HW.out _).trans hb2
          clear hd2 hb2 HT
          go_wp2
          go_roundw
          case rel => exact ⟨k + 1, by omega, by go_num, by rw [HX.out], HE.out, HF.out⟩
          case measure => simp [intOf]; omega
        | false =>
          have HX := Lib.hid (cnt_miss hx)
          rw [hx] at hcr
          generalize (tnA us k).1 = y at b0 hcr
          generalize (tnA ts k).1 = x at a0 hcr
          have g2 : decide (y < x) = false := hcr.symm
          clear hx hcr
          go_wp2
          go_quiet (fail)
          go_wp2_with (fail)
          (go_at_call 52; refine (HT.out _).mono ?_; rintro e w2 ⟨rfl, hd2, hb2⟩)
          have HE := Lib.hid hd2
          have HF : Hid (Below w.heap.size w w2) := (bl_dnB HW.out _).trans hb2
          clear hd2 hb2 HT
          go_wp2
          go_roundw
          case rel => exact ⟨k + 1, by omega, by go_num, by rw [HX.out], HE.out, HF.out⟩
          case measure => simp [intOf]; omega
      · have hkn : k = n := by omega
        subst hkn
        have HF := Lib.hid hb
        clear hd hb
        go_wp2
        go_ret
        exact ⟨rfl, HF.out⟩

set_option maxHeartbeats 4000000 in
theorem countContrary_any (v u : Value) (xs ys : List Vc) (w : World) (h : VV w v xs) (k : VV w u ys) : Calls Tryd.prog 55 #[v, u, .func (.func 70) #[] #[]] w fun e w' => e = .returned (.int .i64 (dct xs ys)) ∧ Below w.heap.size w w' := by
  have HN := Lib.hid (newDiscant_any v u xs ys w h k)
  unfold NewDis at HN
  clear h k
  cases ht : tog xs ys with
  | false =>
    rw [ht] at HN
    rw [show dct xs ys = -1 by simp [dct, ht]]
    clear ht
    go_enter Tryd.func55, Tryd.ntmps55
    go_wp2_with (fail)
    (go_at_call 50; refine (HN.out).mono ?_; rintro e w1 ⟨D, rfl, hb1, _, _⟩)
    have HB := Lib.hid hb1
    clear hb1
    go_wp2
    go_ret
    exact ⟨rfl, HB.out⟩
  | true =>
    have h24 : (snd8 xs).length ≤ 24 := by
      have h1 := pval_in (tog_in ht).1
      have h2 := snd_len h1.1
      omega
    rw [ht] at HN
    rw [show dct xs ys = cnt (ctr (snd8 xs) (snd8 ys)) ((snd8 xs).length - 1) by simp [dct, ht]]
    clear ht
    generalize snd8 xs = ts at HN h24 ⊢
    generalize snd8 ys = us at HN ⊢
    obtain ⟨n, hn⟩ : ∃ n, ts.length = n := ⟨_, rfl⟩
    rw [hn] at h24 ⊢
    have HLN := Lib.hid hn
    clear hn
    go_enter Tryd.func55, Tryd.ntmps55
    go_wp2_with (fail)
    (go_at_call 50; refine (HN.out).mono ?_; rintro e w1 ⟨D, rfl, hb1, hd, _⟩)
    obtain ⟨P, Q, hD⟩ := hd (by first | rfl | trivial)
    have c2 : w1.cell? ⟨D, 2, none⟩ = some (.int .i64 (ts.length : Int)) := by simp [World.cell?, hD.blk]
    have HD := Lib.hid hD
    have HB := Lib.hid hb1
    clear hD hd hb1
    rw [HLN.out] at c2 HD
    have wn : IntKind.i64.wrap ((n : Int) - 1) = (n : Int) - 1 := IntWalk.i64_in _ (by omega)
    go_wp2
    go_loopw [9, 23] (fun m i wr => ∃ k : Nat, k ≤ n - 1 ∧ i = .int .i64 (k : Int) ∧ m = .int .i64 (cnt (ctr ts us) k) ∧ DisI w.heap.size wr D P Q ts us n k ∧ Below w.heap.size w wr) (fun _ i _ => n - (intOf i).toNat)
    case atStart => exact ⟨0, by omega, rfl, rfl, HD.out, HB.out⟩
    case round =>
      obtain ⟨k, hk, rfl, rfl, hd, hb⟩ := hrel
      clear HD HB c2
      by_cases hlt : k + 1 < n
      · have g0 : (k : Int) < (n : Int) - 1 := by omega
        have hc := cnt_in (ctr ts us) k
        have HO := Lib.hid (contrary_any w.heap.size D P Q ts us n k wr hd (by omega))
        have e1 : opp ((tnA ts (nxt n k)).1 - (tnA ts k).1) ((tnA us (nxt n k)).1 - (tnA us k).1) = ctr ts us k := by rw [nxt_in hlt]; rfl
        rw [e1] at HO
        have HT := Lib.hid (fun m => turn_any w.heap.size D P Q ts us n k (wr.drewN m) (hd.below (bl_dn8 _ _)) (by omega))
        have HW := Lib.hid hb
        clear hd hb e1
        cases hx : ctr ts us k with
        | true =>
          have HX := Lib.hid (cnt_hit hx)
          rw [hx] at HO
          generalize cnt (ctr ts us) k = z at hc HX
          have wz : IntKind.i64.wrap (z + 1) = z + 1 := IntWalk.i64_in _ (by omega)
          clear hx
          go_wp2_with (fail)
          (go_at_call 70; refine (HO.out).mono ?_; rintro e w1 ⟨rfl, m1, rfl⟩)
          go_wp2_with (fail)
          (go_at_call 52; refine (HT.out _).mono ?_; rintro e w2 ⟨rfl, hd2, hb2⟩)
          have HE := Lib.hid hd2
          have HF : Hid (Below w.heap.size w w2) := (bl_dnB HW.out _).trans hb2
          clear hd2 hb2 HT HO
          go_wp2
          go_roundw
          case rel => exact ⟨k + 1, by omega, by go_num, by rw [HX.out], HE.out, HF.out⟩
          case measure => simp [intOf]; omega
        | false =>
          have HX := Lib.hid (cnt_miss hx)
          rw [hx] at HO
          clear hx
          go_wp2_with (fail)
          (go_at_call 70; refine (HO.out).mono ?_; rintro e w1 ⟨rfl, m1, rfl⟩)
          go_wp2_with (fail)
          (go_at_call 52; refine (HT.out _).mono ?_; rintro e w2 ⟨rfl, hd2, hb2⟩)
          have HE := Lib.hid hd2
          have HF : Hid (Below w.heap.size w w2) := (bl_dnB HW.out _).trans hb2
          clear hd2 hb2 HT HO
          go_wp2
          go_roundw
          case rel => exact ⟨k + 1, by omega, by go_num, by rw [HX.out], HE.out, HF.out⟩
          case measure => simp [intOf]; omega
      · have hkn : k = n - 1 := by omega
        have g0 : decide ((k : Int) < (n : Int) - 1) = false := decide_eq_false (by omega)
        subst hkn
        have HF := Lib.hid hb
        clear hd hb
        go_wp2
        go_ret
        exact ⟨rfl, HF.out⟩

set_option maxHeartbeats 1000000 in
theorem discantContrary_any (v u : Value) (xs ys : List Vc) (w : World) (h : VV w v xs) (k : VV w u ys) : Calls Tryd.prog 36 #[v, u] w fun e w' => e = .returned (.int .i64 (dct xs ys)) ∧ Below w.heap.size w w' := by
  have HC := Lib.hid (countContrary_any v u xs ys w h k)
  generalize dct xs ys = z at HC ⊢
  clear h k
  go_enter Tryd.func36, Tryd.ntmps36
  go_wp2_with (fail)
  (go_at_call 55; refine (HC.out).mono ?_; rintro e w1 ⟨rfl, hb⟩)
  have HB := Lib.hid hb
  clear hb
  go_wp2
  go_ret
  exact ⟨rfl, HB.out⟩
end Go.Proofs.YticapinlnlpbpaaDoor
