/-
  The draw of a melody returns: a list of at most so many tones in memory of its own.
-/
import Derived.Test.YtcmcdomfmmjogaaPick
import Derived.Test.YtcmcdomfmmjogaaDraw1
import Derived.Test.YtcmcdomfmmjogaaDraw2
import Derived.Test.YtcmcdomfmmjogaaMelT
import Derived.Test.YtcmcdomfmmjogaaTurn
namespace Go.Proofs.Ytcmcdomfmmjogaa
open Go.RowKit
set_option maxRecDepth 100000
set_option linter.unusedVariables false

theorem Rd.grown {w w' : World} {B A q : Nat} {row : Option Nat} (h : Rd w B A q) (hg : w.grownBy w' row) (hB : some B ≠ row) (hA : some A ≠ row) : Rd w' B A q := by
  have hlB := h.lt
  have hlA := h.ltA
  obtain ⟨p, hp, a, n, cap, hh, hn, hl, hby⟩ := h
  exact ⟨p, hp, a, n, cap, (hg.block B hlB hB).trans hh, hn, Nat.lt_of_lt_of_le hl hg.size, hby.keep (fun _ => hg.block A hlA hA)⟩
theorem gb_own {a w w' : World} {B : Nat} {row : Option Nat} {o : Obj} (h : a.grownBy w (some B)) (hg : (w.alloc o).grownBy w' row) (hr : ∀ g, row = some g → a.heap.size ≤ g) : a.grownBy w' (some B) := by
  have h1 := gb_alloc h o
  exact ⟨hg.os.trans h1.os, hg.tape.trans h1.tape, hg.output.trans h1.output, Nat.le_trans h1.size hg.size, fun i hi hne => (hg.block i (Nat.lt_of_lt_of_le hi h1.size) (fun e => by have := hr i e.symm; omega)).trans (h1.block i hi hne)⟩

/-- the drawing loop's state -/
structure DmInv (w wr : World) (B A q : Nat) (v : Value) (xs : List (Int × Bool)) : Prop where
  own : wr.ownsRow w.heap.size 25 2 v xs.length (tcs xs)
  rd : Rd wr B A q
  gb : w.grownBy wr (some B)
theorem DmInv.pick {w wr w1 : World} {B A q q' : Nat} {v : Value} {xs : List (Int × Bool)} (h : DmInv w wr B A q v xs) (hr : Rd w1 B A q') (hg : wr.grownBy w1 (some B)) (hB : B < w.heap.size) : DmInv w w1 B A q' v xs := by
  refine ⟨h.own.kept hg ?_, hr, gb_step h.gb hg⟩
  right
  intro e
  have := (h.own.lt B e).1
  omega
theorem DmInv.app {w wr w2 : World} {B A q : Nat} {v v' : Value} {xs : List (Int × Bool)} {t : Int × Bool} {o : Obj} (h : DmInv w wr B A q v xs) (hB : B < w.heap.size) (hA : A < w.heap.size)
    (hown : w2.ownsRow w.heap.size 25 2 v' (xs.length + 1) (tcs xs ++ [.int .i64 t.1, .bool t.2])) (hg : (wr.alloc o).grownBy w2 v.ownBlock) : DmInv w w2 B A q v' (xs ++ [t]) := by
  have hlt : ∀ g, v.ownBlock = some g → w.heap.size ≤ g := fun g hg => (h.own.lt g hg).1
  refine ⟨?_, (h.rd.alloc o).grown hg (fun e => by have := hlt B e.symm; omega) (fun e => by have := hlt A e.symm; omega), gb_own h.gb hg hlt⟩
  have e : tcs (xs ++ [t]) = tcs xs ++ [.int .i64 t.1, .bool t.2] := by rw [tcs_app]; rfl
  rw [e]; simpa using hown

def MelPicked (B A q : Nat) (most : Nat) (w : World) (e : Ending) (w' : World) : Prop :=
  ∃ v xs, e = .returned v ∧ DmInv w w' B A (q + 2 * most + 4) v xs ∧ xs.length ≤ most
theorem melPicked {B A q q' most : Nat} {w w' : World} {v : Value} {xs : List (Int × Bool)} (h : DmInv w w' B A q' v xs) (hq : q' ≤ q + 2 * most + 4) (hl : xs.length ≤ most) : MelPicked B A q most w (.returned v) w' :=
  ⟨v, xs, rfl, ⟨h.own, h.rd.more hq, h.gb⟩, hl⟩

/-- a store into the row -/
theorem DmInv.store {w wr : World} {B A q : Nat} {v : Value} {xs ys : List (Int × Bool)} {g i : Nat} {u : Value} (h : DmInv w wr B A q v xs) (hv : v.ownBlock = some g) (hB : B < w.heap.size) (hA : A < w.heap.size)
    (hi : i < xs.length * 2) (hy : tcs ys = (tcs xs).set i u) (hl : ys.length = xs.length) : DmInv w (wr.setCell ⟨g, i, none⟩ u) B A q v ys := by
  have hg := (h.own.lt g hv).1
  refine ⟨?_, h.rd.set_ (by show g ≠ B; omega) (by show g ≠ A; omega) u, ?_⟩
  · obtain ⟨hln, h1 | ⟨g', cap, cur, rfl, hb, hh, hc, hm, hsz, htk⟩⟩ := h.own
    · rw [h1.1] at hv; simp [Value.ownBlock] at hv
    · have e : g' = g := by simpa [Value.ownBlock] using hv
      subst e
      rw [hl]
      refine ⟨by rw [tcs_len, hl], .inr ⟨g', cap, cur.setIfInBounds i u, rfl, hb, by simp [World.setCell, Array.getElem?_modify, hh], hc, hm, by simpa using hsz, ?_⟩⟩
      rw [Array.toList_setIfInBounds, hy, ← htk, List.take_set]
  · exact gb_set h.gb (.inr hg) u
theorem tcs_set0 (t : Int × Bool) (r : List (Int × Bool)) (k : Int) : tcs ((k, t.2) :: r) = (tcs (t :: r)).set 0 (.int .i64 k) := rfl
theorem tcs_setA {xs : List (Int × Bool)} {t : Int × Bool} (h : xs[0]? = some t) (k : Int) : tcs (xs.set 0 (k, t.2)) = (tcs xs).set 0 (.int .i64 k) := by
  cases xs with
  | nil => simp at h
  | cons u r => simp at h; subst h; rfl
theorem tcs_setB {xs : List (Int × Bool)} {i : Nat} {t : Int × Bool} (h : xs[i]? = some t) (b : Bool) : tcs (xs.set i (t.1, b)) = (tcs xs).set (i * 2 + 1) (.bool b) := by
  induction xs generalizing i with
  | nil => simp at h
  | cons u r ih =>
    cases i with
    | zero => simp at h; subst h; rfl
    | succ j =>
      have := ih (i := j) (by simpa using h)
      rw [show (j + 1) * 2 + 1 = (j * 2 + 1) + 1 + 1 by omega]
      simp [tcs, this]

set_option maxHeartbeats 8000000 in
theorem l91Melody_any (B A q most : Nat) (hm : most ≤ 24) (hq : q ≤ 900000) (w : World) (h : Rd w B A q) :
    Calls Try.prog 64 #[.pointer (some ⟨B, 0, none⟩), .int .i64 (most : Int)] w (MelPicked B A q most w) := by
  obtain ⟨i0, hi, hq0, hq1, hq2⟩ := info_parts infoTone
  have hB := h.lt
  have hA := h.ltA
  have hI0 : DmInv w (w.alloc (.cells #[] 25)) B A q (.slice (some ⟨w.heap.size, 0, none⟩) 0 0) [] :=
    ⟨⟨rfl, .inr ⟨w.heap.size, 0, #[], rfl, Nat.le_refl _, heap_alloc_new w _, by simp, by simp [maxLen], by simp, by simp [tcs]⟩⟩, h.alloc _, gb_alloc (gb_refl _ _) _⟩
  clear h
  go_enter Try.func64, Try.ntmps64
  go_wp2_with (fail)
  (go_at_call 63; refine (pick_any ((most : Int) + 1) B A q (by omega) (by omega) (by omega) _ hI0.rd).mono ?_; rintro e w1 ⟨n, rfl, hn0, hn1, hr1, hb1⟩)
  have hI1 := hI0.pick hr1 hb1 hB
  clear hI0 hr1 hb1
  go_wp2_with (fail)
  (go_at_call 63; refine (pick_any 5 B A (q + 1) (by omega) (by omega) (by omega) _ hI1.rd).mono ?_; rintro e w2 ⟨s0, rfl, hs0, hs1, hr2, hb2⟩)
  have hI2 := hI1.pick hr2 hb2 hB
  clear hI1 hr2 hb2
  obtain ⟨N, rfl⟩ : ∃ N : Nat, n = (N : Int) := ⟨n.toNat, by omega⟩
  have hN : N ≤ most := by omega
  go_wp2
  go_loopw [5, 7, 8] (fun v st i wr => ∃ (k : Nat) (s : Int) (xs : List (Int × Bool)), k ≤ N ∧ xs.length = k ∧ i = .int .i64 k ∧ st = .int .i64 s ∧ 1 ≤ s ∧ s ≤ 15 ∧ DmInv w wr B A (q + 2 + 2 * k) v xs) (fun _ _ i _ => N - (intOf i).toNat)
  case atStart => exact ⟨0, _, [], Nat.zero_le _, rfl, rfl, rfl, by omega, by omega, hI2⟩
  case round =>
    obtain ⟨k, s, xs, hk, hx, rfl, rfl, h1, h15, hI⟩ := hrel
    by_cases hlt : k < N
    · have hk0 : (0 : Int) ≤ (k : Int) := by omega
      have hk1 : (k : Int) < (N : Int) := by omega
      clear hI2
      by_cases g2 : s % 7 = 2
      · have e2 : (s % 7 == 2) = true := by simpa using g2
        clear g2
        go_wp2_with (fail)
        (go_at_call 82; refine (l1Letter_any _ (by omega) _).mono ?_; rintro e wx ⟨rfl, rfl⟩)
        go_wp2_with (fail)
        (go_at_call 63; refine (pick_any 3 B A (q + 2 + 2 * k) (by omega) (by omega) (by omega) _ hI.rd).mono ?_; rintro e w3 ⟨b3, rfl, _, _, hr3, hb3⟩)
        have hI3 := hI.pick hr3 hb3 hB
        have hown := hI3.own
        have HI := Lib.hid hI3
        rw [hx] at hown
        have HX := Lib.hid hx
        clear hI hI3 hr3 hb3 hx
        go_wp2_with (at_builtin; refine wpList_append_own _ rfl _ _ 23 rfl w.heap.size 25 i0 (.agg #[.int .i64 0, .bool false]) 2 16 Try.underlying23 hi hq0 hq1 hq2 rfl (by decide) _ _ _ rfl (hown.alloc _) ⟨w3.heap.size, 0, none⟩ 1 1 [.int .i64 s, .bool (b3 == 0)] rfl rfl news2 news2_one (by unfold maxLen; omega) (by omega) (by have := HI.out.gb.size; simp; omega) ?_)
        intro v' w4 hown' hgrow _
        have hI4 := HI.out.app (t := (s, (b3 == 0))) hB hA (by rw [HX.out]; exact hown') hgrow
        clear hown hown' hgrow
        go_wp2_with (fail)
        (go_at_call 63; refine (pick_any 5 B A (q + 2 + 2 * k + 1) (by omega) (by omega) (by omega) _ hI4.rd).mono ?_; rintro e w5 ⟨b5, rfl, h50, h51, hr5, hb5⟩)
        have hI5 := hI4.pick hr5 hb5 hB
        have HI5 := Lib.hid hI5
        clear hI4 hI5 hr5 hb5
        go_wp2
        all_goals
          go_roundw
          case rel => exact ⟨k + 1, _, _, by omega, by rw [List.length_append, HX.out]; rfl, by go_num, rfl, by omega, by omega, ⟨HI5.out.own, HI5.out.rd.more (by omega), HI5.out.gb⟩⟩
          case measure => simp [intOf]; omega
      · have e2 : (s % 7 == 2) = false := by simpa using g2
        clear g2
        go_wp2_with (fail)
        (go_at_call 82; refine (l1Letter_any _ (by omega) _).mono ?_; rintro e wx ⟨rfl, rfl⟩)
        have hown := hI.own
        have HI := Lib.hid hI
        rw [hx] at hown
        have HX := Lib.hid hx
        clear hI hx
        go_wp2_with (at_builtin; refine wpList_append_own _ rfl _ _ 23 rfl w.heap.size 25 i0 (.agg #[.int .i64 0, .bool false]) 2 16 Try.underlying23 hi hq0 hq1 hq2 rfl (by decide) _ _ _ rfl (hown.alloc _) ⟨wr.heap.size, 0, none⟩ 1 1 [.int .i64 s, .bool false] rfl rfl news2 news2_one (by unfold maxLen; omega) (by omega) (by have := HI.out.gb.size; simp; omega) ?_)
        intro v' w4 hown' hgrow _
        have hI4 := HI.out.app (t := (s, false)) hB hA (by rw [HX.out]; exact hown') hgrow
        clear hown hown' hgrow
        go_wp2_with (fail)
        (go_at_call 63; refine (pick_any 5 B A (q + 2 + 2 * k) (by omega) (by omega) (by omega) _ hI4.rd).mono ?_; rintro e w5 ⟨b5, rfl, h50, h51, hr5, hb5⟩)
        have hI5 := hI4.pick hr5 hb5 hB
        have HI5 := Lib.hid hI5
        clear hI4 hI5 hr5 hb5
        go_wp2
        all_goals
          go_roundw
          case rel => exact ⟨k + 1, _, _, by omega, by rw [List.length_append, HX.out]; rfl, by go_num, rfl, by omega, by omega, ⟨HI5.out.own, HI5.out.rd.more (by omega), HI5.out.gb⟩⟩
          case measure => simp [intOf]; omega
    · have hk0 : k = N := by omega
      subst hk0
      by_cases hz : k = 0
      · have HE := Lib.hid (melPicked (most := most) (q := q) hI (by omega) (by omega))
        subst hz
        clear hI hI2
        go_wp2
        go_ret
        exact HE.out
      · have hkp : (0 : Int) < (k : Int) := by omega
        clear hI2
        go_wp2_with (fail)
        (go_at_call 63; refine (pick_any 50 B A (q + 2 + 2 * k) (by omega) (by omega) (by omega) _ hI.rd).mono ?_; rintro e w3 ⟨c, rfl, hc0, hc1, hr3, hb3⟩)
        have hI3 := hI.pick hr3 hb3 hB
        clear hI hr3 hb3
        by_cases hc : c = 0
        · subst hc
          rcases hI3.own.2 with hz' | ⟨g, cap, cur, rfl, hb, hh, hcc, hm', hsz, htk⟩
          · exfalso; have := hz'.2; simp at this; omega
          have hgs : g < w3.heap.size := by
            rcases Nat.lt_or_ge g w3.heap.size with h | h
            · exact h
            · rw [Array.getElem?_eq_none h] at hh; cases hh
          have hI4 : DmInv w (w3.alloc (.cells #[.int .i64 (-1), .int .i64 21, .int .i64 20] 3)) B A (q + 2 + 2 * k + 1) (.slice (some ⟨g, 0, none⟩) xs.length cap) xs := ⟨hI3.own.alloc _, hI3.rd.alloc _, gb_alloc hI3.gb _⟩
          have HI4 := Lib.hid hI4
          clear hI3 hI4
          go_wp2_with (fail)
          (go_at_call 63; refine (pick_any 3 B A (q + 2 + 2 * k + 1) (by omega) (by omega) (by omega) _ HI4.out.rd).mono ?_; rintro e w4 ⟨d, rfl, hd0, hd1, hr4, hb4⟩)
          have hgB : g ≠ B := by omega
          have hwB : w3.heap.size ≠ B := by omega
          have k0 : 0 < cur.size := by omega
          have hh4 : w4.heap[g]? = some (.cells cur 25 (0, 0)) := (hb4.block g (by simp; omega) (by simpa using hgB)).trans ((heap_alloc_old w3 _ hgs).trans hh)
          have d0 : w4.cell? ⟨g, 0, none⟩ = some cur[0] := by simp [World.cell?, hh4, Array.getElem?_eq_getElem k0]
          have df : w4.frozen? ⟨g, 0, none⟩ = false := by simp [World.frozen?, hh4]
          have hn4 := (hb4.block w3.heap.size (by simp) (by simpa using hwB)).trans (heap_alloc_new w3 _)
          have e4 : w4.cell? ⟨w3.heap.size, d.toNat, none⟩ = some (.int .i64 (sel3 (-1) 21 20 d)) := by simp [World.cell?, hn4, sel3_arr hd0 hd1]
          have hI5 := HI4.out.pick hr4 hb4 hB
          obtain ⟨t, ht⟩ : ∃ t, xs[0]? = some t := ⟨xs[0], List.getElem?_eq_getElem (by omega)⟩
          have HE := Lib.hid (melPicked (most := most) (q := q) (hI5.store (i := 0) rfl hB hA (by omega) (tcs_setA ht (sel3 (-1) 21 20 d)) (by simp)) (by omega) (by simp; omega))
          clear hI5 hh hh4 hn4 htk hsz ht
          go_wp2
          go_ret
          have hE := HE.out
          rw [hx] at hE
          exact hE
        by_cases hc1 : c = 1
        · subst hc1
          rcases hI3.own.2 with hz' | ⟨g, cap, cur, rfl, hb, hh, hcc, hm', hsz, htk⟩
          · exfalso; have := hz'.2; simp at this; omega
          obtain ⟨t, ht⟩ : ∃ t, xs[k - 1]? = some t := ⟨xs[k - 1], List.getElem?_eq_getElem (by omega)⟩
          have k1 : (k - 1) * 2 + 1 < cur.size := by omega
          have d1 : w3.cell? ⟨g, (k - 1) * 2 + 1, none⟩ = some cur[(k - 1) * 2 + 1] := by simp [World.cell?, hh, Array.getElem?_eq_getElem k1]
          have df : w3.frozen? ⟨g, (k - 1) * 2 + 1, none⟩ = false := by simp [World.frozen?, hh]
          have HE := Lib.hid (melPicked (most := most) (q := q) (hI3.store (i := (k - 1) * 2 + 1) rfl hB hA (by omega) (tcs_setB ht true) (by simp)) (by omega) (by simp; omega))
          clear hI3 hh htk hsz ht
          go_wp2
          go_ret
          have hE := HE.out
          rw [hx] at hE
          exact hE
        · have HE := Lib.hid (melPicked (most := most) (q := q) hI3 (by omega) (by omega))
          have d0 : (c == 0) = false := by simpa using hc
          have d1 : (c == 1) = false := by simpa using hc1
          clear hI3
          go_wp2
          go_ret
          exact HE.out
end Go.Proofs.Ytcmcdomfmmjogaa
