/-
  DiscantMove in the program.
-/
import Derived.Test.YticapinlnlpbpaaDoorInts
import Derived.Test.YticapinlnlpbpaaDoorMelT
import Derived.Test.YticapinlnlpbpaaDoorMelV
import Derived.Deep.RegionHeld3
import Derived.Deep.AppendLies
import Derived.WalkSpells
import Derived.IntWalk
import Derived.Test.YticapinlnlpbpaaDoorHeights
import Derived.Test.YticapinlnlpbpaaDoorMel
import Derived.Test.YticapinlnlpbpaaDoorTurn
import Derived.Laws.AppendOwnNone
import Derived.Test.YticapinlnlpbpaaDoorVb
import Derived.Test.YticapinlnlpbpaaDoorSp8
namespace Go.Proofs.YticapinlnlpbpaaDoor
open Go.RowKit
set_option maxRecDepth 100000
set_option linter.unusedVariables false

theorem bl_drewN7 {B : Nat} {a w : World} (h : Below B a w) (n : Nat) : Below B a (w.drewN n) := ⟨h.os, h.tape, h.output, h.size, h.block⟩
/-- are two lists equal? -/
def ieq (xs ys : List Int) : Bool := decide (xs = ys)
theorem ieq_len {xs ys : List Int} (h : xs.length ≠ ys.length) : ieq xs ys = false := by
  unfold ieq; rw [decide_eq_false_iff_not]; intro e; exact h (by rw [e])
theorem ieq_at {xs ys : List Int} {k : Nat} (h : xs.getD k 0 ≠ ys.getD k 0) : ieq xs ys = false := by
  unfold ieq; rw [decide_eq_false_iff_not]; intro e; exact h (by rw [e])
theorem ieq_all {xs ys : List Int} (h : xs.length = ys.length) (g : ∀ i, i < xs.length → xs.getD i 0 = ys.getD i 0) : ieq xs ys = true := by
  unfold ieq
  rw [decide_eq_true_iff]
  apply List.ext_getElem h
  intro i h1 h2
  have := g i h1
  simpa [List.getD_eq_getElem?_getD, List.getElem?_eq_getElem h1, List.getElem?_eq_getElem h2] using this
theorem irow_len {w : World} {lo hi : Nat} {v : Value} {xs : List Int} (h : IRow w lo hi v xs) : ∃ a c, v = .slice a xs.length c := by
  rcases h.form with ⟨rfl, rfl⟩ | ⟨g, cap, cur, rfl, _⟩
  · exact ⟨none, 0, rfl⟩
  · exact ⟨_, _, rfl⟩

end Go.Proofs.YticapinlnlpbpaaDoor

namespace Go.Proofs.YticapinlnlpbpaaDoor
open Go.RowKit
set_option maxRecDepth 100000
set_option linter.unusedVariables false

theorem infoInt' : (Tryd.prog.info? 3).map (fun i => (i.zero, i.size, i.bytes)) = some (some (.int .i64 0), 1, 8) := by kernel_rfl

/-- a list of integers that a call has built: its block is its own -/
def IBuilt (w : World) (xs : List Int) (e : Ending) (w' : World) : Prop :=
  ∃ v, e = .returned v ∧ IRow w' w.heap.size w'.heap.size v xs ∧ Below w.heap.size w w'

/-- the first k differences of neighbours -/
def difs (d : Int → Bool → Int → Bool → Int) (xs : List (Int × Bool)) (k : Nat) : List Int :=
  (List.range k).map fun i => d (xs.getD i (0, false)).1 (xs.getD i (0, false)).2 (xs.getD (i + 1) (0, false)).1 (xs.getD (i + 1) (0, false)).2
theorem difs_len (d : Int → Bool → Int → Bool → Int) (xs : List (Int × Bool)) (k : Nat) : (difs d xs k).length = k := by simp [difs]
theorem difs_succ (d : Int → Bool → Int → Bool → Int) {xs : List (Int × Bool)} {k : Nat} {t u : Int × Bool} (h : xs[k]? = some t) (g : xs[k + 1]? = some u) : difs d xs (k + 1) = difs d xs k ++ [d t.1 t.2 u.1 u.2] := by
  simp [difs, List.range_succ, List.getD_eq_getElem?_getD, h, g]
theorem inews {w : World} {z : Int} {t : TypeId} : ∀ j u, ([.int .i64 z] : List Value)[j]? = some u → (w.alloc (.cells #[.int .i64 z] t)).cell? ((⟨w.heap.size, 0, none⟩ : Addr).add j) = some u := by
  intro j u hj
  match j, hj with
  | 0, hj => simp at hj; subst hj; simp [Addr.add]
theorem inews_one {z : Int} : ∀ u ∈ ([.int .i64 z] : List Value), u.oneCell' = true := by
  intro u hu; simp at hu; subst hu; rfl
theorem allv_at {xs : List (Int × Bool)} {k : Nat} {t : Int × Bool} (h : allv xs = true) (hx : xs[k]? = some t) : vd t.1 t.2 = true := List.all_eq_true.1 h t (List.mem_of_getElem? hx)

def DfInv (d : Int → Bool → Int → Bool → Int) (w wr : World) (m v : Value) (xs : List (Int × Bool)) (j : Nat) : Prop :=
  ∃ p, m = .pointer p ∧ wr.ownsRow w.heap.size 3 1 v j ((difs d xs j).map (Value.int .i64)) ∧ (∃ lo, Mel wr lo p (xs.drop j)) ∧ Below w.heap.size w wr

def stepsOf (xs : List (Int × Bool)) : List Int := difs stp (mvl xs) ((mvl xs).length - 1)
theorem mvl_allv (xs : List (Int × Bool)) : allv (mvl xs) = true := List.all_eq_true.2 fun t ht => mvl_mem ht

end Go.Proofs.YticapinlnlpbpaaDoor

namespace Go.Proofs.YticapinlnlpbpaaDoor
open Go.RowKit
set_option maxRecDepth 100000
set_option linter.unusedVariables false

theorem difs_stp {xs : List (Int × Bool)} (h : allv xs = true) {k : Nat} {t u : Int × Bool} (ht : xs[k]? = some t) (hu : xs[k + 1]? = some u) : difs stp xs (k + 1) = difs stp xs k ++ [u.1 - t.1] := by
  rw [difs_succ stp ht hu, stp_yes (allv_at h ht) (allv_at h hu)]

end Go.Proofs.YticapinlnlpbpaaDoor

namespace Go.Proofs.YticapinlnlpbpaaDoor
open Go.RowKit
set_option maxRecDepth 100000
set_option linter.unusedVariables false

def semisOf (xs : List (Int × Bool)) : List Int := difs sem (mvl xs) ((mvl xs).length - 1)

end Go.Proofs.YticapinlnlpbpaaDoor

namespace Go.Proofs.YticapinlnlpbpaaDoor
open Go.RowKit
set_option maxRecDepth 100000
set_option linter.unusedVariables false

theorem difs_sem {xs : List (Int × Bool)} (h : allv xs = true) {k : Nat} {t u : Int × Bool} (ht : xs[k]? = some t) (hu : xs[k + 1]? = some u) : difs sem xs (k + 1) = difs sem xs k ++ [hgt u.1 u.2 - hgt t.1 t.2] := by
  rw [difs_succ sem ht hu, sem_yes (allv_at h ht) (allv_at h hu)]

end Go.Proofs.YticapinlnlpbpaaDoor

namespace Go.Proofs.YticapinlnlpbpaaDoor
open Go.RowKit
set_option maxRecDepth 100000
set_option linter.unusedVariables false

def msame (xs ys : List (Int × Bool)) : Bool := mv xs && mv ys && decide (xs.length = ys.length) && ieq (semisOf xs) (semisOf ys) && ieq (stepsOf xs) (stepsOf ys)
theorem msame_1 {xs ys : List (Int × Bool)} (h : mv xs = false) : msame xs ys = false := by simp [msame, h]
theorem msame_2 {xs ys : List (Int × Bool)} (h : mv ys = false) : msame xs ys = false := by simp [msame, h]
theorem msame_3 {xs ys : List (Int × Bool)} (h : xs.length ≠ ys.length) : msame xs ys = false := by simp [msame, h]
theorem msame_4 {xs ys : List (Int × Bool)} (h : ieq (semisOf xs) (semisOf ys) = false) : msame xs ys = false := by simp [msame, h]
theorem msame_5 {xs ys : List (Int × Bool)} (h1 : mv xs = true) (h2 : mv ys = true) (h3 : xs.length = ys.length) (h4 : ieq (semisOf xs) (semisOf ys) = true) : msame xs ys = ieq (stepsOf xs) (stepsOf ys) := by simp [msame, h1, h2, h3, h4]
theorem trow_len {w : World} {lo hi : Nat} {v : Value} {xs : List (Int × Bool)} (h : TRow w lo hi v xs) : ∃ a c, v = .slice a xs.length c := by
  rcases h.form with ⟨rfl, rfl⟩ | ⟨g, cap, rfl, _⟩
  · exact ⟨none, 0, rfl⟩
  · exact ⟨_, _, rfl⟩

end Go.Proofs.YticapinlnlpbpaaDoor

namespace Go.Proofs.YticapinlnlpbpaaDoor
open Go.RowKit
set_option maxRecDepth 100000
set_option linter.unusedVariables false

/-- has the tone k steps higher of this kind the height that is asked? -/
def cnd (k z : Int) (c : Bool) (t : Int × Bool) : Bool := abv t.1 t.2 k c && (hgt (t.1 + k) c - hgt t.1 t.2 == z)
def tmo (k z : Int) (t : Int × Bool) : Bool := cnd k z false t || cnd k z true t
def tmv (k z : Int) (t : Int × Bool) : Int × Bool := (t.1 + k, !cnd k z false t)
def tmr (k z : Int) (t : Int × Bool) : Int × Bool := if tmo k z t then tmv k z t else (0, false)
theorem cnd_no1 {k z : Int} {c : Bool} {t : Int × Bool} (h : abv t.1 t.2 k c = false) : cnd k z c t = false := by simp [cnd, h]
theorem cnd_no2 {k z : Int} {c : Bool} {t : Int × Bool} (h : (hgt (t.1 + k) c - hgt t.1 t.2 == z) = false) : cnd k z c t = false := by
  unfold cnd; rw [h, Bool.and_false]
theorem cnd_yes {k z : Int} {c : Bool} {t : Int × Bool} (h : abv t.1 t.2 k c = true) (h' : (hgt (t.1 + k) c - hgt t.1 t.2 == z) = true) : cnd k z c t = true := by
  unfold cnd; rw [h, h']; rfl
theorem tmo_hit0 {k z : Int} {t : Int × Bool} (h : cnd k z false t = true) : tmo k z t = true ∧ tmr k z t = (t.1 + k, false) := by
  have e : tmo k z t = true := by unfold tmo; rw [h]; rfl
  exact ⟨e, by unfold tmr tmv; rw [e, h]; rfl⟩
theorem tmo_hit1 {k z : Int} {t : Int × Bool} (h : cnd k z false t = false) (h' : cnd k z true t = true) : tmo k z t = true ∧ tmr k z t = (t.1 + k, true) := by
  have e : tmo k z t = true := by unfold tmo; rw [h, h']; rfl
  exact ⟨e, by unfold tmr tmv; rw [e, h]; rfl⟩
theorem tmo_miss {k z : Int} {t : Int × Bool} (h : cnd k z false t = false) (h' : cnd k z true t = false) : tmo k z t = false ∧ tmr k z t = (0, false) := by
  have e : tmo k z t = false := by unfold tmo; rw [h, h']; rfl
  exact ⟨e, by unfold tmr; rw [e]; rfl⟩
theorem abv_vd {s k : Int} {b c : Bool} (h : abv s b k c = true) : vd s b = true ∧ vd (s + k) c = true ∧ -20 ≤ k ∧ k ≤ 20 := by
  unfold abv at h
  rw [Bool.and_eq_true, Bool.and_eq_true, Bool.and_eq_true] at h
  exact ⟨h.1.1.1, h.2, by simpa using h.1.1.2, by simpa using h.1.2⟩

theorem above_yes (s k : Int) (b c : Bool) (h : abv s b k c = true) (w : World) :
    Calls Tryd.prog 74 #[.agg #[.int .i64 s, .bool b], .int .i64 k, .bool c] w fun e w' => e = .returned (.tuple #[.agg #[.int .i64 (s + k), .bool c], .bool true]) ∧ Below w.heap.size w w' := by
  have K := toneAbove_any s k b c w
  rw [(ab_yes h).1, (ab_yes h).2, h] at K
  exact K
theorem above_no (s k : Int) (b c : Bool) (h : abv s b k c = false) (w : World) :
    Calls Tryd.prog 74 #[.agg #[.int .i64 s, .bool b], .int .i64 k, .bool c] w fun e w' => e = .returned (.tuple #[.agg #[.int .i64 0, .bool false], .bool false]) ∧ Below w.heap.size w w' := by
  have K := toneAbove_any s k b c w
  rw [(ab_no h).1, (ab_no h).2, h] at K
  exact K

/-- the boxes of a tone's move -/
structure TvInv (s : Int) (b : Bool) (w wr : World) : Prop where
  c0 : wr.cell? ⟨w.heap.size, 0, none⟩ = some (.int .i64 s)
  c1 : wr.cell? ⟨w.heap.size, 1, none⟩ = some (.bool b)
  r0 : wr.cell? ⟨w.heap.size + 1, 0, none⟩ = some (.int .i64 0)
  r1 : wr.cell? ⟨w.heap.size + 1, 1, none⟩ = some (.bool false)
  rf : ∀ o, wr.frozen? ⟨w.heap.size + 1, o, none⟩ = false
  z : w.heap.size + 1 < wr.heap.size
  bl : Below w.heap.size w wr
theorem TvInv.below {s : Int} {b : Bool} {w wr w1 : World} (h : TvInv s b w wr) (hb : Below wr.heap.size wr w1) : TvInv s b w w1 := by
  have z := h.z
  exact ⟨(hb.cell (p := ⟨w.heap.size, 0, none⟩) (by show w.heap.size < _; omega)).trans h.c0, (hb.cell (p := ⟨w.heap.size, 1, none⟩) (by show w.heap.size < _; omega)).trans h.c1, (hb.cell (p := ⟨w.heap.size + 1, 0, none⟩) z).trans h.r0,
    (hb.cell (p := ⟨w.heap.size + 1, 1, none⟩) z).trans h.r1, fun o => (hb.frozen (p := ⟨w.heap.size + 1, o, none⟩) z).trans (h.rf o), Nat.lt_of_lt_of_le z hb.size, bl_step h.bl hb⟩
theorem TvInv.alloc {s : Int} {b : Bool} {w wr : World} (h : TvInv s b w wr) (o : Obj) : TvInv s b w (wr.alloc o) := h.below ((Below.refl _ _).alloc (Nat.le_refl _) o)
theorem TvInv.drewN {s : Int} {b : Bool} {w wr : World} (h : TvInv s b w wr) (n : Nat) : TvInv s b w (wr.drewN n) := h.below (bl_drewN (Below.refl _ _) n)
theorem TvInv.start (s : Int) (b : Bool) (w : World) : TvInv s b w ((w.alloc (.cells #[.int .i64 s, .bool b] 41)).alloc (.cells #[.int .i64 0, .bool false] 41)) := by
  refine ⟨by go_simp, by go_simp, by go_simp, by go_simp, fun o => ?_, by simp, ((Below.refl _ _).alloc (Nat.le_refl _) _).alloc (by simp) _⟩
  have hh := heap_alloc_new (w.alloc (.cells #[.int .i64 s, .bool b] 41)) (.cells #[.int .i64 0, .bool false] 41)
  rw [World.size_alloc] at hh
  unfold World.frozen?
  dsimp only
  rw [hh]
  simp

theorem TvInv.drew {s : Int} {b : Bool} {w wr : World} (h : TvInv s b w wr) : TvInv s b w wr.drew := h.below (Below.refl _ _).drew
theorem two_lt {W : World} {n : Nat} {v : Value} (h : W.cell? ⟨n, 0, none⟩ = some v) : n < W.heap.size := World.block_lt_of_cell? W ⟨n, 0, none⟩ h

set_option maxHeartbeats 8000000 in
theorem tmove_any (s k z : Int) (b : Bool) (hv : vd s b = true) (w : World) (ht : StepTab w) :
    Calls Tryd.prog 94 #[.agg #[.int .i64 s, .bool b], .int .i64 k, .int .i64 z] w fun e w' => e = .returned (.tuple #[.agg #[.int .i64 (tmr k z (s, b)).1, .bool (tmr k z (s, b)).2], .bool (tmo k z (s, b))]) ∧ Below w.heap.size w w' := by
  have i0 : ∀ w, (Instr.index 96 (.agg #[.bool false, .bool true]) (.int .i64 0)).run Tryd.prog w = .ok (.bool false) w := fun _ => by kernel_rfl
  have i1 : ∀ w, (Instr.index 96 (.agg #[.bool false, .bool true]) (.int .i64 1)).run Tryd.prog w = .ok (.bool true) w := fun _ => by kernel_rfl
  have HT := Lib.hid ht
  clear ht
  have hI0 := Lib.hid (TvInv.start s b w)
  obtain ⟨v0, v1⟩ := vd_in hv
  obtain ⟨g0, g1⟩ := hgt_bd (b := b) v0 v1
  go_enter Tryd.func94, Tryd.ntmps94
  go_wp2
  go_loopw [13] (fun i wr => ∃ j : Int, (j = 0 ∨ j = 1 ∧ cnd k z false (s, b) = false ∨ j = 2 ∧ cnd k z false (s, b) = false ∧ cnd k z true (s, b) = false) ∧ i = .int .i64 j ∧ TvInv s b w wr) (fun i _ => 2 - (intOf i).toNat)
  case atStart => exact ⟨0, .inl rfl, rfl, hI0.out⟩
  case round =>
    obtain ⟨j, hj, rfl, hI⟩ := hrel
    have e0 := hI.c0
    have e1 := hI.c1
    have e2 := hI.r0
    have e3 := hI.r1
    have HI := Lib.hid hI
    clear hI hI0
    rcases hj with rfl | ⟨rfl, hm0⟩ | ⟨rfl, hm0, hm1⟩
    · by_cases hA : abv s b k false = false
      · have HA := Lib.hid hA
        go_wp2_with (fail)
        (go_at_call 74; refine (above_no s k b false HA.out _).mono ?_; rintro e w1 ⟨rfl, hb1⟩)
        have HI1 := Lib.hid (HI.out.below hb1)
        clear e0 e1 e2 e3 hA
        go_wp2
        go_quiet (fail)
        go_wp2
        go_roundw
        case rel => exact ⟨1, .inr (.inl ⟨rfl, cnd_no1 (t := (s, b)) HA.out⟩), rfl, (HI1.out.alloc _).drewN _⟩
        case measure => simp [intOf]
      rw [Bool.not_eq_false] at hA
      obtain ⟨_, hu, _, _⟩ := abv_vd hA
      obtain ⟨u0, u1⟩ := vd_in hu
      obtain ⟨g2, g3⟩ := hgt_bd (b := false) u0 u1
      have sw : IntKind.i64.wrap (hgt (s + k) false - hgt s b) = hgt (s + k) false - hgt s b := IntWalk.i64_in _ (by omega)
      by_cases hG : (hgt (s + k) false - hgt s b == z) = true
      · have HH := Lib.hid (tmo_hit0 (cnd_yes (t := (s, b)) hA hG))
        go_wp2_with (fail)
        (go_at_call 74; refine (above_yes s k b false hA _).mono ?_; rintro e w1 ⟨rfl, hb1⟩)
        have hI1 := HI.out.below hb1
        clear e0 e1 e2 e3
        go_wp2
        obtain ⟨W, hW⟩ : ∃ W, W = w1.alloc (.cells #[.int .i64 (s + k), .bool false] 41) := ⟨_, rfl⟩
        have f0 : W.cell? ⟨w1.heap.size, 0, none⟩ = some (.int .i64 (s + k)) := by rw [hW]; go_simp
        have f1 : W.cell? ⟨w1.heap.size, 1, none⟩ = some (.bool false) := by rw [hW]; go_simp
        have hI2 : TvInv s b w W := by rw [hW]; exact hI1.alloc _
        have k0 := hI2.c0
        have k1 := hI2.c1
        have HI2 := Lib.hid hI2
        have HT2 : Hid (StepTab W.drew) := HT.out.below hI2.bl.drew
        have fz : w1.heap.size < W.heap.size := two_lt f0
        have fw : w.heap.size < W.heap.size := two_lt k0
        rw [← hW]
        clear hW hI1 hI2
        go_region_held3 (fun wx => wx.cell? ⟨w.heap.size, 0, none⟩ = some (.int .i64 s) ∧ wx.cell? ⟨w.heap.size, 1, none⟩ = some (.bool b) ∧ wx.cell? ⟨w1.heap.size, 0, none⟩ = some (.int .i64 (s + k)) ∧ wx.cell? ⟨w1.heap.size, 1, none⟩ = some (.bool false)) (go_keep)
          (first | (go_at_call_of 69 (Value.agg #[Value.int .i64 (s + k), Value.bool false]); refine (height_any _ _ u0 u1 _ HT2.out).mono ?_; rintro e w3 ⟨rfl, hb3⟩; have HT3 := Lib.hid (HT2.out.below hb3); have HI3 := Lib.hid (HI2.out.drew.below hb3); have c3a := HI3.out.c0; have c3b := HI3.out.c1; have c3c := (hb3.cell (p := ⟨w1.heap.size, 0, none⟩) fz).trans f0; have c3d := (hb3.cell (p := ⟨w1.heap.size, 1, none⟩) fz).trans f1; have fz3 := Nat.lt_of_lt_of_le fz hb3.size) | (go_at_call 69; refine (height_any _ _ v0 v1 _ HT3.out).mono ?_; rintro e w4 ⟨rfl, hb4⟩; have HI4 := Lib.hid (HI3.out.below hb4); have c4a := HI4.out.c0; have c4b := HI4.out.c1; have c4c := (hb4.cell (p := ⟨w1.heap.size, 0, none⟩) fz3).trans c3c; have c4d := (hb4.cell (p := ⟨w1.heap.size, 1, none⟩) fz3).trans c3d))
        have rz0 := HI4.out.r0
        have rz1 := HI4.out.r1
        have rzf := HI4.out.rf
        have hbw := HI4.out.bl
        go_wp2
        refine bodyPost_ret (v := .tuple #[.agg #[.int .i64 (s + k), .bool false], .bool true]) (by simp only [results, Tryd.results94]; go_simp) rfl ⟨by rw [HH.out.1, HH.out.2], ?_⟩
        exact (hbw.setCell (by simp) _).setCell (by simp) _
      · rw [Bool.not_eq_true] at hG
        have HG := Lib.hid hG
        go_wp2_with (fail)
        (go_at_call 74; refine (above_yes s k b false hA _).mono ?_; rintro e w1 ⟨rfl, hb1⟩)
        have hI1 := HI.out.below hb1
        clear e0 e1 e2 e3
        go_wp2
        obtain ⟨W, hW⟩ : ∃ W, W = w1.alloc (.cells #[.int .i64 (s + k), .bool false] 41) := ⟨_, rfl⟩
        have f0 : W.cell? ⟨w1.heap.size, 0, none⟩ = some (.int .i64 (s + k)) := by rw [hW]; go_simp
        have f1 : W.cell? ⟨w1.heap.size, 1, none⟩ = some (.bool false) := by rw [hW]; go_simp
        have hI2 : TvInv s b w W := by rw [hW]; exact hI1.alloc _
        have k0 := hI2.c0
        have k1 := hI2.c1
        have HI2 := Lib.hid hI2
        have HT2 : Hid (StepTab W.drew) := HT.out.below hI2.bl.drew
        have fz : w1.heap.size < W.heap.size := two_lt f0
        have fw : w.heap.size < W.heap.size := two_lt k0
        rw [← hW]
        clear hW hI1 hI2
        go_region_held3 (fun wx => wx.cell? ⟨w.heap.size, 0, none⟩ = some (.int .i64 s) ∧ wx.cell? ⟨w.heap.size, 1, none⟩ = some (.bool b) ∧ wx.cell? ⟨w1.heap.size, 0, none⟩ = some (.int .i64 (s + k)) ∧ wx.cell? ⟨w1.heap.size, 1, none⟩ = some (.bool false)) (go_keep)
          (first | (go_at_call_of 69 (Value.agg #[Value.int .i64 (s + k), Value.bool false]); refine (height_any _ _ u0 u1 _ HT2.out).mono ?_; rintro e w3 ⟨rfl, hb3⟩; have HT3 := Lib.hid (HT2.out.below hb3); have HI3 := Lib.hid (HI2.out.drew.below hb3); have c3a := HI3.out.c0; have c3b := HI3.out.c1; have c3c := (hb3.cell (p := ⟨w1.heap.size, 0, none⟩) fz).trans f0; have c3d := (hb3.cell (p := ⟨w1.heap.size, 1, none⟩) fz).trans f1; have fz3 := Nat.lt_of_lt_of_le fz hb3.size) | (go_at_call 69; refine (height_any _ _ v0 v1 _ HT3.out).mono ?_; rintro e w4 ⟨rfl, hb4⟩; have HI4 := Lib.hid (HI3.out.below hb4); have c4a := HI4.out.c0; have c4b := HI4.out.c1; have c4c := (hb4.cell (p := ⟨w1.heap.size, 0, none⟩) fz3).trans c3c; have c4d := (hb4.cell (p := ⟨w1.heap.size, 1, none⟩) fz3).trans c3d))
        go_wp2
        go_roundw
        case rel => exact ⟨1, .inr (.inl ⟨rfl, cnd_no2 (t := (s, b)) HG.out⟩), rfl, HI4.out⟩
        case measure => simp [intOf]
    · have HM0 := Lib.hid hm0
      clear hm0
      by_cases hA : abv s b k true = false
      · have HA := Lib.hid hA
        go_wp2_with (fail)
        (go_at_call 74; refine (above_no s k b true HA.out _).mono ?_; rintro e w1 ⟨rfl, hb1⟩)
        have HI1 := Lib.hid (HI.out.below hb1)
        clear e0 e1 e2 e3 hA
        go_wp2
        go_quiet (fail)
        go_wp2
        go_roundw
        case rel => exact ⟨2, .inr (.inr ⟨rfl, HM0.out, cnd_no1 (t := (s, b)) HA.out⟩), rfl, (HI1.out.alloc _).drewN _⟩
        case measure => simp [intOf]
      rw [Bool.not_eq_false] at hA
      obtain ⟨_, hu, _, _⟩ := abv_vd hA
      obtain ⟨u0, u1⟩ := vd_in hu
      obtain ⟨g2, g3⟩ := hgt_bd (b := true) u0 u1
      have sw : IntKind.i64.wrap (hgt (s + k) true - hgt s b) = hgt (s + k) true - hgt s b := IntWalk.i64_in _ (by omega)
      by_cases hG : (hgt (s + k) true - hgt s b == z) = true
      · have HH := Lib.hid (tmo_hit1 HM0.out (cnd_yes (t := (s, b)) hA hG))
        go_wp2_with (fail)
        (go_at_call 74; refine (above_yes s k b true hA _).mono ?_; rintro e w1 ⟨rfl, hb1⟩)
        have hI1 := HI.out.below hb1
        clear e0 e1 e2 e3
        go_wp2
        obtain ⟨W, hW⟩ : ∃ W, W = w1.alloc (.cells #[.int .i64 (s + k), .bool true] 41) := ⟨_, rfl⟩
        have f0 : W.cell? ⟨w1.heap.size, 0, none⟩ = some (.int .i64 (s + k)) := by rw [hW]; go_simp
        have f1 : W.cell? ⟨w1.heap.size, 1, none⟩ = some (.bool true) := by rw [hW]; go_simp
        have hI2 : TvInv s b w W := by rw [hW]; exact hI1.alloc _
        have k0 := hI2.c0
        have k1 := hI2.c1
        have HI2 := Lib.hid hI2
        have HT2 : Hid (StepTab W.drew) := HT.out.below hI2.bl.drew
        have fz : w1.heap.size < W.heap.size := two_lt f0
        have fw : w.heap.size < W.heap.size := two_lt k0
        rw [← hW]
        clear hW hI1 hI2
        go_region_held3 (fun wx => wx.cell? ⟨w.heap.size, 0, none⟩ = some (.int .i64 s) ∧ wx.cell? ⟨w.heap.size, 1, none⟩ = some (.bool b) ∧ wx.cell? ⟨w1.heap.size, 0, none⟩ = some (.int .i64 (s + k)) ∧ wx.cell? ⟨w1.heap.size, 1, none⟩ = some (.bool true)) (go_keep)
          (first | (go_at_call_of 69 (Value.agg #[Value.int .i64 (s + k), Value.bool true]); refine (height_any _ _ u0 u1 _ HT2.out).mono ?_; rintro e w3 ⟨rfl, hb3⟩; have HT3 := Lib.hid (HT2.out.below hb3); have HI3 := Lib.hid (HI2.out.drew.below hb3); have c3a := HI3.out.c0; have c3b := HI3.out.c1; have c3c := (hb3.cell (p := ⟨w1.heap.size, 0, none⟩) fz).trans f0; have c3d := (hb3.cell (p := ⟨w1.heap.size, 1, none⟩) fz).trans f1; have fz3 := Nat.lt_of_lt_of_le fz hb3.size) | (go_at_call 69; refine (height_any _ _ v0 v1 _ HT3.out).mono ?_; rintro e w4 ⟨rfl, hb4⟩; have HI4 := Lib.hid (HI3.out.below hb4); have c4a := HI4.out.c0; have c4b := HI4.out.c1; have c4c := (hb4.cell (p := ⟨w1.heap.size, 0, none⟩) fz3).trans c3c; have c4d := (hb4.cell (p := ⟨w1.heap.size, 1, none⟩) fz3).trans c3d))
        have rz0 := HI4.out.r0
        have rz1 := HI4.out.r1
        have rzf := HI4.out.rf
        have hbw := HI4.out.bl
        go_wp2
        refine bodyPost_ret (v := .tuple #[.agg #[.int .i64 (s + k), .bool true], .bool true]) (by simp only [results, Tryd.results94]; go_simp) rfl ⟨by rw [HH.out.1, HH.out.2], ?_⟩
        exact (hbw.setCell (by simp) _).setCell (by simp) _
      · rw [Bool.not_eq_true] at hG
        have HG := Lib.hid hG
        go_wp2_with (fail)
        (go_at_call 74; refine (above_yes s k b true hA _).mono ?_; rintro e w1 ⟨rfl, hb1⟩)
        have hI1 := HI.out.below hb1
        clear e0 e1 e2 e3
        go_wp2
        obtain ⟨W, hW⟩ : ∃ W, W = w1.alloc (.cells #[.int .i64 (s + k), .bool true] 41) := ⟨_, rfl⟩
        have f0 : W.cell? ⟨w1.heap.size, 0, none⟩ = some (.int .i64 (s + k)) := by rw [hW]; go_simp
        have f1 : W.cell? ⟨w1.heap.size, 1, none⟩ = some (.bool true) := by rw [hW]; go_simp
        have hI2 : TvInv s b w W := by rw [hW]; exact hI1.alloc _
        have k0 := hI2.c0
        have k1 := hI2.c1
        have HI2 := Lib.hid hI2
        have HT2 : Hid (StepTab W.drew) := HT.out.below hI2.bl.drew
        have fz : w1.heap.size < W.heap.size := two_lt f0
        have fw : w.heap.size < W.heap.size := two_lt k0
        rw [← hW]
        clear hW hI1 hI2
        go_region_held3 (fun wx => wx.cell? ⟨w.heap.size, 0, none⟩ = some (.int .i64 s) ∧ wx.cell? ⟨w.heap.size, 1, none⟩ = some (.bool b) ∧ wx.cell? ⟨w1.heap.size, 0, none⟩ = some (.int .i64 (s + k)) ∧ wx.cell? ⟨w1.heap.size, 1, none⟩ = some (.bool true)) (go_keep)
          (first | (go_at_call_of 69 (Value.agg #[Value.int .i64 (s + k), Value.bool true]); refine (height_any _ _ u0 u1 _ HT2.out).mono ?_; rintro e w3 ⟨rfl, hb3⟩; have HT3 := Lib.hid (HT2.out.below hb3); have HI3 := Lib.hid (HI2.out.drew.below hb3); have c3a := HI3.out.c0; have c3b := HI3.out.c1; have c3c := (hb3.cell (p := ⟨w1.heap.size, 0, none⟩) fz).trans f0; have c3d := (hb3.cell (p := ⟨w1.heap.size, 1, none⟩) fz).trans f1; have fz3 := Nat.lt_of_lt_of_le fz hb3.size) | (go_at_call 69; refine (height_any _ _ v0 v1 _ HT3.out).mono ?_; rintro e w4 ⟨rfl, hb4⟩; have HI4 := Lib.hid (HI3.out.below hb4); have c4a := HI4.out.c0; have c4b := HI4.out.c1; have c4c := (hb4.cell (p := ⟨w1.heap.size, 0, none⟩) fz3).trans c3c; have c4d := (hb4.cell (p := ⟨w1.heap.size, 1, none⟩) fz3).trans c3d))
        go_wp2
        go_roundw
        case rel => exact ⟨2, .inr (.inr ⟨rfl, HM0.out, cnd_no2 (t := (s, b)) HG.out⟩), rfl, HI4.out⟩
        case measure => simp [intOf]
    · have HM := Lib.hid (tmo_miss hm0 hm1)
      have ef := HI.out.rf
      have hbw := HI.out.bl
      clear hm0 hm1
      go_wp2
      refine bodyPost_ret (v := .tuple #[.agg #[.int .i64 0, .bool false], .bool false]) (by simp only [results, Tryd.results94]; go_simp) rfl ⟨by rw [HM.out.1, HM.out.2], ?_⟩
      exact (hbw.setCell (by simp) _).setCell (by simp) _

/-- what a moved melody is -/
def MvRes (w : World) (k z : Int) (xs : List (Int × Bool)) (e : Ending) (w' : World) : Prop :=
  ∃ p, e = .returned (.tuple #[.pointer p, .bool (xs.all (tmo k z))]) ∧ Mel w' w.heap.size p (if xs.all (tmo k z) then xs.map (tmv k z) else []) ∧ Below w.heap.size w w'
theorem mv_no {w w' : World} {k z : Int} {xs : List (Int × Bool)} (h : xs.all (tmo k z) = false) (hb : Below w.heap.size w w') : MvRes w k z xs (.returned (.tuple #[.pointer none, .bool false])) w' :=
  ⟨none, by rw [h], by rw [h]; exact rfl, hb⟩
theorem all_cons_no1 {f : Int × Bool → Bool} {t : Int × Bool} {r : List (Int × Bool)} (h : f t = false) : (t :: r).all f = false := by simp [h]
theorem all_cons_no2 {f : Int × Bool → Bool} {t : Int × Bool} {r : List (Int × Bool)} (h : r.all f = false) : (t :: r).all f = false := by rw [List.all_cons, h, Bool.and_false]
theorem all_cons_yes {f : Int × Bool → Bool} {t : Int × Bool} {r : List (Int × Bool)} (h : f t = true) (h' : r.all f = true) : (t :: r).all f = true := by rw [List.all_cons, h, h']; rfl

set_option maxHeartbeats 4000000 in
theorem mmove_any (k z : Int) (xs : List (Int × Bool)) (hx : xs.all (fun t => vd t.1 t.2) = true) : ∀ (p : Option Addr) (lo : Nat) (w : World), Mel w lo p xs → StepTab w →
    Calls Tryd.prog 75 #[.pointer p, .int .i64 k, .int .i64 z] w (MvRes w k z xs) := by
  induction xs with
  | nil =>
    intro p lo w hp ht
    have hp0 : p = none := hp
    subst hp0
    have HE : Hid (MvRes w k z [] (.returned (.tuple #[.pointer none, .bool true])) w) := ⟨none, rfl, rfl, Below.refl _ _⟩
    clear hp ht
    go_enter Tryd.func75, Tryd.ntmps75
    go_wp2
    go_ret2
    exact HE.out
  | cons t r ih =>
    intro p lo w hp ht
    rw [List.all_cons, Bool.and_eq_true] at hx
    obtain ⟨s, b⟩ := t
    obtain ⟨hv, hr0⟩ := hx
    obtain ⟨B, p', rfl, hlo, hB, c0, c1, c2, hr⟩ := hp.head
    have HV := Lib.hid hv
    have HR := Lib.hid hr
    have HT := Lib.hid ht
    have HI := Lib.hid (ih hr0)
    clear hp hr ih ht hv hr0
    by_cases hm : tmo k z (s, b) = false
    · have HN := Lib.hid (fun w' => mv_no (w := w) (w' := w') (all_cons_no1 (r := r) hm))
      go_enter Tryd.func75, Tryd.ntmps75
      go_wp2_with (fail)
      (go_at_call 94; refine (tmove_any s k z b HV.out _ HT.out).mono ?_; rintro e w1 ⟨rfl, hb1⟩)
      go_wp2
      go_ret2
      exact HN.out _ (hb1.alloc hb1.size _)
    rw [Bool.not_eq_false] at hm
    have HM := Lib.hid hm
    have HX : Hid (tmr k z (s, b) = tmv k z (s, b)) := by
      show tmr k z (s, b) = _
      unfold tmr; rw [hm]; rfl
    by_cases ha : r.all (tmo k z) = false
    · have HN := Lib.hid (fun w' => mv_no (w := w) (w' := w') (all_cons_no2 (t := (s, b)) ha))
      have HA := Lib.hid ha
      clear ha
      go_enter Tryd.func75, Tryd.ntmps75
      go_wp2_with (fail)
      (go_at_call 94; refine (tmove_any s k z b HV.out _ HT.out).mono ?_; rintro e w1 ⟨rfl, hb1⟩)
      have d2 := (hb1.cell (p := ⟨B, 2, none⟩) hB).trans c2
      have hB1 : B < w1.heap.size := Nat.lt_of_lt_of_le hB hb1.size
      have hbw := hb1.alloc hb1.size (.cells #[.int .i64 (tmr k z (s, b)).1, .bool (tmr k z (s, b)).2] 41)
      clear c0 c1 c2
      go_wp2_with (fail)
      (go_at_call 75; refine (HI.out p' lo _ (HR.out.below hbw) (HT.out.below hbw)).mono ?_; rintro e w2 ⟨q, rfl, hq, hb2⟩)
      have HB := Lib.hid (bl_step hbw hb2)
      clear hq
      rw [HA.out]
      go_wp2
      go_ret2
      exact HN.out _ HB.out
    rw [Bool.not_eq_false] at ha
    have HA := Lib.hid ha
    have HY := Lib.hid (all_cons_yes hm ha)
    clear ha
    go_enter Tryd.func75, Tryd.ntmps75
    go_wp2_with (fail)
    (go_at_call 94; refine (tmove_any s k z b HV.out _ HT.out).mono ?_; rintro e w1 ⟨rfl, hb1⟩)
    have d2 := (hb1.cell (p := ⟨B, 2, none⟩) hB).trans c2
    have hB1 : B < w1.heap.size := Nat.lt_of_lt_of_le hB hb1.size
    have hbw := hb1.alloc hb1.size (.cells #[.int .i64 (tmr k z (s, b)).1, .bool (tmr k z (s, b)).2] 41)
    clear c0 c1 c2
    go_wp2_with (fail)
    (go_at_call 75; refine (HI.out p' lo _ (HR.out.below hbw) (HT.out.below hbw)).mono ?_; rintro e w2 ⟨q, rfl, hq, hb2⟩)
    have m0 : w2.cell? ⟨w1.heap.size, 0, none⟩ = some (.int .i64 (tmr k z (s, b)).1) := (hb2.cell (p := ⟨w1.heap.size, 0, none⟩) (by simp)).trans (by go_simp)
    have m1 : w2.cell? ⟨w1.heap.size, 1, none⟩ = some (.bool (tmr k z (s, b)).2) := (hb2.cell (p := ⟨w1.heap.size, 1, none⟩) (by simp)).trans (by go_simp)
    rw [HA.out] at hq
    have hbq := bl_step hbw hb2
    have HE : Hid (MvRes w k z ((s, b) :: r) (.returned (.tuple #[.pointer (some ⟨w2.heap.size, 0, none⟩), .bool true])) (w2.alloc (.cells #[.int .i64 (tmr k z (s, b)).1, .bool (tmr k z (s, b)).2, .pointer q] 99))) := by
      refine ⟨_, by rw [HY.out], ?_, hbq.alloc hbq.size _⟩
      rw [HY.out, if_pos rfl, List.map_cons, HX.out]
      exact (hq.mono (by have := hbw.size; omega)).cons_ (t := tmv k z (s, b)) hbq.size
    clear hq
    rw [HA.out]
    go_wp2
    go_ret2
    exact HE.out

end Go.Proofs.YticapinlnlpbpaaDoor

namespace Go.Proofs.YticapinlnlpbpaaDoor
open Go.RowKit
set_option maxRecDepth 100000
set_option linter.unusedVariables false

def MBuilt (w : World) (xs : List (Int × Bool)) (e : Ending) (w' : World) : Prop :=
  ∃ p, e = .returned (.pointer p) ∧ Mel w' w.heap.size p xs ∧ Below w.heap.size w w'
def BkInv (w wr : World) (m o : Value) (xs ys : List (Int × Bool)) : Prop :=
  ∃ p q, m = .pointer p ∧ o = .pointer q ∧ (∃ lo, Mel wr lo p ys) ∧ Mel wr w.heap.size q xs ∧ Below w.heap.size w wr

/-- a list of tones that a call has built, and whether it succeeds -/
def TBuilt2 (w : World) (xs : List (Int × Bool)) (ok : Bool) (e : Ending) (w' : World) : Prop :=
  ∃ v, e = .returned (.tuple #[v, .bool ok]) ∧ TRow w' w.heap.size w'.heap.size v xs ∧ Below w.heap.size w w'

theorem mvl_back (xs : List (Int × Bool)) : (mvl xs).reverse.length ≤ 24 := by rw [List.length_reverse]; exact mvl_len xs

/-- the model's loop behind all but k tones -/
def SbInv (w wr : World) (xs : List (Int × Bool)) (k : Nat) (o i : Value) : Prop :=
  i = .int .i64 ((k : Int) - 1) ∧ k ≤ xs.length ∧ wr.ownsRow w.heap.size 41 2 o (xs.length - k) (tcs (xs.drop k).reverse) ∧ Below w.heap.size w wr

end Go.Proofs.YticapinlnlpbpaaDoor

namespace Go.Proofs.YticapinlnlpbpaaDoor
open Go.RowKit
set_option maxRecDepth 100000
set_option linter.unusedVariables false

def jok (xs ys : List (Int × Bool)) : Bool := mv xs && mv ys && decide (xs.length + ys.length ≤ 24)
def jn (xs ys : List (Int × Bool)) : List (Int × Bool) := if jok xs ys then xs ++ ys else []
theorem jn_no {xs ys : List (Int × Bool)} (h : jok xs ys = false) : jn xs ys = [] := by simp [jn, h]
theorem jn_yes {xs ys : List (Int × Bool)} (h : jok xs ys = true) : jn xs ys = xs ++ ys := by simp [jn, h]
theorem jok_mv (xs ys : List (Int × Bool)) : (mv xs && mv ys && mv (xs ++ ys)) = jok xs ys := by
  unfold jok
  by_cases h1 : mv xs = true
  · by_cases h2 : mv ys = true
    · have a1 : allv xs = true := by simp [mv] at h1; exact h1.2
      have a2 : allv ys = true := by simp [mv] at h2; exact h2.2
      have a3 : allv (xs ++ ys) = true := by unfold allv at *; rw [List.all_append, a1, a2]; rfl
      have e : mv (xs ++ ys) = decide (xs.length + ys.length ≤ 24) := by unfold mv; rw [a3, List.length_append, Bool.and_true]
      rw [e]
    · simp [h2]
  · simp [h1]

theorem Mel.join_ {w : World} {lo : Nat} {p : Option Addr} {xs : List (Int × Bool)} (h : Mel w lo p xs) : xs = [] ↔ p = none := by
  cases xs with
  | nil => simp [Mel] at h; simp [h]
  | cons t r => obtain ⟨B, q, rfl, _⟩ := h; simp

def JBuilt (w : World) (lo : Nat) (xs : List (Int × Bool)) (e : Ending) (w' : World) : Prop :=
  ∃ p, e = .returned (.pointer p) ∧ Mel w' lo p xs ∧ Below w.heap.size w w'

theorem empty_row (w : World) : TRow (w.alloc (.cells #[] 41)) w.heap.size (w.alloc (.cells #[] 41)).heap.size (.slice (some ⟨w.heap.size, 0, none⟩) 0 0) [] := by
  refine ⟨⟨rfl, .inr ⟨w.heap.size, 0, #[], rfl, Nat.le_refl _, heap_alloc_new w _, by simp, by simp [maxLen], by simp, by simp [tcs]⟩⟩, fun g hg => ?_⟩
  have : g = w.heap.size := by simpa [Value.ownBlock] using hg.symm
  simp
  omega
theorem own_trow {w : World} {lo hi : Nat} {v : Value} {xs : List (Int × Bool)} (h : TRow w lo hi v xs) : ∃ a c, v = .slice a xs.length c := by
  rcases h.form with ⟨rfl, rfl⟩ | ⟨g, cap, rfl, _⟩
  · exact ⟨none, 0, rfl⟩
  · exact ⟨_, _, rfl⟩

/-- tones appended to a row of the call's own, out of another slice *)-/
theorem append_tones {w : World} {ops : Array Oper} {rest : List Oper} {o : Oper} {a : Act} {Q : Exit → Act → World → Prop} (hgd : o.guard = none) (s x : Operand)
    (ho : o.op = .call { callee := .builtin .append, args := #[s, x], argTypes := #[52, 52] })
    (base lo hi : Nat) (v u : Value) (n : Nat) (cs : List Value) (ys : List (Int × Bool)) (hs : a.eval s = v) (hown : w.ownsRow base 41 2 v n cs) (hx : a.eval x = u) (hu : TRow w lo hi u ys)
    (hn : n ≤ 4000000) (hy : ys.length ≤ 4000000) (hbase : base ≤ w.heap.size)
    (h : ∀ v' w', w'.ownsRow base 41 2 v' (n + ys.length) (cs ++ tcs ys) → w.grownBy w' v.ownBlock → wpList Tryd.prog ops Q rest (a.put o.dst v') w') : wpList Tryd.prog ops Q (o :: rest) a w := by
  obtain ⟨i0, hi, hq0, hq1, hq2⟩ := info_parts infoTone
  rcases hu.1.2 with ⟨rfl, h0⟩ | ⟨g, cap, cur, rfl, _, hh, hc, _, hsz, htk⟩
  · have hy0 : ys = [] := List.eq_nil_of_length_eq_zero h0
    subst hy0
    exact wpList_append_own_none hgd s x _ ho base _ i0 2 Tryd.underlying52 hi v n cs hs hown hx (h v w (by simpa [tcs] using hown) (World.grownBy.refl _ _))
  · refine wpList_append_own w hgd s x _ ho base _ i0 (.agg #[.int .i64 0, .bool false]) 2 16 Tryd.underlying52 hi hq0 hq1 hq2 rfl (by decide) v n cs hs hown ⟨g, 0, none⟩ ys.length cap (tcs ys) hx (tcs_len ys) (fun j z hz => ?_) (tcs_one ys) (by unfold maxLen; omega) (by omega) hbase
      (fun v' w' h1 h2 _ => h v' w' h1 h2)
    exact hu.1.cells (g := g) rfl j z hz

end Go.Proofs.YticapinlnlpbpaaDoor

namespace Go.Proofs.YticapinlnlpbpaaDoor
open Go.RowKit
set_option maxRecDepth 100000
set_option linter.unusedVariables false

/-- does the move succeed with a first tone of this kind? -/
def hitc (k : Int) (c : Bool) : List (Int × Bool) → Bool
  | [] => false
  | t :: r => abv t.1 t.2 k c && (t :: r).all (tmo k (hgt (t.1 + k) c - hgt t.1 t.2))
def mvz (k : Int) (c : Bool) : List (Int × Bool) → List (Int × Bool)
  | [] => []
  | t :: r => (t :: r).map (tmv k (hgt (t.1 + k) c - hgt t.1 t.2))
def mmB (k : Int) (xs : List (Int × Bool)) : Bool := mv xs && (xs.isEmpty || (hitc k false xs || hitc k true xs))
def mmL (k : Int) (xs : List (Int × Bool)) : List (Int × Bool) := if mv xs then (if hitc k false xs then mvz k false xs else if hitc k true xs then mvz k true xs else []) else []
theorem mm_no1 {k : Int} {xs : List (Int × Bool)} (h : mv xs = false) : mmL k xs = [] ∧ mmB k xs = false := by simp [mmL, mmB, h]
theorem mm_nil (k : Int) : mmL k [] = [] ∧ mmB k [] = true := ⟨rfl, rfl⟩
theorem mm_hit0 {k : Int} {xs : List (Int × Bool)} (h : mv xs = true) (h0 : hitc k false xs = true) : mmL k xs = mvz k false xs ∧ mmB k xs = true := by
  unfold mmL mmB; rw [h, h0]; simp
theorem mm_hit1 {k : Int} {xs : List (Int × Bool)} (h : mv xs = true) (h0 : hitc k false xs = false) (h1 : hitc k true xs = true) : mmL k xs = mvz k true xs ∧ mmB k xs = true := by
  unfold mmL mmB; rw [h, h0, h1]; simp
theorem mm_miss {k : Int} {t : Int × Bool} {r : List (Int × Bool)} (h : mv (t :: r) = true) (h0 : hitc k false (t :: r) = false) (h1 : hitc k true (t :: r) = false) : mmL k (t :: r) = [] ∧ mmB k (t :: r) = false := by
  unfold mmL mmB; rw [h, h0, h1]; simp
theorem hitc_no1 {k : Int} {c : Bool} {t : Int × Bool} {r : List (Int × Bool)} (h : abv t.1 t.2 k c = false) : hitc k c (t :: r) = false := by
  show (abv t.1 t.2 k c && (t :: r).all (tmo k (hgt (t.1 + k) c - hgt t.1 t.2))) = false
  rw [h, Bool.false_and]
theorem hitc_no2 {k : Int} {c : Bool} {t : Int × Bool} {r : List (Int × Bool)} (h : (t :: r).all (tmo k (hgt (t.1 + k) c - hgt t.1 t.2)) = false) : hitc k c (t :: r) = false := by
  show (abv t.1 t.2 k c && (t :: r).all (tmo k (hgt (t.1 + k) c - hgt t.1 t.2))) = false
  rw [h, Bool.and_false]
theorem hitc_yes {k : Int} {c : Bool} {t : Int × Bool} {r : List (Int × Bool)} (h : abv t.1 t.2 k c = true) (h' : (t :: r).all (tmo k (hgt (t.1 + k) c - hgt t.1 t.2)) = true) : hitc k c (t :: r) = true := by
  show (abv t.1 t.2 k c && (t :: r).all (tmo k (hgt (t.1 + k) c - hgt t.1 t.2))) = true
  rw [h, h']; rfl
theorem mvz_len (k : Int) (c : Bool) (xs : List (Int × Bool)) : (mvz k c xs).length = xs.length := by cases xs <;> simp [mvz]
theorem mmL_len (k : Int) (xs : List (Int × Bool)) : (mmL k xs).length ≤ 24 := by
  unfold mmL
  by_cases h : mv xs = true
  · have hl : xs.length ≤ 24 := by simp [mv] at h; exact h.1
    rw [if_pos h]
    split
    · rw [mvz_len]; exact hl
    · split
      · rw [mvz_len]; exact hl
      · simp
  · rw [if_neg h]; simp
theorem mv_tail {t : Int × Bool} {r : List (Int × Bool)} (h : mv (t :: r) = true) : vd t.1 t.2 = true ∧ (t :: r).all (fun u => vd u.1 u.2) = true ∧ (t :: r).length ≤ 24 := by
  unfold mv at h
  rw [Bool.and_eq_true] at h
  have h2 : (t :: r).all (fun u => vd u.1 u.2) = true := h.2
  have h3 := h2
  rw [List.all_cons, Bool.and_eq_true] at h3
  exact ⟨h3.1, h2, by simpa using h.1⟩

theorem hitc_no1' {k : Int} {c : Bool} {t : Int × Bool} {r ys : List (Int × Bool)} (e : ys = t :: r) (h : abv t.1 t.2 k c = false) : hitc k c ys = false := by subst e; exact hitc_no1 h
theorem hitc_no2' {k : Int} {c : Bool} {t : Int × Bool} {r ys : List (Int × Bool)} (e : ys = t :: r) (h : ys.all (tmo k (hgt (t.1 + k) c - hgt t.1 t.2)) = false) : hitc k c ys = false := by subst e; exact hitc_no2 h
theorem hitc_yes' {k : Int} {c : Bool} {t : Int × Bool} {r ys : List (Int × Bool)} (e : ys = t :: r) (h : abv t.1 t.2 k c = true) (h' : ys.all (tmo k (hgt (t.1 + k) c - hgt t.1 t.2)) = true) : hitc k c ys = true ∧ mvz k c ys = ys.map (tmv k (hgt (t.1 + k) c - hgt t.1 t.2)) := by
  subst e; exact ⟨hitc_yes h h', rfl⟩
theorem mm_miss' {k : Int} {t : Int × Bool} {r ys : List (Int × Bool)} (e : ys = t :: r) (h : mv ys = true) (h0 : hitc k false ys = false) (h1 : hitc k true ys = false) : mmL k ys = [] ∧ mmB k ys = false := by subst e; exact mm_miss h h0 h1

theorem empty_built2 {w w1 : World} {ok : Bool} (hb : Below w.heap.size w w1) : TBuilt2 w [] ok (.returned (.tuple #[.slice (some ⟨w1.heap.size, 0, none⟩) 0 0, .bool ok])) (w1.alloc (.cells #[] 41)) :=
  ⟨_, rfl, (empty_row w1).lohi hb.size (Nat.le_refl _), hb.alloc hb.size _⟩

set_option maxHeartbeats 8000000 in
theorem melodyMove_cons (lo hi : Nat) (v : Value) (ys : List (Int × Bool)) (s : Int) (b : Bool) (r : List (Int × Bool)) (HYS : Hid (ys = (s, b) :: r)) (k : Int) (w : World) (h : TRow w lo hi v ys) (ht : StepTab w) (hm : mv ys = true) :
    Calls Tryd.prog 42 #[v, .int .i64 k] w (TBuilt2 w (mmL k ys) (mmB k ys)) := by
  have HT := Lib.hid ht
  clear ht
  have hmt := mv_tail (t := (s, b)) (r := r) (by rw [← HYS.out]; exact hm)
  rw [← HYS.out] at hmt
  obtain ⟨hv, hall, hlen⟩ := hmt
  have HV := Lib.hid hall
  have HM := Lib.hid hm
  have HVL := Lib.hid (mvl_yes hm)
  have hv : vd s b = true := hv
  obtain ⟨v0, v1⟩ := vd_in hv
  obtain ⟨g0, g1⟩ := hgt_bd (b := b) v0 v1
  have HL := Lib.hid hlen
  have i0 : ∀ w, (Instr.index 96 (.agg #[.bool false, .bool true]) (.int .i64 0)).run Tryd.prog w = .ok (.bool false) w := fun _ => by kernel_rfl
  have i1 : ∀ w, (Instr.index 96 (.agg #[.bool false, .bool true]) (.int .i64 1)).run Tryd.prog w = .ok (.bool true) w := fun _ => by kernel_rfl
  clear hall hlen hv
  go_enter Tryd.func42, Tryd.ntmps42
  go_wp2_with (fail)
  (go_at_call 73; refine (newMelody_any lo hi v ys _ h).mono ?_; rintro e w1 ⟨p, rfl, hm1, hb1⟩)
  rw [HVL.out] at hm1
  have HME := Lib.hid hm1
  rw [HYS.out] at hm1
  obtain ⟨B, q, rfl, hlo, hB, c0, c1, c2, hr⟩ := hm1.head
  have HB1 := Lib.hid hb1
  clear hm1 h hr
  go_wp2
  go_loopw [28] (fun i wr => ∃ j : Int, (j = 0 ∨ j = 1 ∧ hitc k false ys = false ∨ j = 2 ∧ hitc k false ys = false ∧ hitc k true ys = false) ∧ i = .int .i64 j ∧ Below w1.heap.size w1 wr) (fun i _ => 2 - (intOf i).toNat)
  case atStart => exact ⟨0, .inl rfl, rfl, by first | exact Below.refl _ _ | exact ⟨rfl, rfl, rfl, Nat.le_refl _, fun _ _ => rfl⟩⟩
  case round =>
    obtain ⟨j, hj, rfl, hb⟩ := hrel
    have e0 := (hb.cell (p := ⟨B, 0, none⟩) hB).trans c0
    have e1 := (hb.cell (p := ⟨B, 1, none⟩) hB).trans c1
    have hz := hb.size
    have HB := Lib.hid hb
    clear c0 c1 c2 hb hm
    rcases hj with rfl | ⟨rfl, hm0⟩ | ⟨rfl, hm0, hm1⟩
    · by_cases hA : abv s b k false = false
      · have HA := Lib.hid hA
        go_wp2_with (fail)
        (go_at_call 74; refine (above_no s k b false HA.out _).mono ?_; rintro e w2 ⟨rfl, hb2⟩)
        have HB2 := Lib.hid ((bl_step HB.out hb2).alloc (by have := hb2.size; omega) (.cells #[.int .i64 0, .bool false] 41))
        clear e0 e1 hA
        go_wp2
        go_roundw
        case rel => exact ⟨1, .inr (.inl ⟨rfl, hitc_no1' HYS.out HA.out⟩), rfl, HB2.out⟩
        case measure => simp [intOf]
      rw [Bool.not_eq_false] at hA
      obtain ⟨_, hu, _, _⟩ := abv_vd hA
      obtain ⟨u0, u1⟩ := vd_in hu
      obtain ⟨g2, g3⟩ := hgt_bd (b := false) u0 u1
      have sw : IntKind.i64.wrap (hgt (s + k) false - hgt s b) = hgt (s + k) false - hgt s b := IntWalk.i64_in _ (by omega)
      by_cases hG : ys.all (tmo k (hgt (s + k) false - hgt s b)) = true
      · have HH := Lib.hid (mm_hit0 HM.out (hitc_yes' HYS.out hA hG).1)
        have HG := Lib.hid hG
        go_wp2_with (fail)
        (go_at_call 74; refine (above_yes s k b false hA _).mono ?_; rintro e w2 ⟨rfl, hb2⟩)
        go_wp2
        obtain ⟨W, hW⟩ : ∃ W, W = w2.alloc (.cells #[.int .i64 (s + k), .bool false] 41) := ⟨_, rfl⟩
        have f0 : W.cell? ⟨w2.heap.size, 0, none⟩ = some (.int .i64 (s + k)) := by rw [hW]; go_simp
        have f1 : W.cell? ⟨w2.heap.size, 1, none⟩ = some (.bool false) := by rw [hW]; go_simp
        have hbW : Below w1.heap.size w1 W := by rw [hW]; exact (bl_step HB.out hb2).alloc (by have := hb2.size; omega) _
        have k0 : W.cell? ⟨B, 0, none⟩ = some (.int .i64 s) := (hbW.cell (p := ⟨B, 0, none⟩) hB).trans ((HB.out.cell (p := ⟨B, 0, none⟩) hB).symm.trans e0)
        have k1 : W.cell? ⟨B, 1, none⟩ = some (.bool b) := (hbW.cell (p := ⟨B, 1, none⟩) hB).trans ((HB.out.cell (p := ⟨B, 1, none⟩) hB).symm.trans e1)
        have HBW := Lib.hid hbW
        have HT2 : Hid (StepTab W.drew) := (HT.out.below HB1.out).below hbW.drew
        have fz : w2.heap.size < W.heap.size := two_lt f0
        have fB : B < W.heap.size := two_lt k0
        rw [← hW]
        clear hW hbW e0 e1
        go_region_held3 (fun wx => wx.cell? ⟨B, 0, none⟩ = some (.int .i64 s) ∧ wx.cell? ⟨B, 1, none⟩ = some (.bool b) ∧ wx.cell? ⟨w2.heap.size, 0, none⟩ = some (.int .i64 (s + k)) ∧ wx.cell? ⟨w2.heap.size, 1, none⟩ = some (.bool false)) (go_keep)
          (first | (go_at_call_of 69 (Value.agg #[Value.int .i64 (s + k), Value.bool false]); refine (height_any _ _ u0 u1 _ HT2.out).mono ?_; rintro e w3 ⟨rfl, hb3⟩; have HT3 := Lib.hid (HT2.out.below hb3); have c3a := (hb3.cell (p := ⟨B, 0, none⟩) fB).trans k0; have c3b := (hb3.cell (p := ⟨B, 1, none⟩) fB).trans k1; have c3c := (hb3.cell (p := ⟨w2.heap.size, 0, none⟩) fz).trans f0; have c3d := (hb3.cell (p := ⟨w2.heap.size, 1, none⟩) fz).trans f1; have fz3 := Nat.lt_of_lt_of_le fz hb3.size; have fB3 := Nat.lt_of_lt_of_le fB hb3.size) | (go_at_call 69; refine (height_any _ _ v0 v1 _ HT3.out).mono ?_; rintro e w4 ⟨rfl, hb4⟩; have HT4 := Lib.hid (HT3.out.below hb4); have c4a := (hb4.cell (p := ⟨B, 0, none⟩) fB3).trans c3a; have c4b := (hb4.cell (p := ⟨B, 1, none⟩) fB3).trans c3b; have c4c := (hb4.cell (p := ⟨w2.heap.size, 0, none⟩) fz3).trans c3c; have c4d := (hb4.cell (p := ⟨w2.heap.size, 1, none⟩) fz3).trans c3d; have HB4 := Lib.hid (bl_step (bl_step HBW.out.drew hb3) hb4); have fz4 := Nat.lt_of_lt_of_le fz3 hb4.size; have fB4 := Nat.lt_of_lt_of_le fB3 hb4.size) | (go_at_call 75; refine (mmove_any k _ _ HV.out _ _ _ (HME.out.below HB4.out) HT4.out).mono ?_; rintro e w5 ⟨y, rfl, hy, hb5⟩; have c5a := (hb5.cell (p := ⟨B, 0, none⟩) fB4).trans c4a; have c5b := (hb5.cell (p := ⟨B, 1, none⟩) fB4).trans c4b; have c5c := (hb5.cell (p := ⟨w2.heap.size, 0, none⟩) fz4).trans c4c; have c5d := (hb5.cell (p := ⟨w2.heap.size, 1, none⟩) fz4).trans c4d))
        have HB5 := Lib.hid (bl_step HB4.out hb5)
        have HZ := Lib.hid (hitc_yes' HYS.out hA HG.out).2
        rw [HG.out, if_pos rfl] at hy
        have HY := Lib.hid hy
        have HLY : Hid ((ys.map (tmv k (hgt (s + k) false - hgt s b))).length ≤ 24) := by
          show (ys.map (tmv k (hgt (s + k) false - hgt s b))).length ≤ 24
          rw [List.length_map]; exact HL.out
        clear hy c5a c5b c5c c5d c4a c4b c4c c4d c3a c3b c3c c3d k0 k1 f0 f1
        go_wp2_with (fail)
        (go_at_call 76; refine (tones_any _ _ _ _ HY.out HLY.out).mono ?_; rintro e w6 ⟨u, rfl, hu6, hb6⟩)
        have HE : Hid (TBuilt2 w (mmL k ys) (mmB k ys) (.returned (.tuple #[u, .bool true])) w6) := by
          rw [HH.out.1, HH.out.2, HZ.out]
          have hbf := bl_step HB1.out HB5.out
          exact ⟨u, rfl, ⟨tmono hu6.1 hbf.size, hu6.2⟩, bl_step hbf hb6⟩
        clear hu6
        go_wp2
        go_ret2
        exact HE.out
      · rw [Bool.not_eq_true] at hG
        have HG := Lib.hid hG
        go_wp2_with (fail)
        (go_at_call 74; refine (above_yes s k b false hA _).mono ?_; rintro e w2 ⟨rfl, hb2⟩)
        go_wp2
        obtain ⟨W, hW⟩ : ∃ W, W = w2.alloc (.cells #[.int .i64 (s + k), .bool false] 41) := ⟨_, rfl⟩
        have f0 : W.cell? ⟨w2.heap.size, 0, none⟩ = some (.int .i64 (s + k)) := by rw [hW]; go_simp
        have f1 : W.cell? ⟨w2.heap.size, 1, none⟩ = some (.bool false) := by rw [hW]; go_simp
        have hbW : Below w1.heap.size w1 W := by rw [hW]; exact (bl_step HB.out hb2).alloc (by have := hb2.size; omega) _
        have k0 : W.cell? ⟨B, 0, none⟩ = some (.int .i64 s) := (hbW.cell (p := ⟨B, 0, none⟩) hB).trans ((HB.out.cell (p := ⟨B, 0, none⟩) hB).symm.trans e0)
        have k1 : W.cell? ⟨B, 1, none⟩ = some (.bool b) := (hbW.cell (p := ⟨B, 1, none⟩) hB).trans ((HB.out.cell (p := ⟨B, 1, none⟩) hB).symm.trans e1)
        have HBW := Lib.hid hbW
        have HT2 : Hid (StepTab W.drew) := (HT.out.below HB1.out).below hbW.drew
        have fz : w2.heap.size < W.heap.size := two_lt f0
        have fB : B < W.heap.size := two_lt k0
        rw [← hW]
        clear hW hbW e0 e1
        go_region_held3 (fun wx => wx.cell? ⟨B, 0, none⟩ = some (.int .i64 s) ∧ wx.cell? ⟨B, 1, none⟩ = some (.bool b) ∧ wx.cell? ⟨w2.heap.size, 0, none⟩ = some (.int .i64 (s + k)) ∧ wx.cell? ⟨w2.heap.size, 1, none⟩ = some (.bool false)) (go_keep)
          (first | (go_at_call_of 69 (Value.agg #[Value.int .i64 (s + k), Value.bool false]); refine (height_any _ _ u0 u1 _ HT2.out).mono ?_; rintro e w3 ⟨rfl, hb3⟩; have HT3 := Lib.hid (HT2.out.below hb3); have c3a := (hb3.cell (p := ⟨B, 0, none⟩) fB).trans k0; have c3b := (hb3.cell (p := ⟨B, 1, none⟩) fB).trans k1; have c3c := (hb3.cell (p := ⟨w2.heap.size, 0, none⟩) fz).trans f0; have c3d := (hb3.cell (p := ⟨w2.heap.size, 1, none⟩) fz).trans f1; have fz3 := Nat.lt_of_lt_of_le fz hb3.size; have fB3 := Nat.lt_of_lt_of_le fB hb3.size) | (go_at_call 69; refine (height_any _ _ v0 v1 _ HT3.out).mono ?_; rintro e w4 ⟨rfl, hb4⟩; have HT4 := Lib.hid (HT3.out.below hb4); have c4a := (hb4.cell (p := ⟨B, 0, none⟩) fB3).trans c3a; have c4b := (hb4.cell (p := ⟨B, 1, none⟩) fB3).trans c3b; have c4c := (hb4.cell (p := ⟨w2.heap.size, 0, none⟩) fz3).trans c3c; have c4d := (hb4.cell (p := ⟨w2.heap.size, 1, none⟩) fz3).trans c3d; have HB4 := Lib.hid (bl_step (bl_step HBW.out.drew hb3) hb4); have fz4 := Nat.lt_of_lt_of_le fz3 hb4.size; have fB4 := Nat.lt_of_lt_of_le fB3 hb4.size) | (go_at_call 75; refine (mmove_any k _ _ HV.out _ _ _ (HME.out.below HB4.out) HT4.out).mono ?_; rintro e w5 ⟨y, rfl, hy, hb5⟩; have c5a := (hb5.cell (p := ⟨B, 0, none⟩) fB4).trans c4a; have c5b := (hb5.cell (p := ⟨B, 1, none⟩) fB4).trans c4b; have c5c := (hb5.cell (p := ⟨w2.heap.size, 0, none⟩) fz4).trans c4c; have c5d := (hb5.cell (p := ⟨w2.heap.size, 1, none⟩) fz4).trans c4d))
        have HB5 := Lib.hid (bl_step HB4.out hb5)
        clear hy c5a c5b c5c c5d c4a c4b c4c c4d c3a c3b c3c c3d k0 k1 f0 f1
        go_wp2
        go_roundw
        case rel => exact ⟨1, .inr (.inl ⟨rfl, hitc_no2' HYS.out HG.out⟩), rfl, HB5.out⟩
        case measure => simp [intOf]
    · have HM0 := Lib.hid hm0
      clear hm0
      by_cases hA : abv s b k true = false
      · have HA := Lib.hid hA
        go_wp2_with (fail)
        (go_at_call 74; refine (above_no s k b true HA.out _).mono ?_; rintro e w2 ⟨rfl, hb2⟩)
        have HB2 := Lib.hid ((bl_step HB.out hb2).alloc (by have := hb2.size; omega) (.cells #[.int .i64 0, .bool false] 41))
        clear e0 e1 hA
        go_wp2
        go_roundw
        case rel => exact ⟨2, .inr (.inr ⟨rfl, HM0.out, hitc_no1' HYS.out HA.out⟩), rfl, HB2.out⟩
        case measure => simp [intOf]
      rw [Bool.not_eq_false] at hA
      obtain ⟨_, hu, _, _⟩ := abv_vd hA
      obtain ⟨u0, u1⟩ := vd_in hu
      obtain ⟨g2, g3⟩ := hgt_bd (b := true) u0 u1
      have sw : IntKind.i64.wrap (hgt (s + k) true - hgt s b) = hgt (s + k) true - hgt s b := IntWalk.i64_in _ (by omega)
      by_cases hG : ys.all (tmo k (hgt (s + k) true - hgt s b)) = true
      · have HH := Lib.hid (mm_hit1 HM.out HM0.out (hitc_yes' HYS.out hA hG).1)
        have HG := Lib.hid hG
        go_wp2_with (fail)
        (go_at_call 74; refine (above_yes s k b true hA _).mono ?_; rintro e w2 ⟨rfl, hb2⟩)
        go_wp2
        obtain ⟨W, hW⟩ : ∃ W, W = w2.alloc (.cells #[.int .i64 (s + k), .bool true] 41) := ⟨_, rfl⟩
        have f0 : W.cell? ⟨w2.heap.size, 0, none⟩ = some (.int .i64 (s + k)) := by rw [hW]; go_simp
        have f1 : W.cell? ⟨w2.heap.size, 1, none⟩ = some (.bool true) := by rw [hW]; go_simp
        have hbW : Below w1.heap.size w1 W := by rw [hW]; exact (bl_step HB.out hb2).alloc (by have := hb2.size; omega) _
        have k0 : W.cell? ⟨B, 0, none⟩ = some (.int .i64 s) := (hbW.cell (p := ⟨B, 0, none⟩) hB).trans ((HB.out.cell (p := ⟨B, 0, none⟩) hB).symm.trans e0)
        have k1 : W.cell? ⟨B, 1, none⟩ = some (.bool b) := (hbW.cell (p := ⟨B, 1, none⟩) hB).trans ((HB.out.cell (p := ⟨B, 1, none⟩) hB).symm.trans e1)
        have HBW := Lib.hid hbW
        have HT2 : Hid (StepTab W.drew) := (HT.out.below HB1.out).below hbW.drew
        have fz : w2.heap.size < W.heap.size := two_lt f0
        have fB : B < W.heap.size := two_lt k0
        rw [← hW]
        clear hW hbW e0 e1
        go_region_held3 (fun wx => wx.cell? ⟨B, 0, none⟩ = some (.int .i64 s) ∧ wx.cell? ⟨B, 1, none⟩ = some (.bool b) ∧ wx.cell? ⟨w2.heap.size, 0, none⟩ = some (.int .i64 (s + k)) ∧ wx.cell? ⟨w2.heap.size, 1, none⟩ = some (.bool true)) (go_keep)
          (first | (go_at_call_of 69 (Value.agg #[Value.int .i64 (s + k), Value.bool true]); refine (height_any _ _ u0 u1 _ HT2.out).mono ?_; rintro e w3 ⟨rfl, hb3⟩; have HT3 := Lib.hid (HT2.out.below hb3); have c3a := (hb3.cell (p := ⟨B, 0, none⟩) fB).trans k0; have c3b := (hb3.cell (p := ⟨B, 1, none⟩) fB).trans k1; have c3c := (hb3.cell (p := ⟨w2.heap.size, 0, none⟩) fz).trans f0; have c3d := (hb3.cell (p := ⟨w2.heap.size, 1, none⟩) fz).trans f1; have fz3 := Nat.lt_of_lt_of_le fz hb3.size; have fB3 := Nat.lt_of_lt_of_le fB hb3.size) | (go_at_call 69; refine (height_any _ _ v0 v1 _ HT3.out).mono ?_; rintro e w4 ⟨rfl, hb4⟩; have HT4 := Lib.hid (HT3.out.below hb4); have c4a := (hb4.cell (p := ⟨B, 0, none⟩) fB3).trans c3a; have c4b := (hb4.cell (p := ⟨B, 1, none⟩) fB3).trans c3b; have c4c := (hb4.cell (p := ⟨w2.heap.size, 0, none⟩) fz3).trans c3c; have c4d := (hb4.cell (p := ⟨w2.heap.size, 1, none⟩) fz3).trans c3d; have HB4 := Lib.hid (bl_step (bl_step HBW.out.drew hb3) hb4); have fz4 := Nat.lt_of_lt_of_le fz3 hb4.size; have fB4 := Nat.lt_of_lt_of_le fB3 hb4.size) | (go_at_call 75; refine (mmove_any k _ _ HV.out _ _ _ (HME.out.below HB4.out) HT4.out).mono ?_; rintro e w5 ⟨y, rfl, hy, hb5⟩; have c5a := (hb5.cell (p := ⟨B, 0, none⟩) fB4).trans c4a; have c5b := (hb5.cell (p := ⟨B, 1, none⟩) fB4).trans c4b; have c5c := (hb5.cell (p := ⟨w2.heap.size, 0, none⟩) fz4).trans c4c; have c5d := (hb5.cell (p := ⟨w2.heap.size, 1, none⟩) fz4).trans c4d))
        have HB5 := Lib.hid (bl_step HB4.out hb5)
        have HZ := Lib.hid (hitc_yes' HYS.out hA HG.out).2
        rw [HG.out, if_pos rfl] at hy
        have HY := Lib.hid hy
        have HLY : Hid ((ys.map (tmv k (hgt (s + k) true - hgt s b))).length ≤ 24) := by
          show (ys.map (tmv k (hgt (s + k) true - hgt s b))).length ≤ 24
          rw [List.length_map]; exact HL.out
        clear hy c5a c5b c5c c5d c4a c4b c4c c4d c3a c3b c3c c3d k0 k1 f0 f1
        go_wp2_with (fail)
        (go_at_call 76; refine (tones_any _ _ _ _ HY.out HLY.out).mono ?_; rintro e w6 ⟨u, rfl, hu6, hb6⟩)
        have HE : Hid (TBuilt2 w (mmL k ys) (mmB k ys) (.returned (.tuple #[u, .bool true])) w6) := by
          rw [HH.out.1, HH.out.2, HZ.out]
          have hbf := bl_step HB1.out HB5.out
          exact ⟨u, rfl, ⟨tmono hu6.1 hbf.size, hu6.2⟩, bl_step hbf hb6⟩
        clear hu6
        go_wp2
        go_ret2
        exact HE.out
      · rw [Bool.not_eq_true] at hG
        have HG := Lib.hid hG
        go_wp2_with (fail)
        (go_at_call 74; refine (above_yes s k b true hA _).mono ?_; rintro e w2 ⟨rfl, hb2⟩)
        go_wp2
        obtain ⟨W, hW⟩ : ∃ W, W = w2.alloc (.cells #[.int .i64 (s + k), .bool true] 41) := ⟨_, rfl⟩
        have f0 : W.cell? ⟨w2.heap.size, 0, none⟩ = some (.int .i64 (s + k)) := by rw [hW]; go_simp
        have f1 : W.cell? ⟨w2.heap.size, 1, none⟩ = some (.bool true) := by rw [hW]; go_simp
        have hbW : Below w1.heap.size w1 W := by rw [hW]; exact (bl_step HB.out hb2).alloc (by have := hb2.size; omega) _
        have k0 : W.cell? ⟨B, 0, none⟩ = some (.int .i64 s) := (hbW.cell (p := ⟨B, 0, none⟩) hB).trans ((HB.out.cell (p := ⟨B, 0, none⟩) hB).symm.trans e0)
        have k1 : W.cell? ⟨B, 1, none⟩ = some (.bool b) := (hbW.cell (p := ⟨B, 1, none⟩) hB).trans ((HB.out.cell (p := ⟨B, 1, none⟩) hB).symm.trans e1)
        have HBW := Lib.hid hbW
        have HT2 : Hid (StepTab W.drew) := (HT.out.below HB1.out).below hbW.drew
        have fz : w2.heap.size < W.heap.size := two_lt f0
        have fB : B < W.heap.size := two_lt k0
        rw [← hW]
        clear hW hbW e0 e1
        go_region_held3 (fun wx => wx.cell? ⟨B, 0, none⟩ = some (.int .i64 s) ∧ wx.cell? ⟨B, 1, none⟩ = some (.bool b) ∧ wx.cell? ⟨w2.heap.size, 0, none⟩ = some (.int .i64 (s + k)) ∧ wx.cell? ⟨w2.heap.size, 1, none⟩ = some (.bool true)) (go_keep)
          (first | (go_at_call_of 69 (Value.agg #[Value.int .i64 (s + k), Value.bool true]); refine (height_any _ _ u0 u1 _ HT2.out).mono ?_; rintro e w3 ⟨rfl, hb3⟩; have HT3 := Lib.hid (HT2.out.below hb3); have c3a := (hb3.cell (p := ⟨B, 0, none⟩) fB).trans k0; have c3b := (hb3.cell (p := ⟨B, 1, none⟩) fB).trans k1; have c3c := (hb3.cell (p := ⟨w2.heap.size, 0, none⟩) fz).trans f0; have c3d := (hb3.cell (p := ⟨w2.heap.size, 1, none⟩) fz).trans f1; have fz3 := Nat.lt_of_lt_of_le fz hb3.size; have fB3 := Nat.lt_of_lt_of_le fB hb3.size) | (go_at_call 69; refine (height_any _ _ v0 v1 _ HT3.out).mono ?_; rintro e w4 ⟨rfl, hb4⟩; have HT4 := Lib.hid (HT3.out.below hb4); have c4a := (hb4.cell (p := ⟨B, 0, none⟩) fB3).trans c3a; have c4b := (hb4.cell (p := ⟨B, 1, none⟩) fB3).trans c3b; have c4c := (hb4.cell (p := ⟨w2.heap.size, 0, none⟩) fz3).trans c3c; have c4d := (hb4.cell (p := ⟨w2.heap.size, 1, none⟩) fz3).trans c3d; have HB4 := Lib.hid (bl_step (bl_step HBW.out.drew hb3) hb4); have fz4 := Nat.lt_of_lt_of_le fz3 hb4.size; have fB4 := Nat.lt_of_lt_of_le fB3 hb4.size) | (go_at_call 75; refine (mmove_any k _ _ HV.out _ _ _ (HME.out.below HB4.out) HT4.out).mono ?_; rintro e w5 ⟨y, rfl, hy, hb5⟩; have c5a := (hb5.cell (p := ⟨B, 0, none⟩) fB4).trans c4a; have c5b := (hb5.cell (p := ⟨B, 1, none⟩) fB4).trans c4b; have c5c := (hb5.cell (p := ⟨w2.heap.size, 0, none⟩) fz4).trans c4c; have c5d := (hb5.cell (p := ⟨w2.heap.size, 1, none⟩) fz4).trans c4d))
        have HB5 := Lib.hid (bl_step HB4.out hb5)
        clear hy c5a c5b c5c c5d c4a c4b c4c c4d c3a c3b c3c c3d k0 k1 f0 f1
        go_wp2
        go_roundw
        case rel => exact ⟨2, .inr (.inr ⟨rfl, HM0.out, hitc_no2' HYS.out HG.out⟩), rfl, HB5.out⟩
        case measure => simp [intOf]
    · have HX := Lib.hid (mm_miss' HYS.out HM.out hm0 hm1)
      have HE : Hid (TBuilt2 w (mmL k ys) (mmB k ys) (.returned (.tuple #[.slice (some ⟨wr.heap.size, 0, none⟩) 0 0, .bool false])) (wr.alloc (.cells #[] 41))) := by
        rw [HX.out.1, HX.out.2]
        exact empty_built2 (bl_step HB1.out HB.out)
      clear hm0 hm1
      go_wp2
      go_ret2
      exact HE.out

set_option maxHeartbeats 8000000 in
theorem melodyMove_any (lo hi : Nat) (v : Value) (xs : List (Int × Bool)) (k : Int) (w : World) (h : TRow w lo hi v xs) (ht : StepTab w) :
    Calls Tryd.prog 42 #[v, .int .i64 k] w (TBuilt2 w (mmL k xs) (mmB k xs)) := by
  have HT := Lib.hid ht
  clear ht
  by_cases hm : mv xs = false
  · rw [(mm_no1 hm).1, (mm_no1 hm).2]
    have HE := Lib.hid (fun w1 hb => empty_built2 (w := w) (w1 := w1) (ok := false) hb)
    go_enter Tryd.func42, Tryd.ntmps42
    go_wp2_with (fail)
    (go_at_call 73; refine (newMelody_any lo hi v xs _ h).mono ?_; rintro e w1 ⟨p, rfl, hm1, hb1⟩)
    clear hm1 h
    go_wp2
    go_ret2
    exact HE.out _ hb1
  rw [Bool.not_eq_false] at hm
  cases xs with
  | nil =>
    have HE := Lib.hid (fun w1 hb => empty_built2 (w := w) (w1 := w1) (ok := true) hb)
    rw [(mm_nil k).1, (mm_nil k).2]
    go_enter Tryd.func42, Tryd.ntmps42
    go_wp2_with (fail)
    (go_at_call 73; refine (newMelody_any lo hi v [] _ h).mono ?_; rintro e w1 ⟨p, rfl, hm1, hb1⟩)
    have hp : p = none := hm1
    subst hp
    clear hm1 h
    go_wp2
    go_ret2
    exact HE.out _ hb1
  | cons t r =>
    obtain ⟨s, b⟩ := t
    exact melodyMove_cons lo hi v _ s b r (Lib.hid rfl) k w h HT.out hm

end Go.Proofs.YticapinlnlpbpaaDoor

namespace Go.Proofs.YticapinlnlpbpaaDoor
set_option maxRecDepth 100000
set_option linter.unusedVariables false

theorem gd_at {xs : List (Int × Bool)} {i : Nat} (h : i < xs.length) : xs.getD i (0, false) = xs[i] := by
  rw [List.getD_eq_getElem?_getD, List.getElem?_eq_getElem h]; rfl
theorem mv_at {xs : List (Int × Bool)} (h : mv xs = true) {i : Nat} (hi : i < xs.length) : vd (xs.getD i (0, false)).1 (xs.getD i (0, false)).2 = true := by
  unfold mv at h
  rw [Bool.and_eq_true] at h
  rw [gd_at hi]
  exact allv_at h.2 (List.getElem?_eq_getElem hi)
theorem mv_len {xs : List (Int × Bool)} (h : mv xs = true) : xs.length ≤ 24 := by
  unfold mv at h
  rw [Bool.and_eq_true] at h
  exact of_decide_eq_true h.1
theorem mv_mk {xs : List (Int × Bool)} (h : xs.length ≤ 24) (g : ∀ i, i < xs.length → vd (xs.getD i (0, false)).1 (xs.getD i (0, false)).2 = true) : mv xs = true := by
  unfold mv allv
  rw [Bool.and_eq_true]
  refine ⟨decide_eq_true h, List.all_eq_true.2 fun t ht => ?_⟩
  obtain ⟨i, hi, rfl⟩ := List.mem_iff_getElem.1 ht
  have := g i hi
  rw [gd_at hi] at this
  exact this
theorem mv_rvd {xs : List (Int × Bool)} (h : mv xs = true) : mv xs.reverse = true := by
  simp [mv, allv] at h ⊢; exact h
theorem difs_at2 (d : Int → Bool → Int → Bool → Int) (xs : List (Int × Bool)) {k n : Nat} (h : k < n) : (difs d xs n).getD k 0 = d (xs.getD k (0, false)).1 (xs.getD k (0, false)).2 (xs.getD (k + 1) (0, false)).1 (xs.getD (k + 1) (0, false)).2 := by
  simp [difs, List.getD_eq_getElem?_getD, h]
theorem rvd_at {xs : List (Int × Bool)} {i j : Nat} (h : i + 1 + j = xs.length) : xs.reverse.getD i (0, false) = xs.getD j (0, false) := by
  rw [List.getD_eq_getElem?_getD, List.getD_eq_getElem?_getD, List.getElem?_reverse (by omega)]
  congr 2; omega

/-- ys is xs with each tone k steps and z semitones higher -/
structure Mvd (k z : Int) (xs ys : List (Int × Bool)) : Prop where
  len : xs.length = ys.length
  vx : mv xs = true
  vy : mv ys = true
  at_ : ∀ i, i < xs.length → (ys.getD i (0, false)).1 = (xs.getD i (0, false)).1 + k ∧ hgt (ys.getD i (0, false)).1 (ys.getD i (0, false)).2 = hgt (xs.getD i (0, false)).1 (xs.getD i (0, false)).2 + z
theorem Mvd.refl {xs : List (Int × Bool)} (h : mv xs = true) : Mvd 0 0 xs xs := ⟨rfl, h, h, fun i hi => ⟨(Int.add_zero _).symm, (Int.add_zero _).symm⟩⟩
theorem Mvd.symm {k z : Int} {xs ys : List (Int × Bool)} (h : Mvd k z xs ys) : Mvd (-k) (-z) ys xs :=
  ⟨h.len.symm, h.vy, h.vx, fun i hi => by
    obtain ⟨a, b⟩ := h.at_ i (by rw [h.len]; exact hi)
    exact ⟨by omega, by omega⟩⟩
theorem Mvd.trans {k z k' z' : Int} {xs ys zs : List (Int × Bool)} (h : Mvd k z xs ys) (g : Mvd k' z' ys zs) : Mvd (k + k') (z + z') xs zs :=
  ⟨h.len.trans g.len, h.vx, g.vy, fun i hi => by
    obtain ⟨a, b⟩ := h.at_ i hi
    obtain ⟨c, d⟩ := g.at_ i (by rw [← h.len]; exact hi)
    exact ⟨by omega, by omega⟩⟩
theorem Mvd.rev {k z : Int} {xs ys : List (Int × Bool)} (h : Mvd k z xs ys) : Mvd k z xs.reverse ys.reverse :=
  ⟨by simp [h.len], mv_rvd h.vx, mv_rvd h.vy, fun i hi => by
    rw [List.length_reverse] at hi
    have hl := h.len
    rw [rvd_at (xs := xs) (j := xs.length - 1 - i) (by omega), rvd_at (xs := ys) (j := xs.length - 1 - i) (by omega)]
    exact h.at_ _ (by omega)⟩
theorem Mvd.same {k z : Int} {xs ys : List (Int × Bool)} (h : Mvd k z xs ys) : msame xs ys = true := by
  have e : ∀ d : Int → Bool → Int → Bool → Int, (∀ i, i + 1 < xs.length → d (xs.getD i (0, false)).1 (xs.getD i (0, false)).2 (xs.getD (i + 1) (0, false)).1 (xs.getD (i + 1) (0, false)).2 = d (ys.getD i (0, false)).1 (ys.getD i (0, false)).2 (ys.getD (i + 1) (0, false)).1 (ys.getD (i + 1) (0, false)).2) →
      ieq (difs d xs (xs.length - 1)) (difs d ys (xs.length - 1)) = true := fun d hd =>
    ieq_all (by rw [difs_len, difs_len]) (fun i hi => by
      rw [difs_len] at hi
      rw [difs_at2 d _ hi, difs_at2 d _ hi]
      exact hd i (by omega))
  have hl := h.len
  have e1 : ieq (semisOf xs) (semisOf ys) = true := by
    unfold semisOf
    rw [mvl_yes h.vx, mvl_yes h.vy, ← h.len]
    refine e sem fun i hi => ?_
    rw [sem_yes (mv_at h.vx (by omega)) (mv_at h.vx hi), sem_yes (mv_at h.vy (by omega)) (mv_at h.vy (by omega))]
    have a := h.at_ i (by omega)
    have b := h.at_ (i + 1) hi
    omega
  have e2 : ieq (stepsOf xs) (stepsOf ys) = true := by
    unfold stepsOf
    rw [mvl_yes h.vx, mvl_yes h.vy, ← h.len]
    refine e stp fun i hi => ?_
    rw [stp_yes (mv_at h.vx (by omega)) (mv_at h.vx hi), stp_yes (mv_at h.vy (by omega)) (mv_at h.vy (by omega))]
    have a := h.at_ i (by omega)
    have b := h.at_ (i + 1) hi
    omega
  rw [msame_5 h.vx h.vy h.len e1, e2]
theorem same_mvd {xs ys : List (Int × Bool)} (h : msame xs ys = true) : ∃ z, Mvd ((ys.getD 0 (0, false)).1 - (xs.getD 0 (0, false)).1) z xs ys := by
  unfold msame at h
  rw [Bool.and_eq_true, Bool.and_eq_true, Bool.and_eq_true, Bool.and_eq_true] at h
  obtain ⟨⟨⟨⟨h1, h2⟩, h3⟩, h4⟩, h5⟩ := h
  have hl : xs.length = ys.length := of_decide_eq_true h3
  have e4 : semisOf xs = semisOf ys := of_decide_eq_true h4
  have e5 : stepsOf xs = stepsOf ys := of_decide_eq_true h5
  unfold semisOf at e4
  unfold stepsOf at e5
  rw [mvl_yes h1, mvl_yes h2] at e4 e5
  refine ⟨hgt (ys.getD 0 (0, false)).1 (ys.getD 0 (0, false)).2 - hgt (xs.getD 0 (0, false)).1 (xs.getD 0 (0, false)).2, hl, h1, h2, fun i => ?_⟩
  induction i with
  | zero => intro hi; exact ⟨by omega, by omega⟩
  | succ j ih =>
    intro hi
    obtain ⟨a, b⟩ := ih (by omega)
    have p := congrArg (fun l => l.getD j 0) e4
    have q := congrArg (fun l => l.getD j 0) e5
    (try dsimp only at p q)
    rw [difs_at2 sem _ (by omega), difs_at2 sem _ (by omega), sem_yes (mv_at h1 (by omega)) (mv_at h1 hi), sem_yes (mv_at h2 (by omega)) (mv_at h2 (by omega))] at p
    rw [difs_at2 stp _ (by omega), difs_at2 stp _ (by omega), stp_yes (mv_at h1 (by omega)) (mv_at h1 hi), stp_yes (mv_at h2 (by omega)) (mv_at h2 (by omega))] at q
    exact ⟨by omega, by omega⟩

theorem cnd_in {k z : Int} {c : Bool} {t : Int × Bool} (h : cnd k z c t = true) : abv t.1 t.2 k c = true ∧ hgt (t.1 + k) c - hgt t.1 t.2 = z := by
  unfold cnd at h
  rw [Bool.and_eq_true] at h
  exact ⟨h.1, eq_of_beq h.2⟩
theorem tmo_facts {k z : Int} {t : Int × Bool} (h : tmo k z t = true) : vd t.1 t.2 = true ∧ vd (tmv k z t).1 (tmv k z t).2 = true ∧ (tmv k z t).1 = t.1 + k ∧ hgt (tmv k z t).1 (tmv k z t).2 = hgt t.1 t.2 + z := by
  by_cases h0 : cnd k z false t = true
  · obtain ⟨a, b⟩ := cnd_in h0
    obtain ⟨c, d, e, f⟩ := abv_vd a
    have et : tmv k z t = (t.1 + k, false) := by unfold tmv; rw [h0]; rfl
    rw [et]
    exact ⟨c, d, rfl, by show hgt (t.1 + k) false = _; omega⟩
  · rw [Bool.not_eq_true] at h0
    have h1 : cnd k z true t = true := by unfold tmo at h; rw [h0, Bool.false_or] at h; exact h
    obtain ⟨a, b⟩ := cnd_in h1
    obtain ⟨c, d, e, f⟩ := abv_vd a
    have et : tmv k z t = (t.1 + k, true) := by unfold tmv; rw [h0]; rfl
    rw [et]
    exact ⟨c, d, rfl, by show hgt (t.1 + k) true = _; omega⟩
theorem tmo_of {k z : Int} {t u : Int × Bool} (hv : vd t.1 t.2 = true) (hu : vd u.1 u.2 = true) (h0 : -20 ≤ k) (h1 : k ≤ 20) (e : u.1 = t.1 + k) (g : hgt u.1 u.2 = hgt t.1 t.2 + z) : cnd k z u.2 t = true := by
  unfold cnd
  rw [Bool.and_eq_true]
  rw [e] at hu g
  exact ⟨ab_all hv h0 h1 hu, by rw [beq_iff_eq]; omega⟩
theorem cnd_tmo {k z : Int} {c : Bool} {t : Int × Bool} (h : cnd k z c t = true) : tmo k z t = true := by
  unfold tmo
  cases c
  · rw [h, Bool.true_or]
  · rw [h, Bool.or_true]
theorem mvd_map {k z : Int} {xs : List (Int × Bool)} (hm : mv xs = true) (h : xs.all (tmo k z) = true) : Mvd k z xs (xs.map (tmv k z)) := by
  have hg : ∀ i, i < xs.length → (xs.map (tmv k z)).getD i (0, false) = tmv k z (xs.getD i (0, false)) := fun i hi => by
    simp [List.getD_eq_getElem?_getD, hi]
  have hf : ∀ i, i < xs.length → tmo k z (xs.getD i (0, false)) = true := fun i hi => by
    rw [gd_at hi]; exact List.all_eq_true.1 h _ (List.getElem_mem hi)
  refine ⟨by simp, hm, mv_mk (by rw [List.length_map]; exact mv_len hm) (fun i hi => ?_), fun i hi => ?_⟩
  · rw [List.length_map] at hi
    rw [hg i hi]
    exact (tmo_facts (hf i hi)).2.1
  · rw [hg i hi]
    exact (tmo_facts (hf i hi)).2.2
theorem mmB_mv {k : Int} {xs : List (Int × Bool)} (h : mmB k xs = true) : mv xs = true := by
  unfold mmB at h
  rw [Bool.and_eq_true] at h
  exact h.1
theorem mm_mvd {k : Int} {xs : List (Int × Bool)} (h : mmB k xs = true) : ∃ z, Mvd k z xs (mmL k xs) := by
  have hm := mmB_mv h
  cases xs with
  | nil => exact ⟨0, by rw [(mm_nil k).1]; exact ⟨rfl, hm, hm, fun i hi => by simp at hi⟩⟩
  | cons t r =>
    have key : ∀ c, hitc k c (t :: r) = true → ∃ z, Mvd k z (t :: r) (mvz k c (t :: r)) := fun c hc => by
      have hc2 : (abv t.1 t.2 k c && (t :: r).all (tmo k (hgt (t.1 + k) c - hgt t.1 t.2))) = true := hc
      rw [Bool.and_eq_true] at hc2
      exact ⟨hgt (t.1 + k) c - hgt t.1 t.2, mvd_map hm hc2.2⟩
    by_cases h0 : hitc k false (t :: r) = true
    · rw [(mm_hit0 hm h0).1]; exact key false h0
    · rw [Bool.not_eq_true] at h0
      by_cases h1 : hitc k true (t :: r) = true
      · rw [(mm_hit1 hm h0 h1).1]; exact key true h1
      · rw [Bool.not_eq_true] at h1
        rw [(mm_miss hm h0 h1).2] at h
        cases h
theorem Mvd.mm {k z : Int} {xs ys : List (Int × Bool)} (h : Mvd k z xs ys) : mmB k xs = true := by
  cases xs with
  | nil => exact (mm_nil k).2
  | cons t r =>
    have hl := h.len
    have hx0 := mv_at h.vx (i := 0) (by simp)
    have hy0 := mv_at h.vy (i := 0) (by rw [← h.len]; simp)
    obtain ⟨a, b⟩ := h.at_ 0 (by simp)
    have e0 : (t :: r).getD 0 (0, false) = t := rfl
    rw [e0] at hx0 a b
    have b1 := vd_in hx0
    have b2 := vd_in hy0
    have hk0 : -20 ≤ k := by omega
    have hk1 : k ≤ 20 := by omega
    have hall : (t :: r).all (tmo k z) = true := List.all_eq_true.2 fun u hu => by
      obtain ⟨i, hi, rfl⟩ := List.mem_iff_getElem.1 hu
      obtain ⟨p, q⟩ := h.at_ i hi
      have v1 := mv_at h.vx hi
      have v2 := mv_at h.vy (i := i) (by rw [← h.len]; exact hi)
      rw [gd_at hi] at p q v1
      exact cnd_tmo (tmo_of v1 v2 hk0 hk1 p q)
    have hc := tmo_of hx0 hy0 hk0 hk1 a b
    generalize (ys.getD 0 (0, false)).2 = c at hc
    obtain ⟨c1, c2⟩ := cnd_in hc
    have hh : hitc k c (t :: r) = true := hitc_yes c1 (by rw [c2]; exact hall)
    show (mv (t :: r) && ((t :: r).isEmpty || (hitc k false (t :: r) || hitc k true (t :: r)))) = true
    rw [h.vx]
    cases c
    · rw [hh]; rfl
    · rw [hh, Bool.or_true, Bool.or_true]; rfl

theorem mm_len {k : Int} {xs : List (Int × Bool)} (h : mmB k xs = true) : (mmL k xs).length = xs.length := by
  obtain ⟨z, hM⟩ := mm_mvd h
  exact hM.len.symm
/-- a moved melody moves back -/
theorem mm_there_back {k : Int} {xs : List (Int × Bool)} (h : mmB k xs = true) : mmB (-k) (mmL k xs) = true ∧ msame xs (mmL k xs) = true ∧ msame xs (mmL (-k) (mmL k xs)) = true ∧ (mmL (-k) (mmL k xs)).length = xs.length ∧ mv xs = true ∧ mv (mmL k xs) = true ∧
    ∀ i, i < xs.length → ((mmL k xs).getD i (0, false)).1 = (xs.getD i (0, false)).1 + k ∧ ((mmL (-k) (mmL k xs)).getD i (0, false)).1 = (xs.getD i (0, false)).1 ∧ 0 ≤ (xs.getD i (0, false)).1 ∧ (xs.getD i (0, false)).1 ≤ 20 ∧ 0 ≤ (xs.getD i (0, false)).1 + k ∧ (xs.getD i (0, false)).1 + k ≤ 20 := by
  obtain ⟨z, hM⟩ := mm_mvd h
  have hB := hM.symm.mm
  obtain ⟨z', hN⟩ := mm_mvd hB
  have hT := hM.trans hN
  refine ⟨hB, hM.same, hT.same, hT.len.symm, hM.vx, hM.vy, fun i hi => ?_⟩
  have a := (hM.at_ i hi).1
  have b := (hT.at_ i hi).1
  have c := vd_in (mv_at hM.vx hi)
  have d := vd_in (mv_at hM.vy (i := i) (by rw [← hM.len]; exact hi))
  exact ⟨a, by omega, c.1, c.2, by omega, by omega⟩
/-- melodies that are the same are moved -/
theorem same_moved {xs ys : List (Int × Bool)} (h : msame xs ys = true) : mv xs = true ∧ mv ys = true ∧ xs.length = ys.length ∧ msame ys xs = true ∧ msame xs.reverse ys.reverse = true ∧ msame xs xs = true ∧
    mmB ((ys.getD 0 (0, false)).1 - (xs.getD 0 (0, false)).1) xs = true ∧ msame (mmL ((ys.getD 0 (0, false)).1 - (xs.getD 0 (0, false)).1) xs) ys = true := by
  obtain ⟨z, hM⟩ := same_mvd h
  have hB := hM.mm
  obtain ⟨z', hN⟩ := mm_mvd hB
  exact ⟨hM.vx, hM.vy, hM.len, hM.symm.same, hM.rev.same, (Mvd.refl hM.vx).same, hB, (hN.symm.trans hM).same⟩

theorem hgt7 (s : Int) (b : Bool) : hgt (s + 7) b = hgt s b + 12 := by
  unfold hgt
  rw [show (s + 7) % 7 = s % 7 by omega, show (s + 7) / 7 = s / 7 + 1 by omega]
  omega
theorem vd7 {s : Int} {b : Bool} (h : vd s b = true) (g : s + 7 ≤ 20) : vd (s + 7) b = true := by
  cases b <;> simp [vd] at h ⊢ <;> omega
theorem oct_no {xs : List (Int × Bool)} {i : Nat} (hi : i < xs.length) (g : 20 < (xs.getD i (0, false)).1 + 7) : mmB 7 xs = false := by
  by_cases h : mmB 7 xs = true
  · obtain ⟨z, hM⟩ := mm_mvd h
    have a := (hM.at_ i hi).1
    have d := vd_in (mv_at hM.vy (i := i) (by rw [← hM.len]; exact hi))
    omega
  · simpa using h
theorem oct_yes {xs : List (Int × Bool)} (hm : mv xs = true) (g : ∀ i, i < xs.length → (xs.getD i (0, false)).1 + 7 ≤ 20) : mmB 7 xs = true := by
  have hg : ∀ i, i < xs.length → (xs.map fun t => (t.1 + 7, t.2)).getD i (0, false) = ((xs.getD i (0, false)).1 + 7, (xs.getD i (0, false)).2) := fun i hi => by
    simp [List.getD_eq_getElem?_getD, hi]
  have hM : Mvd 7 12 xs (xs.map fun t => (t.1 + 7, t.2)) := by
    refine ⟨by simp, hm, mv_mk (by rw [List.length_map]; exact mv_len hm) (fun i hi => ?_), fun i hi => ?_⟩
    · rw [List.length_map] at hi
      rw [hg i hi]
      exact vd7 (mv_at hm hi) (g i hi)
    · rw [hg i hi]
      exact ⟨rfl, hgt7 _ _⟩
  exact hM.mm
theorem vd_hardly {s : Int} {b : Bool} (h : vd s b = true) (g : ¬ s % 7 = 2) : b = false := by
  cases b
  · rfl
  · exact absurd (vd_soft h) g
theorem hgt_b (s : Int) : hgt s true = hgt s false - 1 := by unfold hgt; simp
theorem oct_soft {xs : List (Int × Bool)} {j : Nat} (h : mmB 7 xs = true) (hj : j < xs.length) (hb : ¬ (xs.getD j (0, false)).1 % 7 = 2) : ∀ i, i < xs.length → ((mmL 7 xs).getD i (0, false)).2 = (xs.getD i (0, false)).2 := by
  obtain ⟨z, hM⟩ := mm_mvd h
  have hz : z = 12 := by
    obtain ⟨a, b⟩ := hM.at_ j hj
    have v1 := mv_at hM.vx hj
    have v2 := mv_at hM.vy (i := j) (by rw [← hM.len]; exact hj)
    have f1 := vd_hardly v1 hb
    have f2 := vd_hardly v2 (by rw [a]; omega)
    rw [f1, f2, a, hgt7] at b
    omega
  subst hz
  intro i hi
  obtain ⟨a, b⟩ := hM.at_ i hi
  rw [a, hgt7] at b
  generalize ((mmL 7 xs).getD i (0, false)).2 = p at b
  generalize (xs.getD i (0, false)).2 = q at b
  have e := hgt_b (xs.getD i (0, false)).1
  cases p <;> cases q
  · rfl
  · omega
  · omega
  · rfl

end Go.Proofs.YticapinlnlpbpaaDoor

namespace Go.Proofs.YticapinlnlpbpaaDoor
open Go.RowKit
set_option maxRecDepth 100000
set_option linter.unusedVariables false

/-- a row of tones of a call's own, while it grows -/
structure TbInv (w wr : World) (v : Value) (xs : List (Int × Bool)) : Prop where
  own : wr.ownsRow w.heap.size 41 2 v xs.length (tcs xs)
  bl : Below w.heap.size w wr
theorem TbInv.start (w : World) : TbInv w (w.alloc (.cells #[] 41)) (.slice (some ⟨w.heap.size, 0, none⟩) 0 0) [] :=
  ⟨⟨by simp [tcs], .inr ⟨w.heap.size, 0, #[], rfl, Nat.le_refl _, heap_alloc_new w _, by simp, by simp [maxLen], by simp, by simp [tcs]⟩⟩, (Below.refl _ _).alloc (Nat.le_refl _) _⟩
theorem TbInv.row {w wr : World} {v : Value} {xs : List (Int × Bool)} (h : TbInv w wr v xs) : TRow wr w.heap.size wr.heap.size v xs := ⟨h.own, fun g hg => (own_ltb h.own hg).2⟩
theorem TbInv.below {w wr w1 : World} {v : Value} {xs : List (Int × Bool)} (h : TbInv w wr v xs) (hb : Below wr.heap.size wr w1) : TbInv w w1 v xs :=
  ⟨(h.row.below hb (.inl (Nat.le_refl _))).1, bl_step h.bl hb⟩
theorem TbInv.app {w w1 w2 : World} {v v' : Value} {xs : List (Int × Bool)} {s : Int} {b : Bool} {o : Obj} (h : TbInv w w1 v xs)
    (hown : w2.ownsRow w.heap.size 41 2 v' (xs.length + 1) (tcs xs ++ [.int .i64 s, .bool b])) (hg : (w1.alloc o).grownBy w2 v.ownBlock) : TbInv w w2 v' (xs ++ [(s, b)]) :=
  ⟨by rw [tcs_app, List.length_append]; exact hown, (h.bl.alloc h.bl.size o).grown hg (by have := h.bl.size; simp; omega) (fun k hk => (own_ltb h.own hk).1)⟩

/-- does the move of a part succeed, and the moved part -/
def tns (xs : List Vc) : List (Int × Bool) := xs.map fun x => x.1
def bts8 (xs : List Vc) : List Int := xs.map fun x => x.2
theorem tns_len (xs : List Vc) : (tns xs).length = xs.length := by simp [tns]
theorem bts_len8 (xs : List Vc) : (bts8 xs).length = xs.length := by simp [bts8]
theorem tns_take {xs : List Vc} {k : Nat} {x : Vc} (h : xs[k]? = some x) : tns (xs.take (k + 1)) = tns (xs.take k) ++ [x.1] := by
  rw [List.take_add_one, h]; simp [tns]
theorem bts_take8 {xs : List Vc} {k : Nat} {x : Vc} (h : xs[k]? = some x) : bts8 (xs.take (k + 1)) = bts8 (xs.take k) ++ [x.2] := by
  rw [List.take_add_one, h]; simp [bts8]
def dmOk (k : Int) (xs : List Vc) : Bool := pval xs && mmB k (tns xs)
def dmL (k : Int) (xs : List Vc) : List Vc := if dmOk k xs then (mmL k (tns xs)).zip (bts8 xs) else []
theorem dm_no1 {k : Int} {xs : List Vc} (h : pval xs = false) : dmOk k xs = false := by simp [dmOk, h]
theorem dm_no2 {k : Int} {xs : List Vc} (h : mmB k (tns xs) = false) : dmOk k xs = false := by simp [dmOk, h]
theorem dm_in {k : Int} {xs : List Vc} (h : dmOk k xs = true) : pval xs = true ∧ mmB k (tns xs) = true := by simpa [dmOk] using h
theorem dm_ok {k : Int} {xs : List Vc} (h : pval xs = true) (h2 : mmB k (tns xs) = true) : dmOk k xs = true := by simp [dmOk, h, h2]
theorem dmL_no {k : Int} {xs : List Vc} (h : dmOk k xs = false) : dmL k xs = [] := by simp [dmL, h]
theorem dmL_yes {k : Int} {xs : List Vc} (h : dmOk k xs = true) : dmL k xs = (mmL k (tns xs)).zip (bts8 xs) := by simp [dmL, h]
theorem zip_fst {ts : List (Int × Bool)} {zs : List Int} (h : ts.length = zs.length) : tns (ts.zip zs) = ts := by
  unfold tns; exact List.map_fst_zip (by omega)
theorem zip_snd {ts : List (Int × Bool)} {zs : List Int} (h : ts.length = zs.length) : bts8 (ts.zip zs) = zs := by
  unfold bts8; exact List.map_snd_zip (by omega)
theorem vok_zip {ts : List (Int × Bool)} {zs : List Int} (h : allv ts = true) (h2 : ∀ z ∈ zs, 1 ≤ z ∧ z ≤ 3) : (ts.zip zs).all vok = true := by
  rw [List.all_eq_true]
  rintro ⟨t, z⟩ hx
  obtain ⟨a, b⟩ := List.of_mem_zip hx
  have h3 : vd t.1 t.2 = true := by unfold allv at h; rw [List.all_eq_true] at h; exact h t a
  exact vok_yes (x := (t, z)) h3 (h2 z b).1 (h2 z b).2
theorem bts_in8 {xs : List Vc} (h : xs.all vok = true) : ∀ z ∈ bts8 xs, 1 ≤ z ∧ z ≤ 3 := by
  intro z hz
  obtain ⟨x, hx, rfl⟩ := List.mem_map.1 hz
  rw [List.all_eq_true] at h
  exact (vok_in (h x hx)).2
theorem tns_mv {xs : List Vc} (h : pval xs = true) : mv (tns xs) = true := by
  obtain ⟨a, b, c⟩ := pval_in h
  unfold mv
  rw [Bool.and_eq_true, tns_len]
  refine ⟨decide_eq_true (by omega), ?_⟩
  unfold allv
  rw [List.all_eq_true] at a ⊢
  intro t ht
  obtain ⟨x, hx, rfl⟩ := List.mem_map.1 ht
  exact (vok_in (a x hx)).1
theorem mmL_mv {k : Int} {ts : List (Int × Bool)} (h : mmB k ts = true) : mv (mmL k ts) = true := by
  obtain ⟨z, hz⟩ := mm_mvd h
  exact hz.vy
theorem mv_allv {ts : List (Int × Bool)} (h : mv ts = true) : allv ts = true := by unfold mv at h; rw [Bool.and_eq_true] at h; exact h.2
theorem dm_len {k : Int} {xs : List Vc} (h : mmB k (tns xs) = true) : (mmL k (tns xs)).length = (bts8 xs).length := by rw [mm_len h, tns_len, bts_len8]
/-- the moved part is a part -/
theorem dm_part {k : Int} {xs : List Vc} (h : dmOk k xs = true) : pval (dmL k xs) = true ∧ tns (dmL k xs) = mmL k (tns xs) ∧ bts8 (dmL k xs) = bts8 xs ∧ (dmL k xs).length = xs.length := by
  obtain ⟨h1, h2⟩ := dm_in h
  obtain ⟨a, b, c⟩ := pval_in h1
  have hl := dm_len h2
  rw [dmL_yes h]
  have e2 := zip_snd hl
  refine ⟨?_, zip_fst hl, e2, ?_⟩
  · refine pval_yes (vok_zip (mv_allv (mmL_mv h2)) (bts_in8 a)) ?_ ?_
    · rw [List.length_zip, hl, bts_len8]; omega
    · have e3 : ∀ zs : List Vc, bsm zs = smL (bts8 zs) := fun _ => rfl
      rw [e3] at c ⊢
      rw [e2]
      exact c
  · rw [List.length_zip, hl, bts_len8]; omega
theorem dm_pm {k : Int} {xs : List Vc} (h : dmOk k xs = true) : pmOk (mmL k (tns xs)) (bts8 xs) = true ∧ pmL (mmL k (tns xs)) (bts8 xs) = dmL k xs := by
  obtain ⟨h1, h2⟩ := dm_in h
  have e : pmOk (mmL k (tns xs)) (bts8 xs) = true := by
    have h3 := (dm_part h).1
    rw [dmL_yes h] at h3
    unfold pmOk
    rw [mmL_mv h2, h3, decide_eq_true (dm_len h2)]
    rfl
  exact ⟨e, by rw [pm_yes e, dmL_yes h]⟩
theorem dmL_len (k : Int) (xs : List Vc) : (dmL k xs).length ≤ 24 := by
  unfold dmL
  split
  · rw [List.length_zip]; have := mmL_len k (tns xs); omega
  · simp

end Go.Proofs.YticapinlnlpbpaaDoor

namespace Go.Proofs.YticapinlnlpbpaaDoor
open Go.RowKit
set_option maxRecDepth 100000
set_option linter.unusedVariables false

theorem trow_len8 {w : World} {lo hi : Nat} {v : Value} {xs : List (Int × Bool)} (h : TRow w lo hi v xs) : ∃ a c, v = .slice a xs.length c := by
  rcases h.form with ⟨rfl, rfl⟩ | ⟨g, cap, rfl, _⟩
  · exact ⟨none, 0, rfl⟩
  · exact ⟨_, cap, rfl⟩
theorem mv_len8 {xs : List (Int × Bool)} (h : mv xs = true) : xs.length ≤ 24 := by
  simp [mv] at h
  omega

set_option maxHeartbeats 8000000 in
theorem sPartMake_any (lo hi : Nat) (v u : Value) (ts : List (Int × Bool)) (zs : List Int) (w : World) (h : TRow w lo hi v ts) (k : IV w u zs) :
    Calls Tryd.prog 59 #[v, u] w (VBuilt2 w (pmL ts zs) (pmOk ts zs)) := by
  obtain ⟨i0, hi0, hq0, hq1, hq2⟩ := info_parts infoVb
  have HM := Lib.hid (fun w' (hb : Below w.heap.size w w') => sMelodyValid_any lo hi v ts w' (h.below (w' := w') hb (.inr (Nat.le_refl _))))
  have HT := Lib.hid h.form
  obtain ⟨a, c, rfl, ha, hc1, hc2⟩ := k
  unfold maxLen at hc2
  have HA := Lib.hid ha
  obtain ⟨av, cv, rfl⟩ := trow_len8 h
  clear ha
  cases hm : mv ts with
  | false =>
    have hok : pmOk ts zs = false := by simp [pmOk, hm]
    rw [pm_no hok, hok]
    rw [hm] at HM
    clear h hm hok
    go_enter Tryd.func59, Tryd.ntmps59
    go_wp2_with (fail)
    (go_at_call 86; refine (HM.out _ ((Below.refl _ _).alloc (Nat.le_refl _) _)).mono ?_; rintro e w1 ⟨rfl, hb1⟩)
    have HE := Lib.hid ((((VbInv.start w).below hb1).built2 false))
    clear hb1
    go_wp2
    go_ret2
    exact HE.out
  | true =>
    rw [hm] at HM
    by_cases hl : ts.length = zs.length
    case neg =>
      have hok : pmOk ts zs = false := by simp [pmOk, hl]
      rw [pm_no hok, hok]
      have g1 : ((ts.length : Int) != (zs.length : Int)) = true := by simp; omega
      have g2 : ((zs.length : Int) != (ts.length : Int)) = true := by simp; omega
      have g3 : ((ts.length : Int) == (zs.length : Int)) = false := by rw [beq_eq_false_iff_ne]; omega
      clear h hm hok
      go_enter Tryd.func59, Tryd.ntmps59
      go_wp2_with (fail)
      (go_at_call 86; refine (HM.out _ ((Below.refl _ _).alloc (Nat.le_refl _) _)).mono ?_; rintro e w1 ⟨rfl, hb1⟩)
      have HE := Lib.hid ((((VbInv.start w).below hb1).built2 false))
      clear hb1
      go_wp2
      go_ret2
      exact HE.out
    case pos =>
      have h24 : ts.length ≤ 24 := mv_len8 hm
      have HZ : Hid (pval (ts.zip zs) = pmOk ts zs) := by show _ = _; simp [pmOk, hm, hl]
      have hzl : (ts.zip zs).length = ts.length := by rw [List.length_zip]; omega
      have HPN := Lib.hid (fun (e : pmOk ts zs = false) => pm_no e)
      have HPY := Lib.hid (fun (e : pmOk ts zs = true) => pm_yes e)
      have g1 : ((ts.length : Int) != (zs.length : Int)) = false := by simp; omega
      have g2 : ((zs.length : Int) != (ts.length : Int)) = false := by simp; omega
      have HLE := Lib.hid hl
      have HZL := Lib.hid hzl
      clear hl hzl
      generalize pmL ts zs = pl at HPN HPY ⊢
      generalize pmOk ts zs = ok at HZ HPN HPY ⊢
      clear h hm
      go_enter Tryd.func59, Tryd.ntmps59
      go_wp2_with (fail)
      (go_at_call 86; refine (HM.out _ ((Below.refl _ _).alloc (Nat.le_refl _) _)).mono ?_; rintro e w1 ⟨rfl, hb1⟩)
      have HB1 := Lib.hid (Below.refl w.heap.size w)
      have HS := Lib.hid ((VbInv.start w).below hb1)
      clear hb1
      go_wp2
      go_loopw [6, 7] (fun q i wr => ∃ n : Nat, n ≤ ts.length ∧ i = .int .i64 (n : Int) ∧ VbInv w wr q ((ts.zip zs).take n)) (fun _ i _ => ts.length - (intOf i).toNat)
      case atStart => exact ⟨0, by omega, rfl, HS.out⟩
      case round =>
        obtain ⟨n, hn, rfl, hinv⟩ := hrel
        by_cases hlt : n < ts.length
        · obtain ⟨⟨s, b⟩, ht⟩ : ∃ t, ts[n]? = some t := ⟨ts[n], List.getElem?_eq_getElem hlt⟩
          have hnz : n < zs.length := by have := HLE.out; omega
          have hz : zs[n]? = some (zs.getD n 0) := by rw [List.getD_eq_getElem?_getD, List.getElem?_eq_getElem hnz]; rfl
          have hbw := bl_step HB1.out hinv.bl
          have HX := Lib.hid (zip_take ht hz)
          rcases HT.out with ⟨hv1, hv2⟩ | ⟨g, cap, hv, hg, hg2, hgs, hcap, hmax, hc⟩
          · subst hv2; simp at hlt
          injection hv with hv1 hv2 hv3
          subst hv1 hv3
          rcases HA.out with h0 | ⟨A, off, rfl, hA, hcz⟩
          · subst h0; simp at hnz
          obtain ⟨e0, e1⟩ := hc n _ ht
          have d0 := (hbw.cell (p := ⟨g, n * 2, none⟩) hgs).trans e0
          have d1 := (hbw.cell (p := ⟨g, n * 2 + 1, none⟩) hgs).trans e1
          have hgr : g < wr.heap.size := Nat.lt_of_lt_of_le hgs hbw.size
          have d2 := (hbw.cell (p := ⟨A, off + n, none⟩) hA).trans (hcz n hnz)
          have hAs : A < wr.heap.size := Nat.lt_of_lt_of_le hA hbw.size
          generalize zs.getD n 0 = m at d2 HX
          have hlen : ((ts.zip zs).take n).length = n := by have := HZL.out; simp only [List.length_take]; omega
          have hown := hinv.own
          rw [hlen] at hown
          have hk0 : (0 : Int) ≤ (n : Int) := by omega
          have hk1 : (n : Int) < (ts.length : Int) := by omega
          have hk2 : (n : Int) < (zs.length : Int) := by omega
          have HN := Lib.hid hinv
          have hws := hinv.bl.size
          have hw1 := HB1.out.size
          have hlo := fun q (e : u6.ownBlock = some q) => own_ltb hown e
          have agA : u6.ownBlock ≠ some A := fun e => by have := (hlo _ e).1; omega
          have agg : u6.ownBlock ≠ some g := fun e => by have := (hlo _ e).1; omega
          have agB : u6.ownBlock ≠ some wr.heap.size := fun e => by have := (hlo _ e).2; omega
          clear ht hz hbw hc hcz hinv hv2 e0 e1 hlo
          go_wp2
          have HIW := HN
          go_region_held3 (fun wx => wx.cell? ⟨g, n * 2, none⟩ = some (.int .i64 s) ∧ wx.cell? ⟨g, n * 2 + 1, none⟩ = some (.bool b) ∧ wx.cell? ⟨A, off + n, none⟩ = some (.int .i64 m))
            (first
              | go_keep
              | (go_split_ands
                 refine ⟨?_, ?_, ?_⟩
                 · (rw [hgrow.cell_far _ (by simp; omega) (Ne.symm agg)]; assumption)
                 · (rw [hgrow.cell_far _ (by simp; omega) (Ne.symm agg)]; assumption)
                 · (rw [hgrow.cell_far _ (by simp; omega) (Ne.symm agA)]; assumption)))
            ((refine step_append_lies _ (by rfl) _ _ _ (by rfl) w.heap.size 49 i0 (.agg #[.int .i64 0, .bool false, .int .i64 0]) 3 24 Tryd.underlying26 hi0 hq0 hq1 hq2 rfl (by omega) u6 n _ (by rfl) ((hown.alloc _).drew) ⟨wr.heap.size, 0, none⟩ 1 1 [.int .i64 s, .bool b, .int .i64 m] (by rfl) (by rfl) (World.news_of_block (cs := #[.int .i64 s, .bool b, .int .i64 m]) (t := 49) (fr := (0, 0)) (heap_alloc_new wr _)) (by simp [Value.oneCell']) (by omega) (by unfold maxLen; omega) (by omega) (by simp; omega) (wr.heap.size + 1) (by simp) ?_; intro gg capg w4 hown' hgrow hat hltg))
          clear d0 d1 d2
          have HI := Lib.hid (VbInv.app (s := s) (b := b) (m := m) (HIW.out.below (Below.refl _ _).drew) (by rw [hlen]; exact hown') hgrow)
          rw [← HX.out] at HI
          clear hown' hgrow hown HN HIW hat hltg
          go_wp2
          go_roundw
          case rel => exact ⟨n + 1, by omega, by go_num, HI.out⟩
          case measure => simp [intOf]; omega
        · have hnn : n = ts.length := by omega
          have hzn : (ts.zip zs).take n = ts.zip zs := List.take_of_length_le (by have := HZL.out; omega)
          rw [hzn] at hinv
          have HV := Lib.hid (sPartValid8_any _ (ts.zip zs) wr hinv.row.view)
          rw [HZ.out] at HV
          obtain ⟨aq, cq, rfl⟩ := hinv.row.sl HZL.out
          have HN := Lib.hid hinv
          clear hinv hzn
          subst hnn
          cases ok with
          | true =>
            go_wp2_with (fail)
            (go_at_call 57; refine (HV.out).mono ?_; rintro e w5 ⟨rfl, hb5⟩)
            have HE := Lib.hid (((HN.out.below hb5).built2 true).from_ HB1.out)
            rw [← HPY.out (by trivial)] at HE
            clear hb5 HN
            go_wp2
            go_ret2
            exact HE.out
          | false =>
            have hbw := bl_step HB1.out HN.out.bl
            have HBW := Lib.hid hbw
            clear hbw
            go_wp2_with (fail)
            (go_at_call 57; refine (HV.out).mono ?_; rintro e w5 ⟨rfl, hb5⟩)
            have HE := Lib.hid (VBuilt2.none_ w w5 (bl_step HBW.out hb5))
            rw [← HPN.out (by trivial)] at HE
            clear hb5 HN
            go_wp2
            go_ret2
            exact HE.out

end Go.Proofs.YticapinlnlpbpaaDoor

namespace Go.Proofs.YticapinlnlpbpaaDoor
open Go.RowKit
set_option maxRecDepth 100000
set_option linter.unusedVariables false

theorem bts_get8 {xs : List Vc} {n : Nat} {x : Vc} (h : xs[n]? = some x) : (bts8 xs)[n]? = some x.2 := by simp [bts8, h]

set_option maxHeartbeats 8000000 in
theorem discantMove_any (v : Value) (k : Int) (xs : List Vc) (w : World) (h : VV w v xs) (ht : StepTab w) :
    Calls Tryd.prog 26 #[v, .int .i64 k] w (VBuilt2 w (dmL k xs) (dmOk k xs)) := by
  obtain ⟨i0, hi0, hq0, hq1, hq2⟩ := info_parts infoTone
  obtain ⟨j0, hj0, hr0, hr1, hr2⟩ := info_parts infoVb
  have HV := Lib.hid (partValid8_any v xs w h)
  have HT := Lib.hid ht
  obtain ⟨a, c, rfl, ha, hc1, hc2⟩ := h
  have HA := Lib.hid ha
  clear ht ha
  cases hp : pval xs with
  | false =>
    have hok := dm_no1 (k := k) hp
    rw [dmL_no hok, hok]
    rw [hp] at HV
    clear hok hp
    go_enter Tryd.func26, Tryd.ntmps26
    go_wp2_with (fail)
    (go_at_call 60; refine (HV.out).mono ?_; rintro e w1 ⟨rfl, hb1⟩)
    have HE := Lib.hid (VBuilt2.none_ w w1 hb1)
    clear hb1
    go_wp2
    go_ret2
    exact HE.out
  | true =>
    rw [hp] at HV
    obtain ⟨_, l12, _⟩ := pval_in hp
    have HP := Lib.hid hp
    clear hp
    go_enter Tryd.func26, Tryd.ntmps26
    go_wp2_with (fail)
    (go_at_call 60; refine (HV.out).mono ?_; rintro e w1 ⟨rfl, hb1⟩)
    have HB1 := Lib.hid hb1
    have HS := Lib.hid (TbInv.start w1)
    clear hb1 HV
    go_wp2
    go_loopw [6, 21] (fun q i wr => ∃ n : Nat, n ≤ xs.length ∧ i = .int .i64 (n : Int) ∧ TbInv w1 wr q (tns (xs.take n))) (fun _ i _ => xs.length - (intOf i).toNat)
    case atStart => exact ⟨0, by omega, rfl, HS.out⟩
    case round =>
      obtain ⟨n, hn, rfl, hinv⟩ := hrel
      clear HS
      by_cases hlt : n < xs.length
      · obtain ⟨⟨⟨s, b⟩, m⟩, hx⟩ : ∃ x, xs[n]? = some x := ⟨xs[n], List.getElem?_eq_getElem hlt⟩
        rcases HA.out with h0 | ⟨A, off, rfl, hA, hcz⟩
        · subst h0; simp at hlt
        have hbw := bl_step HB1.out hinv.bl
        have HX := Lib.hid (tns_take hx)
        obtain ⟨e0, e1, e2⟩ := hcz n _ hx
        have d0 := (hbw.cell (p := ⟨A, off + n * 3, none⟩) hA).trans e0
        have d1 := (hbw.cell (p := ⟨A, off + n * 3 + 1, none⟩) hA).trans e1
        have d2 := (hbw.cell (p := ⟨A, off + n * 3 + 2, none⟩) hA).trans e2
        have hlen : (tns (xs.take n)).length = n := by rw [tns_len, List.length_take]; omega
        have hown := hinv.own
        rw [hlen] at hown
        have hk0 : (0 : Int) ≤ (n : Int) := by omega
        have hk1 : (n : Int) < (xs.length : Int) := by omega
        have HN := Lib.hid hinv
        have hws := hinv.bl.size
        have HNB : Hid (((wr.alloc (.cells #[.int .i64 s, .bool b, .int .i64 m] 49)).alloc (.cells #[.int .i64 s, .bool b] 41)).heap[wr.heap.size + 1]? = some (.cells #[.int .i64 s, .bool b] 41 (0, 0))) := by
          have := heap_alloc_new (wr.alloc (.cells #[.int .i64 s, .bool b, .int .i64 m] 49)) (.cells #[.int .i64 s, .bool b] 41)
          show _ = _
          simpa using this
        clear hx hbw hcz hinv e0 e1 e2
        go_wp2_with (at_builtin; refine wpList_append_own _ rfl _ _ 52 rfl w1.heap.size 41 i0 (.agg #[.int .i64 0, .bool false]) 2 16 Tryd.underlying52 hi0 hq0 hq1 hq2 rfl (by decide) _ _ _ rfl ((hown.alloc _).alloc _) ⟨wr.heap.size + 1, 0, none⟩ 1 1 [.int .i64 s, .bool b] rfl rfl (World.news_of_block HNB.out) (by simp [Value.oneCell']) (by unfold maxLen; omega) (by omega) (by simp; omega) ?_)
        intro v' w4 hown' hgrow _
        have HI := Lib.hid (TbInv.app (s := s) (b := b) (HN.out.below ((Below.refl _ _).alloc (Nat.le_refl _) _)) (by rw [hlen]; exact hown') hgrow)
        rw [← HX.out] at HI
        clear hown' hgrow hown HN
        go_wp2
        go_roundw
        case rel => exact ⟨n + 1, by omega, by go_num, HI.out⟩
        case measure => simp [intOf]; omega
      · have hnn : n = xs.length := by omega
        subst hnn
        rw [List.take_length] at hinv
        have hbw := bl_step HB1.out hinv.bl
        have HM := Lib.hid (melodyMove_any w1.heap.size wr.heap.size _ (tns xs) k wr hinv.row (HT.out.below hbw))
        have HBW := Lib.hid hbw
        clear hinv hbw HT HB1
        cases hm : mmB k (tns xs) with
        | false =>
          have hok := dm_no2 (xs := xs) hm
          rw [hm] at HM
          have HE : Hid (∀ w2, Below w.heap.size w w2 → VBuilt2 w (dmL k xs) (dmOk k xs) (.returned (.tuple #[.slice (some ⟨w2.heap.size, 0, none⟩) 0 0, .bool false])) (w2.alloc (.cells #[] 49))) := fun w2 hb => by
            rw [dmL_no hok, hok]; exact VBuilt2.none_ w w2 hb
          clear hok hm
          go_wp2_with (fail)
          (go_at_call 42; refine (HM.out).mono ?_; rintro e w2 ⟨u, rfl, hu, hb2⟩)
          have HF := Lib.hid (HE.out w2 (bl_step HBW.out hb2))
          clear hu hb2 HE
          go_wp2
          go_ret2
          exact HF.out
        | true =>
          have hok := dm_ok HP.out hm
          have HOK := Lib.hid (dmL_yes hok)
          have HO := Lib.hid hok
          rw [hm] at HM
          have hyl : (mmL k (tns xs)).length = xs.length := by rw [mm_len hm, tns_len]
          clear hok hm
          generalize mmL k (tns xs) = ys at HM HOK hyl
          have HYL := Lib.hid hyl
          clear hyl
          go_wp2_with (fail)
          (go_at_call 42; refine (HM.out).mono ?_; rintro e w2 ⟨u, rfl, hu, hb2⟩)
          have HU := Lib.hid hu
          have HB2 := Lib.hid (bl_step HBW.out hb2)
          have HS2 := Lib.hid (VbInv.start w2)
          obtain ⟨ua, uc, rfl⟩ := trow_len8 hu
          rw [HYL.out]
          clear hu hb2 HBW HM
          go_wp2
          go_loopw [11, 43] (fun q i wr => ∃ n : Nat, n ≤ xs.length ∧ i = .int .i64 (n : Int) ∧ VbInv w2 wr q ((ys.zip (bts8 xs)).take n)) (fun _ i _ => xs.length - (intOf i).toNat)
          case atStart => exact ⟨0, by omega, rfl, HS2.out⟩
          case round =>
            obtain ⟨n, hn, rfl, hinv⟩ := hrel
            clear HS2
            by_cases hlt : n < xs.length
            · obtain ⟨⟨⟨s0, b0⟩, m⟩, hx⟩ : ∃ x, xs[n]? = some x := ⟨xs[n], List.getElem?_eq_getElem hlt⟩
              have hy1 : n < ys.length := by have := HYL.out; omega
              obtain ⟨⟨s, b⟩, ht⟩ : ∃ t, ys[n]? = some t := ⟨ys[n], List.getElem?_eq_getElem hy1⟩
              have HX := Lib.hid (zip_take ht (bts_get8 hx))
              rcases HA.out with h0 | ⟨A, off, rfl, hA, hcz⟩
              · subst h0; simp at hlt
              rcases HU.out.form with ⟨hv1, hv2⟩ | ⟨g, cap, hv, hg, hg2, hgs, hcap, hmax, hc⟩
              · subst hv2; simp at hy1
              injection hv with hv1 hv2 hv3
              subst hv1 hv3
              obtain ⟨e0, e1⟩ := hc n _ ht
              obtain ⟨_, _, e2⟩ := hcz n _ hx
              have d0 := (hinv.bl.cell (p := ⟨g, n * 2, none⟩) hgs).trans e0
              have d1 := (hinv.bl.cell (p := ⟨g, n * 2 + 1, none⟩) hgs).trans e1
              have hbw := bl_step HB2.out hinv.bl
              have d2 := (hbw.cell (p := ⟨A, off + n * 3 + 2, none⟩) hA).trans e2
              have hAs : A < wr.heap.size := Nat.lt_of_lt_of_le hA hbw.size
              have hlen : ((ys.zip (bts8 xs)).take n).length = n := by have := HYL.out; rw [List.length_take, List.length_zip, bts_len8]; omega
              have hown := hinv.own
              rw [hlen] at hown
              have hk0 : (0 : Int) ≤ (n : Int) := by omega
              have hk1 : (n : Int) < (xs.length : Int) := by omega
              have HN := Lib.hid hinv
              have hws := hinv.bl.size
              have hA2 : A < w2.heap.size := Nat.lt_of_lt_of_le hA HB2.out.size
              have hlo := fun q (e : u11.ownBlock = some q) => own_ltb hown e
              have agA : u11.ownBlock ≠ some A := fun e => by have := (hlo _ e).1; omega
              have agB : u11.ownBlock ≠ some wr.heap.size := fun e => by have := (hlo _ e).2; omega
              clear ht hx hbw hc hcz hinv hv2 e0 e1 e2 hlo hy1
              go_wp2
              obtain ⟨W, hW⟩ : ∃ W, W = wr.alloc (.cells #[.int .i64 s, .bool b] 41) := ⟨_, rfl⟩
              have f0 : W.cell? ⟨wr.heap.size, 0, none⟩ = some (.int .i64 s) := by rw [hW]; go_simp
              have f1 : W.cell? ⟨wr.heap.size, 1, none⟩ = some (.bool b) := by rw [hW]; go_simp
              have f2 : W.cell? ⟨A, off + n * 3 + 2, none⟩ = some (.int .i64 m) := by rw [hW, World.cell?_alloc_lt _ _ _ hAs]; exact d2
              have hownW : W.ownsRow w2.heap.size 49 3 u11 n (vcs ((ys.zip (bts8 xs)).take n)) := by rw [hW]; exact hown.alloc _
              have fz : wr.heap.size < W.heap.size := by rw [hW]; simp
              have fws : w2.heap.size ≤ W.heap.size := by omega
              have fA : A < W.heap.size := by omega
              have HIW : Hid (VbInv w2 W u11 ((ys.zip (bts8 xs)).take n)) := by rw [hW]; exact HN.out.below ((Below.refl _ _).alloc (Nat.le_refl _) _)
              rw [← hW]
              clear hW d0 d1 d2
              go_region_held3 (fun wx => wx.cell? ⟨wr.heap.size, 0, none⟩ = some (.int .i64 s) ∧ wx.cell? ⟨wr.heap.size, 1, none⟩ = some (.bool b) ∧ wx.cell? ⟨A, off + n * 3 + 2, none⟩ = some (.int .i64 m))
                (first
                  | go_keep
                  | (go_split_ands
                     refine ⟨?_, ?_, ?_⟩
                     · (rw [hgrow.cell_far _ (by simp; omega) (Ne.symm agB)]; assumption)
                     · (rw [hgrow.cell_far _ (by simp; omega) (Ne.symm agB)]; assumption)
                     · (rw [hgrow.cell_far _ (by simp; omega) (Ne.symm agA)]; assumption)))
                ((refine step_append_lies _ (by rfl) _ _ _ (by rfl) w2.heap.size 49 j0 (.agg #[.int .i64 0, .bool false, .int .i64 0]) 3 24 Tryd.underlying26 hj0 hr0 hr1 hr2 rfl (by omega) u11 n _ (by rfl) ((hownW.alloc _).drew) ⟨W.heap.size, 0, none⟩ 1 1 [.int .i64 s, .bool b, .int .i64 m] (by rfl) (by rfl) (World.news_of_block (cs := #[.int .i64 s, .bool b, .int .i64 m]) (t := 49) (fr := (0, 0)) (heap_alloc_new W _)) (by simp [Value.oneCell']) (by omega) (by unfold maxLen; omega) (by omega) (by simp; omega) (W.heap.size + 1) (by simp) ?_; intro gg capg w4 hown' hgrow hat hltg))
              clear f0 f1 f2 hownW fz
              have HI := Lib.hid (VbInv.app (s := s) (b := b) (m := m) (HIW.out.below (Below.refl _ _).drew) (by rw [hlen]; exact hown') hgrow)
              rw [← HX.out] at HI
              clear hown' hgrow hown HN HIW hat hltg
              go_wp2
              go_roundw
              case rel => exact ⟨n + 1, by omega, by go_num, HI.out⟩
              case measure => simp [intOf]; omega
            · have hnn : n = xs.length := by omega
              have hzn : (ys.zip (bts8 xs)).take n = ys.zip (bts8 xs) := List.take_of_length_le (by have := HYL.out; rw [List.length_zip, bts_len8]; omega)
              rw [hzn, ← HOK.out] at hinv
              have HE : Hid (VBuilt2 w (dmL k xs) (dmOk k xs) (.returned (.tuple #[u11, .bool true])) wr) := by rw [HO.out]; exact (hinv.built2 true).from_ HB2.out
              clear hinv hzn
              subst hnn
              go_wp2
              go_ret2
              exact HE.out

end Go.Proofs.YticapinlnlpbpaaDoor
