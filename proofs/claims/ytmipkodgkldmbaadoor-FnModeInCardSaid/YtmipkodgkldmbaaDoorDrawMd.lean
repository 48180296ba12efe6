/-
  The draws of modes and of melodies that are often in one.
-/
import Derived.Test.YtmipkodgkldmbaaDoorSmT
import Derived.Test.YtmipkodgkldmbaaDoorMelV
import Derived.Test.YtmipkodgkldmbaaDoorMdAl
import Derived.Test.YtmipkodgkldmbaaDoorDrawMv
namespace Go.Proofs.YtmipkodgkldmbaaDoor
open Go.RowKit
set_option maxRecDepth 100000
set_option linter.unusedVariables false

/-- a number of a draw, and the reader -/
def MdPicked (B A q : Nat) (w : World) (e : Ending) (w' : World) : Prop :=
  ∃ k : Int, e = .returned (.int .i64 k) ∧ -1 ≤ k ∧ k ≤ 9 ∧ Rd w' B A (q + 2) ∧ w.grownBy w' (some B)

set_option maxHeartbeats 4000000 in
theorem l92Mode_any (B A q : Nat) (hq : q ≤ 900000) (w : World) (h : Rd w B A q) :
    Calls Tryd.prog 47 #[.pointer (some ⟨B, 0, none⟩)] w (MdPicked B A q w) := by
  have hB := h.lt
  have hA := h.ltA
  go_enter Tryd.func47, Tryd.ntmps47
  go_wp2_with (fail)
  (go_at_call 52; refine (pick_any 12 B A q (by omega) (by omega) (by omega) _ h).mono ?_; rintro e w1 ⟨k1, rfl, h10, h11, hr1, hb1⟩)
  have hB1 := hr1.lt
  have hA1 := hr1.ltA
  by_cases g : k1 = 0
  · subst g
    go_wp2_with (fail)
    (go_at_call 52; refine (pick_any 3 B A (q + 1) (by omega) (by omega) (by omega) _ (hr1.alloc _)).mono ?_; rintro e w2 ⟨k2, rfl, h20, h21, hr2, hb2⟩)
    have hwB : w1.heap.size ≠ B := by omega
    have hn2 := (hb2.block w1.heap.size (by simp) (by simpa using hwB)).trans (heap_alloc_new w1 _)
    have e4 : w2.cell? ⟨w1.heap.size, k2.toNat, none⟩ = some (.int .i64 (sel3 0 9 (-1) k2)) := by simp [World.cell?, hn2, sel3_arr h20 h21]
    have hbd := sel3_bd (k := k2) (x := 0) (y := 9) (z := -1) (-1) 9 (by omega) (by omega) (by omega)
    have HG := Lib.hid (gb_step (gb_alloc hb1 (.cells #[.int .i64 0, .int .i64 9, .int .i64 (-1)] 3)) hb2)
    clear hn2
    go_wp2
    go_ret
    exact ⟨sel3 0 9 (-1) k2, rfl, hbd.1, hbd.2, hr2, HG.out⟩
  · have e1 : (k1 == 0) = false := by simpa using g
    clear g
    go_wp2_with (fail)
    (go_at_call 52; refine (pick_any 8 B A (q + 1) (by omega) (by omega) (by omega) _ hr1).mono ?_; rintro e w2 ⟨k2, rfl, h20, h21, hr2, hb2⟩)
    go_wp2
    go_ret
    exact ⟨_, rfl, by omega, by omega, hr2, by (repeat' (first | (with_reducible exact gb_refl _ _) | (with_reducible refine gb_alloc ?_ _) | (with_reducible refine gb_drew ?_) | (with_reducible refine gb_set ?_ ?_ _) | (with_reducible refine gb_step ?_ (by assumption)) | (with_reducible refine gb_bl ?_ (by assumption)) | (left; rfl) | (right; go_size) | go_size))⟩

def DrewI (w : World) (e : Ending) (w' : World) : Prop :=
  ∃ k : Int, e = .returned (.int .i64 k) ∧ -1 ≤ k ∧ k ≤ 9 ∧ Below w.heap.size w w'
theorem drawModeRange_any (a : Option Addr) (n cap : Nat) (w : World) (h : CodeAt w a n) (hc : n ≤ cap) (hcap : cap ≤ maxLen) :
    Calls Tryd.prog 16 #[.slice a n cap] w (DrewI w) := by
  go_enter Tryd.func16, Tryd.ntmps16
  go_wp2_with (fail)
  (go_at_call 48; refine (open_any a n cap _ h hc hcap).mono ?_; rintro e w1 ⟨A, rfl, hr1, hb1, hs1⟩)
  go_wp2_with (fail)
  (go_at_call 47; refine (l92Mode_any w.heap.size A 0 (by omega) _ hr1).mono ?_; rintro e w2 ⟨k, rfl, h0, h9, hr2, hb2⟩)
  have HE := Lib.hid (below_gb hb1 hb2 (Nat.le_refl _))
  clear hr1 hb1 hr2 hb2
  go_wp2
  go_ret
  exact ⟨k, rfl, h0, h9, HE.out⟩

def ChPicked (B A q : Nat) (w : World) (e : Ending) (w' : World) : Prop :=
  ∃ v xs, e = .returned v ∧ DmInv w w' B A (q + 20) v xs ∧ xs.length ≤ 8

set_option maxHeartbeats 4000000 in
theorem l92Chant_any (B A q : Nat) (hq : q ≤ 800000) (w : World) (h : Rd w B A q) :
    Calls Tryd.prog 51 #[.pointer (some ⟨B, 0, none⟩)] w (ChPicked B A q w) := by
  obtain ⟨i0, hi, hq0, hq1, hq2⟩ := info_parts infoTone
  have hB := h.lt
  have hA := h.ltA
  go_enter Tryd.func51, Tryd.ntmps51
  go_wp2_with (fail)
  (go_at_call 67; refine (l91Melody_any B A q 7 (by omega) (by omega) _ h).mono ?_; rintro e w1 ⟨v, xs, rfl, hI, hl⟩)
  have hB1 := hI.rd.lt
  go_wp2_with (fail)
  (go_at_call 52; refine (pick_any 5 B A (q + 2 * 7 + 4) (by omega) (by omega) (by omega) _ hI.rd).mono ?_; rintro e w2 ⟨k2, rfl, h20, h21, hr2, hb2⟩)
  have hI2 := hI.pick hr2 hb2 hB
  clear hI hr2 hb2
  by_cases g : 0 < k2
  · have ht2 : TRow w2 w.heap.size w2.heap.size v xs := ⟨hI2.own, fun g hg => (hI2.own.lt g hg).2⟩
    go_wp2_with (fail)
    (go_at_call 68; refine (sMelodyValid_any _ _ v xs _ ht2).mono ?_; rintro e w3 ⟨rfl, hb3⟩)
    have hI3 : DmInv w w3 B A (q + 2 * 7 + 4 + 1) v xs := ⟨(ht2.below hb3 (.inl (Nat.le_refl _))).1, hI2.rd.below hb3, gb_bl hI2.gb hb3⟩
    clear hI2 ht2 hb3
    cases hm : mv xs
    · have HE : Hid (ChPicked B A q w (.returned v) w3) := ⟨v, xs, rfl, ⟨hI3.own, hI3.rd.more (by omega), hI3.gb⟩, by omega⟩
      clear hI3
      go_wp2
      go_ret
      exact HE.out
    · clear hm
      go_wp2_with (fail)
      (go_at_call 52; refine (pick_any 4 B A (q + 2 * 7 + 4 + 1) (by omega) (by omega) (by omega) _ hI3.rd).mono ?_; rintro e w4 ⟨k4, rfl, h40, h41, hr4, hb4⟩)
      have hI4 := hI3.pick hr4 hb4 hB
      clear hI3 hr4 hb4
      have hown := hI4.own
      have HI := Lib.hid hI4
      clear hI4
      go_wp2_with (at_builtin; refine wpList_append_own _ rfl _ _ 28 rfl w.heap.size 33 i0 (.agg #[.int .i64 0, .bool false]) 2 16 Tryd.underlying28 hi hq0 hq1 hq2 rfl (by decide) _ _ _ rfl (hown.alloc _) ⟨w4.heap.size, 0, none⟩ 1 1 [.int .i64 (4 + k4), .bool false] rfl rfl news2 news2_one (by unfold maxLen; omega) (by omega) (by have := HI.out.gb.size; simp; omega) ?_)
      intro v' w5 hown' hgrow _
      have hI5 := HI.out.app (t := (4 + k4, false)) hB hA hown' hgrow
      have HE : Hid (ChPicked B A q w (.returned v') w5) := ⟨v', _, rfl, ⟨hI5.own, hI5.rd.more (by omega), hI5.gb⟩, by simp; omega⟩
      clear hown hown' hgrow hI5
      go_wp2
      go_ret
      exact HE.out
  · have HE : Hid (ChPicked B A q w (.returned v) w2) := ⟨v, xs, rfl, ⟨hI2.own, hI2.rd.more (by omega), hI2.gb⟩, by omega⟩
    have e0 : decide (0 < k2) = false := by simpa using g
    clear hI2 g
    go_wp2
    go_ret
    exact HE.out

theorem drewCh {B A q : Nat} {w w1 w2 : World} {v : Value} {xs : List (Int × Bool)} (h : DmInv w1 w2 B A q v xs) (hl : xs.length ≤ 8) (hb : Below w.heap.size w w1) (hB : w.heap.size ≤ B) : DrewMel 8 w (.returned v) w2 := drewMel h hl hb hB

theorem drawModeAll_any (a : Option Addr) (n cap : Nat) (w : World) (h : CodeAt w a n) (hc : n ≤ cap) (hcap : cap ≤ maxLen) :
    Calls Tryd.prog 25 #[.slice a n cap] w (DrewMel 8 w) := by
  go_enter Tryd.func25, Tryd.ntmps25
  go_wp2_with (fail)
  (go_at_call 48; refine (open_any a n cap _ h hc hcap).mono ?_; rintro e w1 ⟨A, rfl, hr1, hb1, hs1⟩)
  go_wp2_with (fail)
  (go_at_call 51; refine (l92Chant_any w.heap.size A 0 (by omega) _ hr1).mono ?_; rintro e w2 ⟨v, xs, rfl, hI, hl⟩)
  have HE := Lib.hid (drewMel hI hl hb1 (Nat.le_refl _))
  clear hI hr1
  go_wp2
  go_ret
  exact HE.out

theorem drawModeLikely_any (a : Option Addr) (n cap : Nat) (w : World) (h : CodeAt w a n) (hc : n ≤ cap) (hcap : cap ≤ maxLen) :
    Calls Tryd.prog 29 #[.slice a n cap] w (DrewMel 8 w) := by
  go_enter Tryd.func29, Tryd.ntmps29
  go_wp2_with (fail)
  (go_at_call 48; refine (open_any a n cap _ h hc hcap).mono ?_; rintro e w1 ⟨A, rfl, hr1, hb1, hs1⟩)
  go_wp2_with (fail)
  (go_at_call 51; refine (l92Chant_any w.heap.size A 0 (by omega) _ hr1).mono ?_; rintro e w2 ⟨v, xs, rfl, hI, hl⟩)
  have HE := Lib.hid (drewMel hI hl hb1 (Nat.le_refl _))
  clear hI hr1
  go_wp2
  go_ret
  exact HE.out

theorem drawModeMoves_any (a : Option Addr) (n cap : Nat) (w : World) (h : CodeAt w a n) (hc : n ≤ cap) (hcap : cap ≤ maxLen) :
    Calls Tryd.prog 33 #[.slice a n cap] w (DrewMel 8 w) := by
  go_enter Tryd.func33, Tryd.ntmps33
  go_wp2_with (fail)
  (go_at_call 48; refine (open_any a n cap _ h hc hcap).mono ?_; rintro e w1 ⟨A, rfl, hr1, hb1, hs1⟩)
  go_wp2_with (fail)
  (go_at_call 51; refine (l92Chant_any w.heap.size A 0 (by omega) _ hr1).mono ?_; rintro e w2 ⟨v, xs, rfl, hI, hl⟩)
  have HE := Lib.hid (drewMel hI hl hb1 (Nat.le_refl _))
  clear hI hr1
  go_wp2
  go_ret
  exact HE.out
end Go.Proofs.YtmipkodgkldmbaaDoor
