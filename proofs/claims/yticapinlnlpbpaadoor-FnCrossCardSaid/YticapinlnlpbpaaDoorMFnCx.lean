/-
  The law FnCross: for every code, crossed parts are counted both ways.
-/
import Derived.Test.YticapinlnlpbpaaDoorDraw2
import Derived.Test.YticapinlnlpbpaaDoorCode
import Derived.Test.YticapinlnlpbpaaDoorDrawM
import Derived.Test.YticapinlnlpbpaaDoorVb
import Derived.Test.YticapinlnlpbpaaDoorMma
import Derived.Test.YticapinlnlpbpaaDoorPm
import Derived.Test.YticapinlnlpbpaaDoorDj
import Derived.Test.YticapinlnlpbpaaDoorDs
import Derived.Test.YticapinlnlpbpaaDoorLaid
import Derived.Test.YticapinlnlpbpaaDoorOpen
namespace Go.Proofs.YticapinlnlpbpaaDoor
open Go.RowKit
set_option maxRecDepth 100000
set_option linter.unusedVariables false

/-- a rhythmic mode of a draw, and the reader -/
def FtPicked (B A q : Nat) (w : World) (e : Ending) (w' : World) : Prop :=
  ∃ k : Int, e = .returned (.int .i64 k) ∧ -1 ≤ k ∧ k ≤ 7 ∧ Rd w' B A (q + 2) ∧ w.grownBy w' (some B)

end Go.Proofs.YticapinlnlpbpaaDoor

namespace Go.Proofs.YticapinlnlpbpaaDoor
open Go.RowKit
set_option maxRecDepth 100000
set_option linter.unusedVariables false

theorem news3c {W : World} {s : Int} {b : Bool} {m : Int} {t : TypeId} {g : Nat} (hg : W.heap.size = g) : ∀ j u, ([.int .i64 s, .bool b, .int .i64 m] : List Value)[j]? = some u → (W.alloc (.cells #[.int .i64 s, .bool b, .int .i64 m] t)).cell? ⟨g, j, none⟩ = some u := by
  subst hg
  intro j u hj
  match j, hj with
  | 0, hj => simp at hj; subst hj; simp
  | 1, hj => simp at hj; subst hj; simp
  | 2, hj => simp at hj; subst hj; simp

/-- the drawing loop's state -/
structure DvInv (w wr : World) (B A q : Nat) (v : Value) (xs : List Vc) : Prop where
  own : wr.ownsRow w.heap.size 49 3 v xs.length (vcs xs)
  rd : Rd wr B A q
  gb : w.grownBy wr (some B)
  blk : ∃ g, v.ownBlock = some g
theorem own_some {w : World} {B e z n : Nat} {v : Value} {xs : List Value} (h : w.ownsRow B e z v (n + 1) xs) : ∃ g, v.ownBlock = some g := by
  obtain ⟨_, h0 | ⟨g, cap, cur, hv, _⟩⟩ := h
  · omega
  · exact ⟨g, by rw [hv]; rfl⟩
theorem DvInv.pick {w wr w1 : World} {B A q q' : Nat} {v : Value} {xs : List Vc} (h : DvInv w wr B A q v xs) (hr : Rd w1 B A q') (hg : wr.grownBy w1 (some B)) (hB : B < w.heap.size) : DvInv w w1 B A q' v xs := by
  refine ⟨h.own.kept hg ?_, hr, gb_step h.gb hg, h.blk⟩
  right
  intro e
  have := (h.own.lt B e).1
  omega
theorem DvInv.app {w wr w2 : World} {B A q : Nat} {v v' : Value} {xs : List Vc} {s : Int} {b : Bool} {m : Int} {o : Obj} (h : DvInv w wr B A q v xs) (hB : B < w.heap.size) (hA : A < w.heap.size)
    (hown : w2.ownsRow w.heap.size 49 3 v' (xs.length + 1) (vcs xs ++ [.int .i64 s, .bool b, .int .i64 m])) (hg : (wr.alloc o).grownBy w2 v.ownBlock) : DvInv w w2 B A q v' (xs ++ [((s, b), m)]) := by
  have hlt : ∀ g, v.ownBlock = some g → w.heap.size ≤ g := fun g hg => (h.own.lt g hg).1
  refine ⟨?_, (h.rd.alloc o).grown hg (fun e => by have := hlt B e.symm; omega) (fun e => by have := hlt A e.symm; omega), gb_own h.gb hg hlt, own_some hown⟩
  rw [vcs_app, List.length_append]
  exact hown
theorem DvInv.store {w wr : World} {B A q : Nat} {v : Value} {xs ys : List Vc} {g i : Nat} {u : Value} (h : DvInv w wr B A q v xs) (hv : v.ownBlock = some g) (hB : B < w.heap.size) (hA : A < w.heap.size)
    (hy : vcs ys = (vcs xs).set i u) (hl : ys.length = xs.length) : DvInv w (wr.setCell ⟨g, i, none⟩ u) B A q v ys := by
  have hg := (h.own.lt g hv).1
  refine ⟨?_, h.rd.set_ (by show g ≠ B; omega) (by show g ≠ A; omega) u, ?_, h.blk⟩
  · obtain ⟨hln, h1 | ⟨g', cap, cur, rfl, hb, hh, hc, hm, hsz, htk⟩⟩ := h.own
    · rw [h1.1] at hv; simp [Value.ownBlock] at hv
    · have e : g' = g := by simpa [Value.ownBlock] using hv
      subst e
      rw [hl]
      refine ⟨by rw [vcs_len, hl], .inr ⟨g', cap, cur.setIfInBounds i u, rfl, hb, by simp [World.setCell, Array.getElem?_modify, hh], hc, hm, by simpa using hsz, ?_⟩⟩
      rw [Array.toList_setIfInBounds, hy, ← htk, List.take_set]
  · exact gb_set h.gb (.inr hg) u
theorem DvInv.row {w wr : World} {B A q : Nat} {v : Value} {xs : List Vc} (h : DvInv w wr B A q v xs) : VRow wr w.heap.size wr.heap.size v xs := ⟨h.own, fun g hg => (h.own.lt g hg).2⟩

def PvPicked (B A q : Nat) (w : World) (e : Ending) (w' : World) : Prop :=
  ∃ v xs, e = .returned v ∧ DvInv w w' B A (q + 40) v xs ∧ xs.length ≤ 12
theorem DvInv.done {B A q q' : Nat} {w w' : World} {v : Value} {xs : List Vc} (h : DvInv w w' B A q' v xs) (hq : q' ≤ q + 40) (hl : xs.length ≤ 12) : PvPicked B A q w (.returned v) w' :=
  ⟨v, xs, rfl, ⟨h.own, h.rd.more hq, h.gb, h.blk⟩, hl⟩

set_option maxHeartbeats 4000000 in
theorem l92Part_any (B A q bb0 : Nat) (hb0 : bb0 ≤ 100) (hq : q ≤ 900000) (w : World) (h : Rd w B A q) :
    Calls Tryd.prog 71 #[.pointer (some ⟨B, 0, none⟩), .int .i64 (bb0 : Int)] w (PvPicked B A q w) := by
  obtain ⟨i0, hi0, hq0, hq1, hq2⟩ := info_parts infoVb
  have hB := h.lt
  have hA := h.ltA
  have hI0 : DvInv w (w.alloc (.cells #[] 49)) B A q (.slice (some ⟨w.heap.size, 0, none⟩) 0 0) [] :=
    ⟨(VbInv.start w).own, h.alloc _, gb_alloc (gb_refl _ _) _, ⟨_, rfl⟩⟩
  go_enter Tryd.func71, Tryd.ntmps71
  go_wp2_with (fail)
  (go_at_call 72; refine (pick_any 6 B A q (by omega) (by omega) (by omega) _ hI0.rd).mono ?_; rintro e w1 ⟨k1, rfl, h10, h11, hr1, hb1⟩)
  have HI1 := Lib.hid (hI0.pick hr1 hb1 hB)
  clear hI0 hr1 hb1
  have w5 : IntKind.i64.wrap (5 + k1) = 5 + k1 := IntWalk.i64_in _ (by omega)
  go_wp2
  go_loopw [1, 5, 6] (fun b v st wr => ∃ (bb : Nat) (s : Int) (xs : List Vc), b = .int .i64 (bb : Int) ∧ bb ≤ 100 ∧ st = .int .i64 s ∧ 1 ≤ s ∧ s ≤ 16 ∧ xs.length ≤ 12 ∧ DvInv w wr B A (q + 1 + 3 * xs.length) v xs) (fun b _ _ _ => (intOf b).toNat)
  case atStart => exact ⟨bb0, 5 + k1, [], rfl, hb0, rfl, by omega, by omega, by simp, HI1.out⟩
  case round =>
    obtain ⟨bb, s, xs, rfl, hbb, rfl, s1, s16, hxl, hI⟩ := hrel
    clear HI1
    have HI := Lib.hid hI
    obtain ⟨av, cv, rfl⟩ := hI.row.sl (n := xs.length) rfl
    clear hI
    by_cases hgo : 0 < bb ∧ xs.length < 12
    case neg =>
      have HG : Hid (decide ((0 : Int) < (bb : Int)) = false ∨ (decide ((0 : Int) < (bb : Int)) = true ∧ decide ((xs.length : Int) < 12) = false)) := by
        by_cases h0 : 0 < bb
        · exact .inr ⟨decide_eq_true (by omega), decide_eq_false (by omega)⟩
        · exact .inl (decide_eq_false (by omega))
      have HEND : Hid (∀ q' v' xs' w', DvInv w w' B A q' v' xs' → q' ≤ q + 40 → xs'.length ≤ 12 → PvPicked B A q w (.returned v') w') := fun q' v' xs' w' h1 h2 h3 => h1.done h2 h3
      have hwz := HI.out.gb.size
      rcases HG.out with gb | ⟨gb, gx⟩
      · have g9 : decide (0 < bb) = false := by rw [← gb]; simp
        by_cases hx0 : xs.length = 0
        case pos =>
          have gx0 : decide ((0 : Int) < (xs.length : Int)) = false := decide_eq_false (by omega)
          have gx1 : decide (0 < xs.length) = false := decide_eq_false (by omega)
          have HX := Lib.hid (HEND.out _ _ _ _ HI.out (by omega) hxl)
          clear hx0
          go_wp2
          go_ret
          exact HX.out
        case neg =>
          have gx0 : decide ((0 : Int) < (xs.length : Int)) = true := decide_eq_true (by omega)
          have gx1 : decide (0 < xs.length) = true := decide_eq_true (by omega)
          have gx2 : 0 < xs.length := by omega
          obtain ⟨⟨⟨s0, b0⟩, m0⟩, hx⟩ : ∃ x, xs[0]? = some x := ⟨xs[0], List.getElem?_eq_getElem gx2⟩
          go_wp2_with (fail)
          (go_at_call 72; refine (pick_any 50 B A (q + 1 + 3 * xs.length) (by omega) (by omega) (by omega) _ HI.out.rd).mono ?_; rintro e w2 ⟨k2, rfl, k20, k21, hrw2, hbw2⟩)
          have H := Lib.hid (HI.out.pick hrw2 hbw2 hB)
          clear hrw2 hbw2
          rcases H.out.row.form with ⟨_, h0⟩ | ⟨g, cap, cur, hv, hg, hg2, hgs, hcap, hmax, hh, hsz, htk, hc⟩
          · rw [h0] at gx2; simp at gx2
          injection hv with hv1 _ hv3
          subst hv1 hv3
          obtain ⟨d0, d1, d2⟩ := hc 0 _ hx
          have df : ∀ o, w2.frozen? ⟨g, o, none⟩ = false := fun o => by simp [World.frozen?, hh]
          have HS2 : Hid (∀ W q' z, DvInv w W B A q' (.slice (some ⟨g, 0, none⟩) xs.length cv) xs → DvInv w (W.setCell ⟨g, 2, none⟩ (.int .i64 z)) B A q' (.slice (some ⟨g, 0, none⟩) xs.length cv) (xs.set 0 ((s0, b0), z))) := fun W q' z hW => hW.store rfl hB hA (by cases xs with
            | nil => simp at hx
            | cons u r => simp at hx; subst hx; rfl) (by simp)
          have HS0 : Hid (∀ W q' z, DvInv w W B A q' (.slice (some ⟨g, 0, none⟩) xs.length cv) xs → DvInv w (W.setCell ⟨g, 0, none⟩ (.int .i64 z)) B A q' (.slice (some ⟨g, 0, none⟩) xs.length cv) (xs.set 0 ((z, b0), m0))) := fun W q' z hW => hW.store rfl hB hA (by cases xs with
            | nil => simp at hx
            | cons u r => simp at hx; subst hx; rfl) (by simp)
          simp only [Nat.zero_mul, Nat.zero_add] at d0 d1 d2
          have hgB : g ≠ B := by omega
          clear hc hh hsz htk hx hx0
          by_cases e0 : k2 = 0
          case pos =>
            subst e0
            go_wp2_with (fail)
            (go_at_call 72; refine (pick_any 2 B A (q + 1 + 3 * xs.length + 1) (by omega) (by omega) (by omega) _ (H.out.rd.alloc _)).mono ?_; rintro e w3 ⟨k3, rfl, k30, k31, hrw3, hbw3⟩)
            have hwB : w2.heap.size ≠ B := by have := H.out.gb.size; omega
            have hn2 := (hbw3.block w2.heap.size (by simp) (by simpa using hwB)).trans (heap_alloc_new w2 _)
            have e4 : w3.cell? ⟨w2.heap.size, k3.toNat, none⟩ = some (.int .i64 (sel3 0 4 0 k3)) := by simp [World.cell?, hn2, sel2_arr k30 k31]
            have Ha : DvInv w (w2.alloc (.cells #[.int .i64 0, .int .i64 4] 3)) B A (q + 1 + 3 * xs.length + 1) (.slice (some ⟨g, 0, none⟩) xs.length cv) xs := ⟨H.out.own.alloc _, H.out.rd.alloc _, gb_alloc H.out.gb _, H.out.blk⟩
            have HA3 := Lib.hid (Ha.pick hrw3 hbw3 hB)
            have f3 : ∀ o, w3.frozen? ⟨g, o, none⟩ = false := fun o => by
              rcases HA3.out.row.form with ⟨h9, _⟩ | ⟨g9, _, cur9, hv9, _, _, _, _, _, hh9, _⟩
              · cases h9
              · injection hv9 with hv9
                injection hv9 with hv9
                injection hv9 with hv9
                subst hv9
                simp [World.frozen?, hh9]
            have c3 : ∃ u, w3.cell? ⟨g, 2, none⟩ = some u := by
              have hb := hbw3.block g (by simp; omega) (fun e => hgB (by injection e))
              exact ⟨.int .i64 m0, by rw [show w3.cell? ⟨g, 2, none⟩ = (w2.alloc (.cells #[.int .i64 0, .int .i64 4] 3)).cell? ⟨g, 2, none⟩ by simp only [World.cell?, hb], World.cell?_alloc_lt _ _ _ hgs]; exact d2⟩
            obtain ⟨u3, c3⟩ := c3
            have HX := Lib.hid (HEND.out _ _ _ _ (HS2.out _ _ (sel3 0 4 0 k3) HA3.out) (by omega) (by simp; exact hxl))
            have hk30 : (0 : Int) ≤ k3 := k30
            clear hn2 Ha hrw3 hbw3
            go_wp2
            go_ret
            exact HX.out
          case neg =>
            have g5 : (k2 == 0) = false := beq_eq_false_iff_ne.2 e0
            have g6 : decide (k2 = 0) = false := decide_eq_false e0
            by_cases e1 : k2 = 1
            case pos =>
              subst e1
              have HX := Lib.hid (HEND.out _ _ _ _ (HS0.out _ _ 21 H.out) (by omega) (by simp; exact hxl))
              go_wp2
              go_ret
              exact HX.out
            case neg =>
              have g7 : (k2 == 1) = false := beq_eq_false_iff_ne.2 e1
              have g8 : decide (k2 = 1) = false := decide_eq_false e1
              have HX := Lib.hid (HEND.out _ _ _ _ H.out (by omega) hxl)
              go_wp2
              go_ret
              exact HX.out
      · have g9 : decide (0 < bb) = true := by rw [← gb]; simp
        have g10 : decide (xs.length < 12) = false := by rw [← gx]; simp; omega
        by_cases hx0 : xs.length = 0
        case pos =>
          have gx0 : decide ((0 : Int) < (xs.length : Int)) = false := decide_eq_false (by omega)
          have gx1 : decide (0 < xs.length) = false := decide_eq_false (by omega)
          have HX := Lib.hid (HEND.out _ _ _ _ HI.out (by omega) hxl)
          clear hx0
          go_wp2
          go_ret
          exact HX.out
        case neg =>
          have gx0 : decide ((0 : Int) < (xs.length : Int)) = true := decide_eq_true (by omega)
          have gx1 : decide (0 < xs.length) = true := decide_eq_true (by omega)
          have gx2 : 0 < xs.length := by omega
          obtain ⟨⟨⟨s0, b0⟩, m0⟩, hx⟩ : ∃ x, xs[0]? = some x := ⟨xs[0], List.getElem?_eq_getElem gx2⟩
          go_wp2_with (fail)
          (go_at_call 72; refine (pick_any 50 B A (q + 1 + 3 * xs.length) (by omega) (by omega) (by omega) _ HI.out.rd).mono ?_; rintro e w2 ⟨k2, rfl, k20, k21, hrw2, hbw2⟩)
          have H := Lib.hid (HI.out.pick hrw2 hbw2 hB)
          clear hrw2 hbw2
          rcases H.out.row.form with ⟨_, h0⟩ | ⟨g, cap, cur, hv, hg, hg2, hgs, hcap, hmax, hh, hsz, htk, hc⟩
          · rw [h0] at gx2; simp at gx2
          injection hv with hv1 _ hv3
          subst hv1 hv3
          obtain ⟨d0, d1, d2⟩ := hc 0 _ hx
          have df : ∀ o, w2.frozen? ⟨g, o, none⟩ = false := fun o => by simp [World.frozen?, hh]
          have HS2 : Hid (∀ W q' z, DvInv w W B A q' (.slice (some ⟨g, 0, none⟩) xs.length cv) xs → DvInv w (W.setCell ⟨g, 2, none⟩ (.int .i64 z)) B A q' (.slice (some ⟨g, 0, none⟩) xs.length cv) (xs.set 0 ((s0, b0), z))) := fun W q' z hW => hW.store rfl hB hA (by cases xs with
            | nil => simp at hx
            | cons u r => simp at hx; subst hx; rfl) (by simp)
          have HS0 : Hid (∀ W q' z, DvInv w W B A q' (.slice (some ⟨g, 0, none⟩) xs.length cv) xs → DvInv w (W.setCell ⟨g, 0, none⟩ (.int .i64 z)) B A q' (.slice (some ⟨g, 0, none⟩) xs.length cv) (xs.set 0 ((z, b0), m0))) := fun W q' z hW => hW.store rfl hB hA (by cases xs with
            | nil => simp at hx
            | cons u r => simp at hx; subst hx; rfl) (by simp)
          simp only [Nat.zero_mul, Nat.zero_add] at d0 d1 d2
          have hgB : g ≠ B := by omega
          clear hc hh hsz htk hx hx0
          by_cases e0 : k2 = 0
          case pos =>
            subst e0
            go_wp2_with (fail)
            (go_at_call 72; refine (pick_any 2 B A (q + 1 + 3 * xs.length + 1) (by omega) (by omega) (by omega) _ (H.out.rd.alloc _)).mono ?_; rintro e w3 ⟨k3, rfl, k30, k31, hrw3, hbw3⟩)
            have hwB : w2.heap.size ≠ B := by have := H.out.gb.size; omega
            have hn2 := (hbw3.block w2.heap.size (by simp) (by simpa using hwB)).trans (heap_alloc_new w2 _)
            have e4 : w3.cell? ⟨w2.heap.size, k3.toNat, none⟩ = some (.int .i64 (sel3 0 4 0 k3)) := by simp [World.cell?, hn2, sel2_arr k30 k31]
            have Ha : DvInv w (w2.alloc (.cells #[.int .i64 0, .int .i64 4] 3)) B A (q + 1 + 3 * xs.length + 1) (.slice (some ⟨g, 0, none⟩) xs.length cv) xs := ⟨H.out.own.alloc _, H.out.rd.alloc _, gb_alloc H.out.gb _, H.out.blk⟩
            have HA3 := Lib.hid (Ha.pick hrw3 hbw3 hB)
            have f3 : ∀ o, w3.frozen? ⟨g, o, none⟩ = false := fun o => by
              rcases HA3.out.row.form with ⟨h9, _⟩ | ⟨g9, _, cur9, hv9, _, _, _, _, _, hh9, _⟩
              · cases h9
              · injection hv9 with hv9
                injection hv9 with hv9
                injection hv9 with hv9
                subst hv9
                simp [World.frozen?, hh9]
            have c3 : ∃ u, w3.cell? ⟨g, 2, none⟩ = some u := by
              have hb := hbw3.block g (by simp; omega) (fun e => hgB (by injection e))
              exact ⟨.int .i64 m0, by rw [show w3.cell? ⟨g, 2, none⟩ = (w2.alloc (.cells #[.int .i64 0, .int .i64 4] 3)).cell? ⟨g, 2, none⟩ by simp only [World.cell?, hb], World.cell?_alloc_lt _ _ _ hgs]; exact d2⟩
            obtain ⟨u3, c3⟩ := c3
            have HX := Lib.hid (HEND.out _ _ _ _ (HS2.out _ _ (sel3 0 4 0 k3) HA3.out) (by omega) (by simp; exact hxl))
            have hk30 : (0 : Int) ≤ k3 := k30
            clear hn2 Ha hrw3 hbw3
            go_wp2
            go_ret
            exact HX.out
          case neg =>
            have g5 : (k2 == 0) = false := beq_eq_false_iff_ne.2 e0
            have g6 : decide (k2 = 0) = false := decide_eq_false e0
            by_cases e1 : k2 = 1
            case pos =>
              subst e1
              have HX := Lib.hid (HEND.out _ _ _ _ (HS0.out _ _ 21 H.out) (by omega) (by simp; exact hxl))
              go_wp2
              go_ret
              exact HX.out
            case neg =>
              have g7 : (k2 == 1) = false := beq_eq_false_iff_ne.2 e1
              have g8 : decide (k2 = 1) = false := decide_eq_false e1
              have HX := Lib.hid (HEND.out _ _ _ _ H.out (by omega) hxl)
              go_wp2
              go_ret
              exact HX.out
    case pos =>
      obtain ⟨g0, g12⟩ := hgo
      have g1 : (0 : Int) < (bb : Int) := by omega
      have g2 : decide ((xs.length : Int) < 12) = true := decide_eq_true (by omega)
      by_cases h3 : 3 ≤ bb
      case pos =>
        go_wp2_with (fail)
        (go_at_call 72; refine (pick_any 3 B A (q + 1 + 3 * xs.length) (by omega) (by omega) (by omega) _ HI.out.rd).mono ?_; rintro e w2 ⟨k2, rfl, k20, k21, hrw2, hbw2⟩)
        have H := Lib.hid (HI.out.pick hrw2 hbw2 hB)
        clear hrw2 hbw2
        obtain ⟨nb, hnb⟩ : ∃ nb : Nat, 1 + k2 = (nb : Int) := ⟨(1 + k2).toNat, by omega⟩
        have wn : IntKind.i64.wrap (1 + k2) = (nb : Int) := by rw [IntWalk.i64_in _ (by omega)]; exact hnb
        have nb1 : 1 ≤ nb ∧ nb ≤ 3 ∧ nb ≤ bb := by omega
        have wbb : IntKind.i64.wrap ((bb : Int) - (nb : Int)) = ((bb - nb : Nat) : Int) := by rw [IntWalk.i64_in _ (by omega)]; omega
        clear hnb k20 k21
        have HLt := Lib.hid (l1Letter_any s (by omega))
        go_wp2_with (fail)
        (go_at_call 93; refine (HLt.out _).mono ?_; rintro e wx ⟨rfl, rfl⟩)
        by_cases hlt : s % 7 = 2
        case pos =>
          have gl : (s % 7 == 2) = true := beq_iff_eq.2 hlt
          go_wp2_with (fail)
          (go_at_call 72; refine (pick_any 3 B A (q + 1 + 3 * xs.length + 1) (by omega) (by omega) (by omega) _ H.out.rd).mono ?_; rintro e w3 ⟨k3, rfl, k30, k31, hrw3, hbw3⟩)
          have H := Lib.hid (H.out.pick hrw3 hbw3 hB)
          clear hrw3 hbw3
          have hown := H.out.own
          have hwz := H.out.gb.size
          go_wp2_with (at_builtin; refine wpList_append_own _ rfl _ _ 26 rfl w.heap.size 49 i0 (.agg #[.int .i64 0, .bool false, .int .i64 0]) 3 24 Tryd.underlying26 hi0 hq0 hq1 hq2 rfl (by decide) _ _ _ rfl (hown.alloc _) ⟨w3.heap.size, 0, none⟩ 1 1 [.int .i64 s, .bool (k3 == 0), .int .i64 (nb : Int)] rfl rfl ?c1 news3_one ?c3 ?c4 ?c5 ?_)
          case c1 => first | exact news3 | exact news3c rfl
          case c3 => unfold maxLen; omega
          case c4 => omega
          case c5 => first | omega | (simp; omega)
          intro v' w4 hown' hgrow _
          have H4 := Lib.hid (H.out.app hB hA hown' hgrow)
          clear hown' hgrow hown
          have H := H4
          have hzz : xs.length ≤ 12 := by omega
          go_wp2_with (fail)
          (go_at_call 72; refine (pick_any 5 B A (q + 1 + 3 * xs.length + 2) (by omega) (by omega) (by omega) _ (H.out.rd.more (by omega))).mono ?_; rintro e w5 ⟨k5, rfl, k50, k51, hrw5, hbw5⟩)
          have H5 := Lib.hid (H.out.pick hrw5 hbw5 hB)
          clear hrw5 hbw5
          obtain ⟨z, hz⟩ : ∃ z, s + k5 - 2 = z := ⟨_, rfl⟩
          have wa : IntKind.i64.wrap (s + k5) = s + k5 := IntWalk.i64_in _ (by omega)
          have wb : IntKind.i64.wrap (s + k5 - 2) = z := by rw [IntWalk.i64_in _ (by omega)]; exact hz
          have hlen2 : (xs ++ [((s, (k3 == 0)), (nb : Int))]).length = xs.length + 1 := by simp
          have HR : Hid (DvInv w w5 B A (q + 1 + 3 * (xs ++ [((s, (k3 == 0)), (nb : Int))]).length) v' (xs ++ [((s, (k3 == 0)), (nb : Int))])) := by
            rw [hlen2]
            have h9 := H5.out
            exact ⟨h9.own, h9.rd.more (by omega), h9.gb, h9.blk⟩
          clear hz
          by_cases hA1 : 16 ≤ z
          case pos =>
            have gz : decide ((16 : Int) ≤ z) = true := decide_eq_true hA1
            have gz2 : decide (z ≤ 16) = decide (z = 16) := by by_cases e : z = 16 <;> simp [e] <;> omega
            go_wp2
            go_roundw
            case rel => exact ⟨bb - nb, 16, xs ++ [((s, (k3 == 0)), (nb : Int))], by first | rfl | (congr 1; omega), by omega, by first | rfl | (congr 1; omega), by omega, by omega, by simp; omega, HR.out⟩
            case measure => simp [intOf]; omega
          case neg =>
            by_cases hA2 : z ≤ 1
            case pos =>
              have gz : decide ((16 : Int) ≤ z) = false := decide_eq_false hA1
              have gz2 : decide (z ≤ 16) = true := decide_eq_true (by omega)
              have gz3 : decide ((1 : Int) ≤ z) = decide (z = 1) := by by_cases e : z = 1 <;> simp [e] <;> omega
              go_wp2
              go_roundw
              case rel => exact ⟨bb - nb, 1, xs ++ [((s, (k3 == 0)), (nb : Int))], by first | rfl | (congr 1; omega), by omega, by first | rfl | (congr 1; omega), by omega, by omega, by simp; omega, HR.out⟩
              case measure => simp [intOf]; omega
            case neg =>
              have gz : decide ((16 : Int) ≤ z) = false := decide_eq_false hA1
              have gz2 : decide (z ≤ 16) = true := decide_eq_true (by omega)
              have gz3 : decide ((1 : Int) ≤ z) = true := decide_eq_true (by omega)
              have gz4 : decide (z ≤ 1) = false := decide_eq_false hA2
              go_wp2
              go_roundw
              case rel => exact ⟨bb - nb, z, xs ++ [((s, (k3 == 0)), (nb : Int))], by first | rfl | (congr 1; omega), by omega, by first | rfl | (congr 1; omega), by omega, by omega, by simp; omega, HR.out⟩
              case measure => simp [intOf]; omega
        case neg =>
          have gl : (s % 7 == 2) = false := beq_eq_false_iff_ne.2 hlt
          have gl2 : decide (s % 7 = 2) = false := decide_eq_false hlt
          have hown := H.out.own
          have hwz := H.out.gb.size
          go_wp2_with (at_builtin; refine wpList_append_own _ rfl _ _ 26 rfl w.heap.size 49 i0 (.agg #[.int .i64 0, .bool false, .int .i64 0]) 3 24 Tryd.underlying26 hi0 hq0 hq1 hq2 rfl (by decide) _ _ _ rfl (hown.alloc _) ⟨w2.heap.size, 0, none⟩ 1 1 [.int .i64 s, .bool false, .int .i64 (nb : Int)] rfl rfl ?c1 news3_one ?c3 ?c4 ?c5 ?_)
          case c1 => first | exact news3 | exact news3c rfl
          case c3 => unfold maxLen; omega
          case c4 => omega
          case c5 => first | omega | (simp; omega)
          intro v' w4 hown' hgrow _
          have H4 := Lib.hid (H.out.app hB hA hown' hgrow)
          clear hown' hgrow hown
          have H := H4
          have hzz : xs.length ≤ 12 := by omega
          go_wp2_with (fail)
          (go_at_call 72; refine (pick_any 5 B A (q + 1 + 3 * xs.length + 2) (by omega) (by omega) (by omega) _ (H.out.rd.more (by omega))).mono ?_; rintro e w5 ⟨k5, rfl, k50, k51, hrw5, hbw5⟩)
          have H5 := Lib.hid (H.out.pick hrw5 hbw5 hB)
          clear hrw5 hbw5
          obtain ⟨z, hz⟩ : ∃ z, s + k5 - 2 = z := ⟨_, rfl⟩
          have wa : IntKind.i64.wrap (s + k5) = s + k5 := IntWalk.i64_in _ (by omega)
          have wb : IntKind.i64.wrap (s + k5 - 2) = z := by rw [IntWalk.i64_in _ (by omega)]; exact hz
          have hlen2 : (xs ++ [((s, false), (nb : Int))]).length = xs.length + 1 := by simp
          have HR : Hid (DvInv w w5 B A (q + 1 + 3 * (xs ++ [((s, false), (nb : Int))]).length) v' (xs ++ [((s, false), (nb : Int))])) := by
            rw [hlen2]
            have h9 := H5.out
            exact ⟨h9.own, h9.rd.more (by omega), h9.gb, h9.blk⟩
          clear hz
          by_cases hA1 : 16 ≤ z
          case pos =>
            have gz : decide ((16 : Int) ≤ z) = true := decide_eq_true hA1
            have gz2 : decide (z ≤ 16) = decide (z = 16) := by by_cases e : z = 16 <;> simp [e] <;> omega
            go_wp2
            go_roundw
            case rel => exact ⟨bb - nb, 16, xs ++ [((s, false), (nb : Int))], by first | rfl | (congr 1; omega), by omega, by first | rfl | (congr 1; omega), by omega, by omega, by simp; omega, HR.out⟩
            case measure => simp [intOf]; omega
          case neg =>
            by_cases hA2 : z ≤ 1
            case pos =>
              have gz : decide ((16 : Int) ≤ z) = false := decide_eq_false hA1
              have gz2 : decide (z ≤ 16) = true := decide_eq_true (by omega)
              have gz3 : decide ((1 : Int) ≤ z) = decide (z = 1) := by by_cases e : z = 1 <;> simp [e] <;> omega
              go_wp2
              go_roundw
              case rel => exact ⟨bb - nb, 1, xs ++ [((s, false), (nb : Int))], by first | rfl | (congr 1; omega), by omega, by first | rfl | (congr 1; omega), by omega, by omega, by simp; omega, HR.out⟩
              case measure => simp [intOf]; omega
            case neg =>
              have gz : decide ((16 : Int) ≤ z) = false := decide_eq_false hA1
              have gz2 : decide (z ≤ 16) = true := decide_eq_true (by omega)
              have gz3 : decide ((1 : Int) ≤ z) = true := decide_eq_true (by omega)
              have gz4 : decide (z ≤ 1) = false := decide_eq_false hA2
              go_wp2
              go_roundw
              case rel => exact ⟨bb - nb, z, xs ++ [((s, false), (nb : Int))], by first | rfl | (congr 1; omega), by omega, by first | rfl | (congr 1; omega), by omega, by omega, by simp; omega, HR.out⟩
              case measure => simp [intOf]; omega
      case neg =>
        have h3n : decide (3 ≤ bb) = false := decide_eq_false h3
        have h3m : (bb : Int) ≤ 3 := by omega
        have h3z : decide ((3 : Int) ≤ (bb : Int)) = false := decide_eq_false (by omega)
        go_wp2_with (fail)
        (go_at_call 72; refine (pick_any (bb : Int) B A (q + 1 + 3 * xs.length) (by omega) (by omega) (by omega) _ HI.out.rd).mono ?_; rintro e w2 ⟨k2, rfl, k20, k21, hrw2, hbw2⟩)
        have H := Lib.hid (HI.out.pick hrw2 hbw2 hB)
        clear hrw2 hbw2
        obtain ⟨nb, hnb⟩ : ∃ nb : Nat, 1 + k2 = (nb : Int) := ⟨(1 + k2).toNat, by omega⟩
        have wn : IntKind.i64.wrap (1 + k2) = (nb : Int) := by rw [IntWalk.i64_in _ (by omega)]; exact hnb
        have nb1 : 1 ≤ nb ∧ nb ≤ 3 ∧ nb ≤ bb := by omega
        have wbb : IntKind.i64.wrap ((bb : Int) - (nb : Int)) = ((bb - nb : Nat) : Int) := by rw [IntWalk.i64_in _ (by omega)]; omega
        clear hnb k20 k21
        have HLt := Lib.hid (l1Letter_any s (by omega))
        go_wp2_with (fail)
        (go_at_call 93; refine (HLt.out _).mono ?_; rintro e wx ⟨rfl, rfl⟩)
        by_cases hlt : s % 7 = 2
        case pos =>
          have gl : (s % 7 == 2) = true := beq_iff_eq.2 hlt
          go_wp2_with (fail)
          (go_at_call 72; refine (pick_any 3 B A (q + 1 + 3 * xs.length + 1) (by omega) (by omega) (by omega) _ H.out.rd).mono ?_; rintro e w3 ⟨k3, rfl, k30, k31, hrw3, hbw3⟩)
          have H := Lib.hid (H.out.pick hrw3 hbw3 hB)
          clear hrw3 hbw3
          have hown := H.out.own
          have hwz := H.out.gb.size
          go_wp2_with (at_builtin; refine wpList_append_own _ rfl _ _ 26 rfl w.heap.size 49 i0 (.agg #[.int .i64 0, .bool false, .int .i64 0]) 3 24 Tryd.underlying26 hi0 hq0 hq1 hq2 rfl (by decide) _ _ _ rfl (hown.alloc _) ⟨w3.heap.size, 0, none⟩ 1 1 [.int .i64 s, .bool (k3 == 0), .int .i64 (nb : Int)] rfl rfl ?c1 news3_one ?c3 ?c4 ?c5 ?_)
          case c1 => first | exact news3 | exact news3c rfl
          case c3 => unfold maxLen; omega
          case c4 => omega
          case c5 => first | omega | (simp; omega)
          intro v' w4 hown' hgrow _
          have H4 := Lib.hid (H.out.app hB hA hown' hgrow)
          clear hown' hgrow hown
          have H := H4
          have hzz : xs.length ≤ 12 := by omega
          go_wp2_with (fail)
          (go_at_call 72; refine (pick_any 5 B A (q + 1 + 3 * xs.length + 2) (by omega) (by omega) (by omega) _ (H.out.rd.more (by omega))).mono ?_; rintro e w5 ⟨k5, rfl, k50, k51, hrw5, hbw5⟩)
          have H5 := Lib.hid (H.out.pick hrw5 hbw5 hB)
          clear hrw5 hbw5
          obtain ⟨z, hz⟩ : ∃ z, s + k5 - 2 = z := ⟨_, rfl⟩
          have wa : IntKind.i64.wrap (s + k5) = s + k5 := IntWalk.i64_in _ (by omega)
          have wb : IntKind.i64.wrap (s + k5 - 2) = z := by rw [IntWalk.i64_in _ (by omega)]; exact hz
          have hlen2 : (xs ++ [((s, (k3 == 0)), (nb : Int))]).length = xs.length + 1 := by simp
          have HR : Hid (DvInv w w5 B A (q + 1 + 3 * (xs ++ [((s, (k3 == 0)), (nb : Int))]).length) v' (xs ++ [((s, (k3 == 0)), (nb : Int))])) := by
            rw [hlen2]
            have h9 := H5.out
            exact ⟨h9.own, h9.rd.more (by omega), h9.gb, h9.blk⟩
          clear hz
          by_cases hA1 : 16 ≤ z
          case pos =>
            have gz : decide ((16 : Int) ≤ z) = true := decide_eq_true hA1
            have gz2 : decide (z ≤ 16) = decide (z = 16) := by by_cases e : z = 16 <;> simp [e] <;> omega
            go_wp2
            go_roundw
            case rel => exact ⟨bb - nb, 16, xs ++ [((s, (k3 == 0)), (nb : Int))], by first | rfl | (congr 1; omega), by omega, by first | rfl | (congr 1; omega), by omega, by omega, by simp; omega, HR.out⟩
            case measure => simp [intOf]; omega
          case neg =>
            by_cases hA2 : z ≤ 1
            case pos =>
              have gz : decide ((16 : Int) ≤ z) = false := decide_eq_false hA1
              have gz2 : decide (z ≤ 16) = true := decide_eq_true (by omega)
              have gz3 : decide ((1 : Int) ≤ z) = decide (z = 1) := by by_cases e : z = 1 <;> simp [e] <;> omega
              go_wp2
              go_roundw
              case rel => exact ⟨bb - nb, 1, xs ++ [((s, (k3 == 0)), (nb : Int))], by first | rfl | (congr 1; omega), by omega, by first | rfl | (congr 1; omega), by omega, by omega, by simp; omega, HR.out⟩
              case measure => simp [intOf]; omega
            case neg =>
              have gz : decide ((16 : Int) ≤ z) = false := decide_eq_false hA1
              have gz2 : decide (z ≤ 16) = true := decide_eq_true (by omega)
              have gz3 : decide ((1 : Int) ≤ z) = true := decide_eq_true (by omega)
              have gz4 : decide (z ≤ 1) = false := decide_eq_false hA2
              go_wp2
              go_roundw
              case rel => exact ⟨bb - nb, z, xs ++ [((s, (k3 == 0)), (nb : Int))], by first | rfl | (congr 1; omega), by omega, by first | rfl | (congr 1; omega), by omega, by omega, by simp; omega, HR.out⟩
              case measure => simp [intOf]; omega
        case neg =>
          have gl : (s % 7 == 2) = false := beq_eq_false_iff_ne.2 hlt
          have gl2 : decide (s % 7 = 2) = false := decide_eq_false hlt
          have hown := H.out.own
          have hwz := H.out.gb.size
          go_wp2_with (at_builtin; refine wpList_append_own _ rfl _ _ 26 rfl w.heap.size 49 i0 (.agg #[.int .i64 0, .bool false, .int .i64 0]) 3 24 Tryd.underlying26 hi0 hq0 hq1 hq2 rfl (by decide) _ _ _ rfl (hown.alloc _) ⟨w2.heap.size, 0, none⟩ 1 1 [.int .i64 s, .bool false, .int .i64 (nb : Int)] rfl rfl ?c1 news3_one ?c3 ?c4 ?c5 ?_)
          case c1 => first | exact news3 | exact news3c rfl
          case c3 => unfold maxLen; omega
          case c4 => omega
          case c5 => first | omega | (simp; omega)
          intro v' w4 hown' hgrow _
          have H4 := Lib.hid (H.out.app hB hA hown' hgrow)
          clear hown' hgrow hown
          have H := H4
          have hzz : xs.length ≤ 12 := by omega
          go_wp2_with (fail)
          (go_at_call 72; refine (pick_any 5 B A (q + 1 + 3 * xs.length + 2) (by omega) (by omega) (by omega) _ (H.out.rd.more (by omega))).mono ?_; rintro e w5 ⟨k5, rfl, k50, k51, hrw5, hbw5⟩)
          have H5 := Lib.hid (H.out.pick hrw5 hbw5 hB)
          clear hrw5 hbw5
          obtain ⟨z, hz⟩ : ∃ z, s + k5 - 2 = z := ⟨_, rfl⟩
          have wa : IntKind.i64.wrap (s + k5) = s + k5 := IntWalk.i64_in _ (by omega)
          have wb : IntKind.i64.wrap (s + k5 - 2) = z := by rw [IntWalk.i64_in _ (by omega)]; exact hz
          have hlen2 : (xs ++ [((s, false), (nb : Int))]).length = xs.length + 1 := by simp
          have HR : Hid (DvInv w w5 B A (q + 1 + 3 * (xs ++ [((s, false), (nb : Int))]).length) v' (xs ++ [((s, false), (nb : Int))])) := by
            rw [hlen2]
            have h9 := H5.out
            exact ⟨h9.own, h9.rd.more (by omega), h9.gb, h9.blk⟩
          clear hz
          by_cases hA1 : 16 ≤ z
          case pos =>
            have gz : decide ((16 : Int) ≤ z) = true := decide_eq_true hA1
            have gz2 : decide (z ≤ 16) = decide (z = 16) := by by_cases e : z = 16 <;> simp [e] <;> omega
            go_wp2
            go_roundw
            case rel => exact ⟨bb - nb, 16, xs ++ [((s, false), (nb : Int))], by first | rfl | (congr 1; omega), by omega, by first | rfl | (congr 1; omega), by omega, by omega, by simp; omega, HR.out⟩
            case measure => simp [intOf]; omega
          case neg =>
            by_cases hA2 : z ≤ 1
            case pos =>
              have gz : decide ((16 : Int) ≤ z) = false := decide_eq_false hA1
              have gz2 : decide (z ≤ 16) = true := decide_eq_true (by omega)
              have gz3 : decide ((1 : Int) ≤ z) = decide (z = 1) := by by_cases e : z = 1 <;> simp [e] <;> omega
              go_wp2
              go_roundw
              case rel => exact ⟨bb - nb, 1, xs ++ [((s, false), (nb : Int))], by first | rfl | (congr 1; omega), by omega, by first | rfl | (congr 1; omega), by omega, by omega, by simp; omega, HR.out⟩
              case measure => simp [intOf]; omega
            case neg =>
              have gz : decide ((16 : Int) ≤ z) = false := decide_eq_false hA1
              have gz2 : decide (z ≤ 16) = true := decide_eq_true (by omega)
              have gz3 : decide ((1 : Int) ≤ z) = true := decide_eq_true (by omega)
              have gz4 : decide (z ≤ 1) = false := decide_eq_false hA2
              go_wp2
              go_roundw
              case rel => exact ⟨bb - nb, z, xs ++ [((s, false), (nb : Int))], by first | rfl | (congr 1; omega), by omega, by first | rfl | (congr 1; omega), by omega, by omega, by simp; omega, HR.out⟩
              case measure => simp [intOf]; omega

end Go.Proofs.YticapinlnlpbpaaDoor

namespace Go.Proofs.YticapinlnlpbpaaDoor
open Go.RowKit
set_option maxRecDepth 100000
set_option linter.unusedVariables false

def sel6 (k : Int) : Int := if k = 0 then 4 else if k = 1 then 4 else if k = 2 then 3 else if k = 3 then 7 else if k = 4 then 0 else 2
theorem sel6_arr {k : Int} (h0 : 0 ≤ k) (h1 : k < 6) : (#[.int .i64 4, .int .i64 4, .int .i64 3, .int .i64 7, .int .i64 0, .int .i64 2] : Array Value)[k.toNat]? = some (.int .i64 (sel6 k)) := by
  have : k = 0 ∨ k = 1 ∨ k = 2 ∨ k = 3 ∨ k = 4 ∨ k = 5 := by omega
  rcases this with rfl | rfl | rfl | rfl | rfl | rfl <;> rfl
theorem vcs_setA {xs : List Vc} {i : Nat} {s : Int} {b : Bool} {m : Int} (h : xs[i]? = some ((s, b), m)) (z : Int) : vcs (xs.set i ((z, b), m)) = (vcs xs).set (i * 3) (.int .i64 z) := by
  induction xs generalizing i with
  | nil => simp at h
  | cons u r ih =>
    cases i with
    | zero => simp at h; subst h; rfl
    | succ j =>
      have := ih (i := j) (by simpa using h)
      rw [show (j + 1) * 3 = (j * 3) + 1 + 1 + 1 by omega]
      simp [vcs, this]
theorem vcs_setB {xs : List Vc} {i : Nat} {s : Int} {b : Bool} {m : Int} (h : xs[i]? = some ((s, b), m)) (c : Bool) : vcs (xs.set i ((s, c), m)) = (vcs xs).set (i * 3 + 1) (.bool c) := by
  induction xs generalizing i with
  | nil => simp at h
  | cons u r ih =>
    cases i with
    | zero => simp at h; subst h; rfl
    | succ j =>
      have := ih (i := j) (by simpa using h)
      rw [show (j + 1) * 3 + 1 = (j * 3 + 1) + 1 + 1 + 1 by omega]
      simp [vcs, this]
/-- two lists of voices of a draw, and the reader's block -/
def DiPicked (B : Nat) (w : World) (e : Ending) (w' : World) : Prop :=
  ∃ (v u : Value) (xs ys : List Vc), e = .returned (.tuple #[v, u]) ∧ VV w' v xs ∧ VV w' u ys ∧ xs.length ≤ 12 ∧ ys.length ≤ 12 ∧ w.grownBy w' (some B)

theorem vrow_gb {w w' : World} {lo hi B : Nat} {v : Value} {xs : List Vc} (h : VRow w lo hi v xs) (hg : w.grownBy w' (some B)) (hB : B < lo) : VRow w' lo hi v xs :=
  h.keep fun k h1 h2 h3 => hg.block k h1 (fun e => by injection e; omega)

set_option maxHeartbeats 4000000 in
theorem l92Discant_any (B A q : Nat) (hq : q ≤ 800000) (w : World) (h : Rd w B A q) :
    Calls Tryd.prog 61 #[.pointer (some ⟨B, 0, none⟩)] w (DiPicked B w) := by
  obtain ⟨i0, hi0, hq0, hq1, hq2⟩ := info_parts infoVb
  have hB := h.lt
  have hA := h.ltA
  go_enter Tryd.func61, Tryd.ntmps61
  go_wp2_with (fail)
  (go_at_call 72; refine (pick_any 12 B A q (by omega) (by omega) (by omega) _ h).mono ?_; rintro e w1 ⟨k1, rfl, h10, h11, hr1, hb1⟩)
  obtain ⟨n1, rfl⟩ : ∃ q : Nat, k1 = (q : Int) := ⟨k1.toNat, by omega⟩
  have hz1 := hb1.size
  go_wp2_with (fail)
  (go_at_call 71; refine (l92Part_any B A (q + 1) n1 (by omega) (by omega) _ hr1).mono ?_; rintro e w2 ⟨va, xs, rfl, hda, hxl⟩)
  have HDA := Lib.hid hda
  have HG2 := Lib.hid (gb_step hb1 hda.gb)
  have hz2 := hda.gb.size
  clear hr1 hb1 hda
  go_wp2_with (fail)
  (go_at_call 72; refine (pick_any 2 B A (q + 1 + 40) (by omega) (by omega) (by omega) _ HDA.out.rd).mono ?_; rintro e w3 ⟨k3, rfl, h30, h31, hr3, hb3⟩)
  have H3 := Lib.hid (HDA.out.pick hr3 hb3 (by omega))
  have HG3 := Lib.hid (gb_step HG2.out hb3)
  have hz3 := hb3.size
  clear hr3 hb3
  by_cases e3 : k3 = 0
  case neg =>
    have g3 : (k3 == 0) = false := beq_eq_false_iff_ne.2 e3
    have g3d : decide (k3 = 0) = false := decide_eq_false e3
    go_wp2_with (fail)
    (go_at_call 72; refine (pick_any 8 B A (q + 1 + 40 + 1) (by omega) (by omega) (by omega) _ H3.out.rd).mono ?_; rintro e w4 ⟨k4, rfl, h40, h41, hr4, hb4⟩)
    have H4 := Lib.hid (H3.out.pick hr4 hb4 (by omega))
    have HG4 := Lib.hid (gb_step HG3.out hb4)
    have hz4 := hb4.size
    clear hr4 hb4
    by_cases e4 : k4 = 0
    case pos =>
      subst e4
      have wn : IntKind.i64.wrap ((n1 : Int) + 1) = ((n1 + 1 : Nat) : Int) := by rw [IntWalk.i64_in _ (by omega)]; omega
      have HP := Lib.hid (l92Part_any B A (q + 1 + 40 + 2) (n1 + 1) (by omega) (by omega) _ (H4.out.rd.more (by omega)))
      rw [show ((n1 + 1 : Nat) : Int) = (n1 : Int) + 1 by omega] at HP wn
      go_wp2_with (fail)
      (go_at_call 71; refine (HP.out).mono ?_; rintro e w5 ⟨vb, ys, rfl, hdb, hyl⟩)
      have HV := Lib.hid (vrow_gb H4.out.row hdb.gb (by omega)).view
      have HU := Lib.hid hdb.row.view
      have HE := Lib.hid (gb_step HG4.out hdb.gb)
      clear hdb
      go_wp2
      go_ret2
      exact ⟨va, vb, xs, ys, rfl, HV.out, HU.out, hxl, hyl, HE.out⟩
    case neg =>
      have g4 : (k4 == 0) = false := beq_eq_false_iff_ne.2 e4
      have g4d : decide (k4 = 0) = false := decide_eq_false e4
      have HP := Lib.hid (l92Part_any B A (q + 1 + 40 + 2) n1 (by omega) (by omega) _ (H4.out.rd.more (by omega)))
      go_wp2_with (fail)
      (go_at_call 71; refine (HP.out).mono ?_; rintro e w5 ⟨vb, ys, rfl, hdb, hyl⟩)
      have HV := Lib.hid (vrow_gb H4.out.row hdb.gb (by omega)).view
      have HU := Lib.hid hdb.row.view
      have HE := Lib.hid (gb_step HG4.out hdb.gb)
      clear hdb
      go_wp2
      go_ret2
      exact ⟨va, vb, xs, ys, rfl, HV.out, HU.out, hxl, hyl, HE.out⟩
  case pos =>
    subst e3
    obtain ⟨ga, hga⟩ := H3.out.blk
    rcases H3.out.row.form with ⟨hnil, _⟩ | ⟨g, cap, cur, hv, hg, hg2, hgs, hcap, hmax, hh, hsz, htk, hc⟩
    · rw [hnil] at hga; simp [Value.ownBlock] at hga
    subst hv
    have HS : Hid (DvInv w3 (w3.alloc (.cells #[] 49)) B A (q + 1 + 40 + 1) (.slice (some ⟨w3.heap.size, 0, none⟩) 0 0) []) := ⟨(VbInv.start w3).own, H3.out.rd.alloc _, gb_alloc (gb_refl _ _) _, ⟨_, rfl⟩⟩
    have hown := HS.out.own
    go_wp2_with (at_builtin; refine wpList_append_own _ rfl _ _ 26 rfl w3.heap.size 49 i0 (.agg #[.int .i64 0, .bool false, .int .i64 0]) 3 24 Tryd.underlying26 hi0 hq0 hq1 hq2 rfl (by decide) _ _ _ rfl hown ⟨g, 0, none⟩ xs.length cap (vcs xs) rfl (vcs_len xs) ?c1 (vcs_one xs) ?c3 ?c4 ?c5 ?_)
    case c1 =>
      intro j u hj
      have hlt : j < xs.length * 3 := by
        rcases List.getElem?_eq_some_iff.1 hj with ⟨h9, _⟩
        rw [vcs_len] at h9
        exact h9
      have e : (cur.toList.take (xs.length * 3))[j]? = some u := by rw [htk]; exact hj
      rw [List.getElem?_take_of_lt hlt, Array.getElem?_toList] at e
      rw [Go.WideShapes.add_plain, Nat.zero_add, World.cell?_alloc_lt _ _ _ hgs]
      simp [World.cell?, hh, e]
    case c3 => unfold maxLen; simp; omega
    case c4 => simp; omega
    case c5 => simp
    intro vb w4 hown' hgrow hne
    have HI0 : Hid (DvInv w3 w4 B A (q + 1 + 40 + 1) vb xs) := by
      refine ⟨hown', HS.out.rd.grown hgrow (fun e => by simp [Value.ownBlock] at e; omega) (fun e => by simp [Value.ownBlock] at e; omega), gb_own (gb_refl w3 B) hgrow (fun g9 e => by simp [Value.ownBlock] at e; omega), ?_⟩
      obtain ⟨_, h0 | ⟨g9, cap9, cur9, hv9, _⟩⟩ := hown'
      · exact absurd h0.1 hne
      · exact ⟨g9, by rw [hv9]; rfl⟩
    obtain ⟨g8, cap8, rfl⟩ : ∃ g8 cap8, vb = .slice (some ⟨g8, 0, none⟩) xs.length cap8 := by
      obtain ⟨_, h0 | ⟨g9, cap9, cur9, hv9, _⟩⟩ := hown'
      · exact absurd h0.1 hne
      · exact ⟨g9, cap9, by simpa using hv9⟩
    clear hown' hgrow hown hne hc htk hsz hh HS hga
    go_wp2
    go_loopw [7] (fun i wr => ∃ (j : Nat) (ys : List Vc), j ≤ xs.length ∧ i = .int .i64 (j : Int) ∧ ys.length = xs.length ∧ DvInv w3 wr B A (q + 1 + 40 + 1 + j) (.slice (some ⟨g8, 0, none⟩) xs.length cap8) ys) (fun i _ => xs.length - (intOf i).toNat)
    case atStart => exact ⟨0, xs, by omega, rfl, rfl, HI0.out⟩
    case round =>
      obtain ⟨j, ys, hj, rfl, hly, hI⟩ := hrel
      have HI := Lib.hid hI
      have HLY := Lib.hid hly
      have hzr := hI.gb.size
      by_cases hlj : j < xs.length
      · obtain ⟨⟨⟨s, b⟩, m⟩, hx⟩ : ∃ x, ys[j]? = some x := ⟨ys[j]'(by omega), List.getElem?_eq_getElem (by omega)⟩
        clear hI hly HI0
        go_wp2_with (fail)
        (go_at_call 72; refine (pick_any 6 B A (q + 1 + 40 + 1 + j) (by omega) (by omega) (by omega) _ (HI.out.rd.alloc _)).mono ?_; rintro e w6 ⟨k6, rfl, h60, h61, hr6, hb6⟩)
        have hwB : wr.heap.size ≠ B := by omega
        have hn6 := (hb6.block wr.heap.size (by simp) (by simpa using hwB)).trans (heap_alloc_new wr _)
        have e4 : w6.cell? ⟨wr.heap.size, k6.toNat, none⟩ = some (.int .i64 (sel6 k6)) := by simp [World.cell?, hn6, sel6_arr h60 h61]
        have Ha : DvInv w3 (wr.alloc (.cells #[.int .i64 4, .int .i64 4, .int .i64 3, .int .i64 7, .int .i64 0, .int .i64 2] 3)) B A (q + 1 + 40 + 1 + j) (.slice (some ⟨g8, 0, none⟩) xs.length cap8) ys := ⟨HI.out.own.alloc _, HI.out.rd.alloc _, gb_alloc HI.out.gb _, ⟨_, rfl⟩⟩
        have H6 := Lib.hid (Ha.pick hr6 hb6 (by omega))
        have hk60 : (0 : Int) ≤ k6 := h60
        clear hn6 Ha hr6 hb6
        rcases H6.out.row.form with ⟨hnil, _⟩ | ⟨g5, cap5, cur5, hv5, hg5, hg52, hgs5, hcap5, hmax5, hh5, hsz5, htk5, hc5⟩
        · cases hnil
        injection hv5 with hv51 hv52 hv53
        injection hv51 with hv51
        injection hv51 with hv51
        subst hv51 hv53
        clear hv52
        obtain ⟨d0, d1, d2⟩ := hc5 j _ hx
        simp only at d0 d1
        have df : ∀ o, w6.frozen? ⟨g8, o, none⟩ = false := fun o => by simp [World.frozen?, hh5]
        have HSTORE : Hid (∀ z : Int, DvInv w3 ((w6.setCell ⟨g8, j * 3, none⟩ (.int .i64 z)).setCell ⟨g8, j * 3 + 1, none⟩ (.bool false)) B A (q + 1 + 40 + 1 + (j + 1)) (.slice (some ⟨g8, 0, none⟩) xs.length cap8) ((ys.set j ((z, b), m)).set j ((z, false), m))) := fun z => by
          have hlt : j < ys.length := by have := HLY.out; omega
          have s1 := H6.out.store (ys := ys.set j ((z, b), m)) (g := g8) (i := j * 3) (u := .int .i64 z) rfl (by omega) (by omega) (vcs_setA hx z) (by simp)
          have s2 := s1.store (ys := (ys.set j ((z, b), m)).set j ((z, false), m)) (g := g8) (i := j * 3 + 1) (u := .bool false) rfl (by omega) (by omega) (vcs_setB (List.getElem?_set_self hlt) false) (by simp)
          exact ⟨s2.own, s2.rd.more (by omega), s2.gb, s2.blk⟩
        have hj0 : (0 : Int) ≤ (j : Int) := by omega
        have hj1 : (j : Int) < (xs.length : Int) := by omega
        clear hc5 hh5 hsz5 htk5 hcap5 hmax5 hx
        rcases Int.lt_trichotomy s 0 with hs | rfl | hs
        · have b1 : decide ((0 : Int) ≤ s) = false := decide_eq_false (by omega)
          have b2 : decide (s ≤ 0) = true := decide_eq_true (by omega)
          have b3 : decide ((0 : Int) < s) = false := decide_eq_false (by omega)
          have b4 : decide (s < 0) = true := decide_eq_true hs
          obtain ⟨y, hy⟩ : ∃ y, IntKind.i64.wrap ((0 : Int) + sel6 k6) = y := ⟨_, rfl⟩
          obtain ⟨kk, hkk⟩ : ∃ kk, sel6 k6 = kk := ⟨_, rfl⟩
          rw [hkk] at hy e4
          clear hkk
          have hy0 : IntKind.i64.wrap kk = y := by rw [← hy, Int.zero_add]
          rcases Int.lt_trichotomy y 20 with hc | rfl | hc
          · have c1 : decide ((20 : Int) ≤ y) = false := decide_eq_false (by omega)
            have c2 : decide (y ≤ 20) = true := decide_eq_true (by omega)
            have c3 : decide ((20 : Int) < y) = false := decide_eq_false (by omega)
            have c4 : decide (y < 20) = true := decide_eq_true hc
            have HX := Lib.hid (HSTORE.out y)
            go_wp2
            go_roundw
            case rel => exact ⟨j + 1, _, by omega, by first | rfl | go_num, by simp; exact HLY.out, HX.out⟩
            case measure => simp [intOf]; omega
          · skip
            have HX := Lib.hid (HSTORE.out 20)
            go_wp2
            go_roundw
            case rel => exact ⟨j + 1, _, by omega, by first | rfl | go_num, by simp; exact HLY.out, HX.out⟩
            case measure => simp [intOf]; omega
          · have c1 : decide ((20 : Int) ≤ y) = true := decide_eq_true (by omega)
            have c2 : decide (y ≤ 20) = false := decide_eq_false (by omega)
            have c3 : decide ((20 : Int) < y) = true := decide_eq_true hc
            have c4 : decide (y < 20) = false := decide_eq_false (by omega)
            have HX := Lib.hid (HSTORE.out 20)
            go_wp2
            go_roundw
            case rel => exact ⟨j + 1, _, by omega, by first | rfl | go_num, by simp; exact HLY.out, HX.out⟩
            case measure => simp [intOf]; omega
        · skip
          obtain ⟨y, hy⟩ : ∃ y, IntKind.i64.wrap ((0 : Int) + sel6 k6) = y := ⟨_, rfl⟩
          obtain ⟨kk, hkk⟩ : ∃ kk, sel6 k6 = kk := ⟨_, rfl⟩
          rw [hkk] at hy e4
          clear hkk
          have hy0 : IntKind.i64.wrap kk = y := by rw [← hy, Int.zero_add]
          rcases Int.lt_trichotomy y 20 with hc | rfl | hc
          · have c1 : decide ((20 : Int) ≤ y) = false := decide_eq_false (by omega)
            have c2 : decide (y ≤ 20) = true := decide_eq_true (by omega)
            have c3 : decide ((20 : Int) < y) = false := decide_eq_false (by omega)
            have c4 : decide (y < 20) = true := decide_eq_true hc
            have HX := Lib.hid (HSTORE.out y)
            go_wp2
            go_roundw
            case rel => exact ⟨j + 1, _, by omega, by first | rfl | go_num, by simp; exact HLY.out, HX.out⟩
            case measure => simp [intOf]; omega
          · skip
            have HX := Lib.hid (HSTORE.out 20)
            go_wp2
            go_roundw
            case rel => exact ⟨j + 1, _, by omega, by first | rfl | go_num, by simp; exact HLY.out, HX.out⟩
            case measure => simp [intOf]; omega
          · have c1 : decide ((20 : Int) ≤ y) = true := decide_eq_true (by omega)
            have c2 : decide (y ≤ 20) = false := decide_eq_false (by omega)
            have c3 : decide ((20 : Int) < y) = true := decide_eq_true hc
            have c4 : decide (y < 20) = false := decide_eq_false (by omega)
            have HX := Lib.hid (HSTORE.out 20)
            go_wp2
            go_roundw
            case rel => exact ⟨j + 1, _, by omega, by first | rfl | go_num, by simp; exact HLY.out, HX.out⟩
            case measure => simp [intOf]; omega
        · have b1 : decide ((0 : Int) ≤ s) = true := decide_eq_true (by omega)
          have b2 : decide (s ≤ 0) = false := decide_eq_false (by omega)
          have b3 : decide ((0 : Int) < s) = true := decide_eq_true hs
          have b4 : decide (s < 0) = false := decide_eq_false (by omega)
          obtain ⟨y, hy⟩ : ∃ y, IntKind.i64.wrap (s + sel6 k6) = y := ⟨_, rfl⟩
          obtain ⟨kk, hkk⟩ : ∃ kk, sel6 k6 = kk := ⟨_, rfl⟩
          rw [hkk] at hy e4
          clear hkk
          skip
          rcases Int.lt_trichotomy y 20 with hc | rfl | hc
          · have c1 : decide ((20 : Int) ≤ y) = false := decide_eq_false (by omega)
            have c2 : decide (y ≤ 20) = true := decide_eq_true (by omega)
            have c3 : decide ((20 : Int) < y) = false := decide_eq_false (by omega)
            have c4 : decide (y < 20) = true := decide_eq_true hc
            have HX := Lib.hid (HSTORE.out y)
            go_wp2
            go_roundw
            case rel => exact ⟨j + 1, _, by omega, by first | rfl | go_num, by simp; exact HLY.out, HX.out⟩
            case measure => simp [intOf]; omega
          · skip
            have HX := Lib.hid (HSTORE.out 20)
            go_wp2
            go_roundw
            case rel => exact ⟨j + 1, _, by omega, by first | rfl | go_num, by simp; exact HLY.out, HX.out⟩
            case measure => simp [intOf]; omega
          · have c1 : decide ((20 : Int) ≤ y) = true := decide_eq_true (by omega)
            have c2 : decide (y ≤ 20) = false := decide_eq_false (by omega)
            have c3 : decide ((20 : Int) < y) = true := decide_eq_true hc
            have c4 : decide (y < 20) = false := decide_eq_false (by omega)
            have HX := Lib.hid (HSTORE.out 20)
            go_wp2
            go_roundw
            case rel => exact ⟨j + 1, _, by omega, by first | rfl | go_num, by simp; exact HLY.out, HX.out⟩
            case measure => simp [intOf]; omega
      · have HV := Lib.hid (vrow_gb H3.out.row hI.gb (by omega)).view
        have hu := hI.row.view
        have HU := Lib.hid hu
        have HE := Lib.hid (gb_step HG3.out hI.gb)
        clear hI hu
        go_wp2
        go_ret2
        exact ⟨_, _, xs, ys, rfl, HV.out, HU.out, hxl, by have := HLY.out; omega, HE.out⟩

end Go.Proofs.YticapinlnlpbpaaDoor

namespace Go.Proofs.YticapinlnlpbpaaDoor
set_option maxRecDepth 100000
set_option linter.unusedVariables false

theorem slow_snd {ys : List Vc} {x : Vc} (h : ys.all vok = true) (hx : vok x = true) : snd8 (slow ys x) = snd8 ys ++ List.replicate x.2.toNat x.1 := by
  rcases List.eq_nil_or_concat ys with rfl | ⟨zs, l, rfl⟩
  · rw [slow_nil, snd_cons, snd_nil, List.append_nil, List.nil_append]
  · rw [List.concat_eq_append] at h ⊢
    rw [List.all_append, Bool.and_eq_true] at h
    have hl : vok l = true := by simpa using h.2
    by_cases e : l.1 = x.1 ∧ l.2 + x.2 ≤ 3
    · rw [slow_yes e.1 e.2, snd_app, snd_app, snd_cons, snd_cons, snd_nil, List.append_nil, List.append_nil, List.append_assoc, ← e.1]
      have h1 := vok_in hl
      have h2 := vok_in hx
      simp only
      rw [show (l.2 + x.2).toNat = l.2.toNat + x.2.toNat by omega, List.replicate_append_replicate]
    · rw [slow_no e, snd_app (zs ++ [l]), snd_cons, snd_nil, List.append_nil]
theorem slw_snd {xs : List Vc} (h : xs.all vok = true) : snd8 (slw xs) = snd8 xs := by
  have key : ∀ k, snd8 (slw (xs.take k)) = snd8 (xs.take k) := fun k => by
    induction k with
    | zero => simp [slw, snd8]
    | succ k ih =>
      cases hx : xs[k]? with
      | none => rw [List.take_add_one, hx]; simpa using ih
      | some x => rw [slw_take hx, slow_snd (slw_ok h k) (all_get h hx), ih, snd_take hx]
  have := key xs.length
  rwa [List.take_length] at this
theorem slw_val {xs : List Vc} (h : pval xs = true) : pval (slw xs) = true ∧ bsm (slw xs) = bsm xs := by
  obtain ⟨h1, h2, h3⟩ := pval_in h
  have ho := slw_ok h1 xs.length
  have hl := slw_len xs xs.length
  rw [List.take_length] at ho hl
  have e : bsm (slw xs) = bsm xs := by rw [← snd_len ho, ← snd_len h1, slw_snd h1]
  exact ⟨pval_yes ho (by omega) (by omega), e⟩
theorem tog_sym (xs ys : List Vc) : tog xs ys = tog ys xs := by
  unfold tog
  cases pval xs <;> cases pval ys <;> simp
  rw [Bool.eq_iff_iff, beq_iff_eq, beq_iff_eq]
  exact eq_comm
theorem ctr_sym (ts us : List (Int × Bool)) : ctr ts us = ctr us ts := by
  funext k
  unfold ctr
  rw [Bool.or_comm, Bool.and_comm (decide (0 < chg8 ts k)), Bool.and_comm (decide (chg8 ts k < 0))]
theorem tog_len {xs ys : List Vc} (h : tog xs ys = true) : (snd8 xs).length = (snd8 ys).length := by
  obtain ⟨h1, h2, h3⟩ := tog_in h
  have := snd_len (pval_in h1).1
  have := snd_len (pval_in h2).1
  omega
theorem dct_yes {xs ys : List Vc} (h : tog xs ys = true) : dct xs ys = cnt (ctr (snd8 xs) (snd8 ys)) ((snd8 xs).length - 1) := by simp [dct, h]
theorem dct_no {xs ys : List Vc} (h : tog xs ys = false) : dct xs ys = -1 := by simp [dct, h]
theorem dct_sym {xs ys : List Vc} (h : tog xs ys = true) : dct ys xs = dct xs ys := by
  rw [dct_yes h, dct_yes (by rw [tog_sym]; exact h), ctr_sym, tog_len h]
theorem cnt_none {p : Nat → Bool} (h : ∀ k, p k = false) : ∀ n, cnt p n = 0
  | 0 => rfl
  | n + 1 => by rw [cnt_miss (h n), cnt_none h n]
theorem dct_self {xs ys : List Vc} (h : tog xs ys = true) : dct xs xs = 0 := by
  have h1 := (tog_in h).1
  rw [dct_yes (tog_yes h1 h1 rfl)]
  refine cnt_none (fun k => ?_) _
  unfold ctr
  rw [Bool.or_eq_false_iff, Bool.and_eq_false_iff, Bool.and_eq_false_iff]
  simp only [decide_eq_false_iff_not]
  omega
theorem dct_slow {xs ys : List Vc} (h : tog xs ys = true) : dct (psL xs) (psL ys) = dct xs ys := by
  obtain ⟨h1, h2, h3⟩ := tog_in h
  have a := slw_val h1
  have b := slw_val h2
  unfold psL
  rw [if_pos h1, if_pos h2, dct_yes h, dct_yes (tog_yes a.1 b.1 (by rw [a.2, b.2, h3])), slw_snd (pval_in h1).1, slw_snd (pval_in h2).1]
theorem dct_in {xs ys : List Vc} : -1 ≤ dct xs ys ∧ dct xs ys ≤ 24 := by
  unfold dct
  split
  · rename_i h
    have h1 := pval_in (tog_in h).1
    have h2 := snd_len h1.1
    have h3 := cnt_in (ctr (snd8 xs) (snd8 ys)) ((snd8 xs).length - 1)
    omega
  · omega

end Go.Proofs.YticapinlnlpbpaaDoor

namespace Go.Proofs.YticapinlnlpbpaaDoor
open Go.RowKit
set_option maxRecDepth 100000
set_option linter.unusedVariables false

/-- a row of tones of a call's own, while it grows -/
structure TbInv (w wr : World) (v : Value) (xs : List (Int × Bool)) : Prop where
  own : wr.ownsRow w.heap.size 41 2 v xs.length (tcs xs)
  bl : Below w.heap.size w wr
theorem TbInv.start (w : World) : TbInv w (w.alloc (.cells #[] 41)) (.slice (some ⟨w.heap.size, 0, none⟩) 0 0) [] :=
  ⟨⟨by simp [tcs], .inr ⟨w.heap.size, 0, #[], rfl, Nat.le_refl _, heap_alloc_new w _, by simp, by simp [maxLen], by simp, by simp [tcs]⟩⟩, (Below.refl _ _).alloc (Nat.le_refl _) _⟩
theorem TbInv.row {w wr : World} {v : Value} {xs : List (Int × Bool)} (h : TbInv w wr v xs) : TRow wr w.heap.size wr.heap.size v xs := ⟨h.own, fun g hg => (own_ltb h.own hg).2⟩
theorem TbInv.below {w wr w1 : World} {v : Value} {xs : List (Int × Bool)} (h : TbInv w wr v xs) (hb : Below wr.heap.size wr w1) : TbInv w w1 v xs :=
  ⟨(h.row.below hb (.inl (Nat.le_refl _))).1, bl_step h.bl hb⟩
theorem TbInv.app {w w1 w2 : World} {v v' : Value} {xs : List (Int × Bool)} {s : Int} {b : Bool} {o : Obj} (h : TbInv w w1 v xs)
    (hown : w2.ownsRow w.heap.size 41 2 v' (xs.length + 1) (tcs xs ++ [.int .i64 s, .bool b])) (hg : (w1.alloc o).grownBy w2 v.ownBlock) : TbInv w w2 v' (xs ++ [(s, b)]) :=
  ⟨by rw [tcs_app, List.length_append]; exact hown, (h.bl.alloc h.bl.size o).grown hg (by have := h.bl.size; simp; omega) (fun k hk => (own_ltb h.own hk).1)⟩

/-- does the move of a part succeed, and the moved part -/
def tns (xs : List Vc) : List (Int × Bool) := xs.map fun x => x.1
def bts8 (xs : List Vc) : List Int := xs.map fun x => x.2
theorem tns_len (xs : List Vc) : (tns xs).length = xs.length := by simp [tns]
theorem bts_len8 (xs : List Vc) : (bts8 xs).length = xs.length := by simp [bts8]
theorem tns_take {xs : List Vc} {k : Nat} {x : Vc} (h : xs[k]? = some x) : tns (xs.take (k + 1)) = tns (xs.take k) ++ [x.1] := by
  rw [List.take_add_one, h]; simp [tns]
theorem bts_take8 {xs : List Vc} {k : Nat} {x : Vc} (h : xs[k]? = some x) : bts8 (xs.take (k + 1)) = bts8 (xs.take k) ++ [x.2] := by
  rw [List.take_add_one, h]; simp [bts8]
def dmOk (k : Int) (xs : List Vc) : Bool := pval xs && mmB k (tns xs)
def dmL (k : Int) (xs : List Vc) : List Vc := if dmOk k xs then (mmL k (tns xs)).zip (bts8 xs) else []
theorem dm_no1 {k : Int} {xs : List Vc} (h : pval xs = false) : dmOk k xs = false := by simp [dmOk, h]
theorem dm_no2 {k : Int} {xs : List Vc} (h : mmB k (tns xs) = false) : dmOk k xs = false := by simp [dmOk, h]
theorem dm_in {k : Int} {xs : List Vc} (h : dmOk k xs = true) : pval xs = true ∧ mmB k (tns xs) = true := by simpa [dmOk] using h
theorem dm_ok {k : Int} {xs : List Vc} (h : pval xs = true) (h2 : mmB k (tns xs) = true) : dmOk k xs = true := by simp [dmOk, h, h2]
theorem dmL_no {k : Int} {xs : List Vc} (h : dmOk k xs = false) : dmL k xs = [] := by simp [dmL, h]
theorem dmL_yes {k : Int} {xs : List Vc} (h : dmOk k xs = true) : dmL k xs = (mmL k (tns xs)).zip (bts8 xs) := by simp [dmL, h]
theorem zip_fst {ts : List (Int × Bool)} {zs : List Int} (h : ts.length = zs.length) : tns (ts.zip zs) = ts := by
  unfold tns; exact List.map_fst_zip (by omega)
theorem zip_snd {ts : List (Int × Bool)} {zs : List Int} (h : ts.length = zs.length) : bts8 (ts.zip zs) = zs := by
  unfold bts8; exact List.map_snd_zip (by omega)
theorem vok_zip {ts : List (Int × Bool)} {zs : List Int} (h : allv ts = true) (h2 : ∀ z ∈ zs, 1 ≤ z ∧ z ≤ 3) : (ts.zip zs).all vok = true := by
  rw [List.all_eq_true]
  rintro ⟨t, z⟩ hx
  obtain ⟨a, b⟩ := List.of_mem_zip hx
  have h3 : vd t.1 t.2 = true := by unfold allv at h; rw [List.all_eq_true] at h; exact h t a
  exact vok_yes (x := (t, z)) h3 (h2 z b).1 (h2 z b).2
theorem bts_in8 {xs : List Vc} (h : xs.all vok = true) : ∀ z ∈ bts8 xs, 1 ≤ z ∧ z ≤ 3 := by
  intro z hz
  obtain ⟨x, hx, rfl⟩ := List.mem_map.1 hz
  rw [List.all_eq_true] at h
  exact (vok_in (h x hx)).2
theorem tns_mv {xs : List Vc} (h : pval xs = true) : mv (tns xs) = true := by
  obtain ⟨a, b, c⟩ := pval_in h
  unfold mv
  rw [Bool.and_eq_true, tns_len]
  refine ⟨decide_eq_true (by omega), ?_⟩
  unfold allv
  rw [List.all_eq_true] at a ⊢
  intro t ht
  obtain ⟨x, hx, rfl⟩ := List.mem_map.1 ht
  exact (vok_in (a x hx)).1
theorem mmL_mv {k : Int} {ts : List (Int × Bool)} (h : mmB k ts = true) : mv (mmL k ts) = true := by
  obtain ⟨z, hz⟩ := mm_mvd h
  exact hz.vy
theorem mv_allv {ts : List (Int × Bool)} (h : mv ts = true) : allv ts = true := by unfold mv at h; rw [Bool.and_eq_true] at h; exact h.2
theorem dm_len {k : Int} {xs : List Vc} (h : mmB k (tns xs) = true) : (mmL k (tns xs)).length = (bts8 xs).length := by rw [mm_len h, tns_len, bts_len8]
/-- the moved part is a part -/
theorem dm_part {k : Int} {xs : List Vc} (h : dmOk k xs = true) : pval (dmL k xs) = true ∧ tns (dmL k xs) = mmL k (tns xs) ∧ bts8 (dmL k xs) = bts8 xs ∧ (dmL k xs).length = xs.length := by
  obtain ⟨h1, h2⟩ := dm_in h
  obtain ⟨a, b, c⟩ := pval_in h1
  have hl := dm_len h2
  rw [dmL_yes h]
  have e2 := zip_snd hl
  refine ⟨?_, zip_fst hl, e2, ?_⟩
  · refine pval_yes (vok_zip (mv_allv (mmL_mv h2)) (bts_in8 a)) ?_ ?_
    · rw [List.length_zip, hl, bts_len8]; omega
    · have e3 : ∀ zs : List Vc, bsm zs = smL (bts8 zs) := fun _ => rfl
      rw [e3] at c ⊢
      rw [e2]
      exact c
  · rw [List.length_zip, hl, bts_len8]; omega
theorem dm_pm {k : Int} {xs : List Vc} (h : dmOk k xs = true) : pmOk (mmL k (tns xs)) (bts8 xs) = true ∧ pmL (mmL k (tns xs)) (bts8 xs) = dmL k xs := by
  obtain ⟨h1, h2⟩ := dm_in h
  have e : pmOk (mmL k (tns xs)) (bts8 xs) = true := by
    have h3 := (dm_part h).1
    rw [dmL_yes h] at h3
    unfold pmOk
    rw [mmL_mv h2, h3, decide_eq_true (dm_len h2)]
    rfl
  exact ⟨e, by rw [pm_yes e, dmL_yes h]⟩
theorem dmL_len (k : Int) (xs : List Vc) : (dmL k xs).length ≤ 24 := by
  unfold dmL
  split
  · rw [List.length_zip]; have := mmL_len k (tns xs); omega
  · simp

end Go.Proofs.YticapinlnlpbpaaDoor

namespace Go.Proofs.YticapinlnlpbpaaDoor
open Go.RowKit
set_option maxRecDepth 100000
set_option linter.unusedVariables false

theorem bts_get8 {xs : List Vc} {n : Nat} {x : Vc} (h : xs[n]? = some x) : (bts8 xs)[n]? = some x.2 := by simp [bts8, h]

set_option maxHeartbeats 8000000 in
theorem discantMove_any (v : Value) (k : Int) (xs : List Vc) (w : World) (h : VV w v xs) (ht : StepTab w) :
    Calls Tryd.prog 26 #[v, .int .i64 k] w (VBuilt2 w (dmL k xs) (dmOk k xs)) := by
  obtain ⟨i0, hi0, hq0, hq1, hq2⟩ := info_parts infoTone
  obtain ⟨j0, hj0, hr0, hr1, hr2⟩ := info_parts infoVb
  have HV := Lib.hid (partValid8_any v xs w h)
  have HT := Lib.hid ht
  obtain ⟨a, c, rfl, ha, hc1, hc2⟩ := h
  have HA := Lib.hid ha
  clear ht ha
  cases hp : pval xs with
  | false =>
    have hok := dm_no1 (k := k) hp
    rw [dmL_no hok, hok]
    rw [hp] at HV
    clear hok hp
    go_enter Tryd.func26, Tryd.ntmps26
    go_wp2_with (fail)
    (go_at_call 60; refine (HV.out).mono ?_; rintro e w1 ⟨rfl, hb1⟩)
    have HE := Lib.hid (VBuilt2.none_ w w1 hb1)
    clear hb1
    go_wp2
    go_ret2
    exact HE.out
  | true =>
    rw [hp] at HV
    obtain ⟨_, l12, _⟩ := pval_in hp
    have HP := Lib.hid hp
    clear hp
    go_enter Tryd.func26, Tryd.ntmps26
    go_wp2_with (fail)
    (go_at_call 60; refine (HV.out).mono ?_; rintro e w1 ⟨rfl, hb1⟩)
    have HB1 := Lib.hid hb1
    have HS := Lib.hid (TbInv.start w1)
    clear hb1 HV
    go_wp2
    go_loopw [6, 21] (fun q i wr => ∃ n : Nat, n ≤ xs.length ∧ i = .int .i64 (n : Int) ∧ TbInv w1 wr q (tns (xs.take n))) (fun _ i _ => xs.length - (intOf i).toNat)
    case atStart => exact ⟨0, by omega, rfl, HS.out⟩
    case round =>
      obtain ⟨n, hn, rfl, hinv⟩ := hrel
      clear HS
      by_cases hlt : n < xs.length
      · obtain ⟨⟨⟨s, b⟩, m⟩, hx⟩ : ∃ x, xs[n]? = some x := ⟨xs[n], List.getElem?_eq_getElem hlt⟩
        rcases HA.out with h0 | ⟨A, off, rfl, hA, hcz⟩
        · subst h0; simp at hlt
        have hbw := bl_step HB1.out hinv.bl
        have HX := Lib.hid (tns_take hx)
        obtain ⟨e0, e1, e2⟩ := hcz n _ hx
        have d0 := (hbw.cell (p := ⟨A, off + n * 3, none⟩) hA).trans e0
        have d1 := (hbw.cell (p := ⟨A, off + n * 3 + 1, none⟩) hA).trans e1
        have d2 := (hbw.cell (p := ⟨A, off + n * 3 + 2, none⟩) hA).trans e2
        have hlen : (tns (xs.take n)).length = n := by rw [tns_len, List.length_take]; omega
        have hown := hinv.own
        rw [hlen] at hown
        have hk0 : (0 : Int) ≤ (n : Int) := by omega
        have hk1 : (n : Int) < (xs.length : Int) := by omega
        have HN := Lib.hid hinv
        have hws := hinv.bl.size
        have HNB : Hid (((wr.alloc (.cells #[.int .i64 s, .bool b, .int .i64 m] 49)).alloc (.cells #[.int .i64 s, .bool b] 41)).heap[wr.heap.size + 1]? = some (.cells #[.int .i64 s, .bool b] 41 (0, 0))) := by
          have := heap_alloc_new (wr.alloc (.cells #[.int .i64 s, .bool b, .int .i64 m] 49)) (.cells #[.int .i64 s, .bool b] 41)
          show _ = _
          simpa using this
        clear hx hbw hcz hinv e0 e1 e2
        go_wp2_with (at_builtin; refine wpList_append_own _ rfl _ _ 52 rfl w1.heap.size 41 i0 (.agg #[.int .i64 0, .bool false]) 2 16 Tryd.underlying52 hi0 hq0 hq1 hq2 rfl (by decide) _ _ _ rfl ((hown.alloc _).alloc _) ⟨wr.heap.size + 1, 0, none⟩ 1 1 [.int .i64 s, .bool b] rfl rfl (World.news_of_block HNB.out) (by simp [Value.oneCell']) (by unfold maxLen; omega) (by omega) (by simp; omega) ?_)
        intro v' w4 hown' hgrow _
        have HI := Lib.hid (TbInv.app (s := s) (b := b) (HN.out.below ((Below.refl _ _).alloc (Nat.le_refl _) _)) (by rw [hlen]; exact hown') hgrow)
        rw [← HX.out] at HI
        clear hown' hgrow hown HN
        go_wp2
        go_roundw
        case rel => exact ⟨n + 1, by omega, by go_num, HI.out⟩
        case measure => simp [intOf]; omega
      · have hnn : n = xs.length := by omega
        subst hnn
        rw [List.take_length] at hinv
        have hbw := bl_step HB1.out hinv.bl
        have HM := Lib.hid (melodyMove_any w1.heap.size wr.heap.size _ (tns xs) k wr hinv.row (HT.out.below hbw))
        have HBW := Lib.hid hbw
        clear hinv hbw HT HB1
        cases hm : mmB k (tns xs) with
        | false =>
          have hok := dm_no2 (xs := xs) hm
          rw [hm] at HM
          have HE : Hid (∀ w2, Below w.heap.size w w2 → VBuilt2 w (dmL k xs) (dmOk k xs) (.returned (.tuple #[.slice (some ⟨w2.heap.size, 0, none⟩) 0 0, .bool false])) (w2.alloc (.cells #[] 49))) := fun w2 hb => by
            rw [dmL_no hok, hok]; exact VBuilt2.none_ w w2 hb
          clear hok hm
          go_wp2_with (fail)
          (go_at_call 42; refine (HM.out).mono ?_; rintro e w2 ⟨u, rfl, hu, hb2⟩)
          have HF := Lib.hid (HE.out w2 (bl_step HBW.out hb2))
          clear hu hb2 HE
          go_wp2
          go_ret2
          exact HF.out
        | true =>
          have hok := dm_ok HP.out hm
          have HOK := Lib.hid (dmL_yes hok)
          have HO := Lib.hid hok
          rw [hm] at HM
          have hyl : (mmL k (tns xs)).length = xs.length := by rw [mm_len hm, tns_len]
          clear hok hm
          generalize mmL k (tns xs) = ys at HM HOK hyl
          have HYL := Lib.hid hyl
          clear hyl
          go_wp2_with (fail)
          (go_at_call 42; refine (HM.out).mono ?_; rintro e w2 ⟨u, rfl, hu, hb2⟩)
          have HU := Lib.hid hu
          have HB2 := Lib.hid (bl_step HBW.out hb2)
          have HS2 := Lib.hid (VbInv.start w2)
          obtain ⟨ua, uc, rfl⟩ := trow_len8 hu
          rw [HYL.out]
          clear hu hb2 HBW HM
          go_wp2
          go_loopw [11, 43] (fun q i wr => ∃ n : Nat, n ≤ xs.length ∧ i = .int .i64 (n : Int) ∧ VbInv w2 wr q ((ys.zip (bts8 xs)).take n)) (fun _ i _ => xs.length - (intOf i).toNat)
          case atStart => exact ⟨0, by omega, rfl, HS2.out⟩
          case round =>
            obtain ⟨n, hn, rfl, hinv⟩ := hrel
            clear HS2
            by_cases hlt : n < xs.length
            · obtain ⟨⟨⟨s0, b0⟩, m⟩, hx⟩ : ∃ x, xs[n]? = some x := ⟨xs[n], List.getElem?_eq_getElem hlt⟩
              have hy1 : n < ys.length := by have := HYL.out; omega
              obtain ⟨⟨s, b⟩, ht⟩ : ∃ t, ys[n]? = some t := ⟨ys[n], List.getElem?_eq_getElem hy1⟩
              have HX := Lib.hid (zip_take ht (bts_get8 hx))
              rcases HA.out with h0 | ⟨A, off, rfl, hA, hcz⟩
              · subst h0; simp at hlt
              rcases HU.out.form with ⟨hv1, hv2⟩ | ⟨g, cap, hv, hg, hg2, hgs, hcap, hmax, hc⟩
              · subst hv2; simp at hy1
              injection hv with hv1 hv2 hv3
              subst hv1 hv3
              obtain ⟨e0, e1⟩ := hc n _ ht
              obtain ⟨_, _, e2⟩ := hcz n _ hx
              have d0 := (hinv.bl.cell (p := ⟨g, n * 2, none⟩) hgs).trans e0
              have d1 := (hinv.bl.cell (p := ⟨g, n * 2 + 1, none⟩) hgs).trans e1
              have hbw := bl_step HB2.out hinv.bl
              have d2 := (hbw.cell (p := ⟨A, off + n * 3 + 2, none⟩) hA).trans e2
              have hAs : A < wr.heap.size := Nat.lt_of_lt_of_le hA hbw.size
              have hlen : ((ys.zip (bts8 xs)).take n).length = n := by have := HYL.out; rw [List.length_take, List.length_zip, bts_len8]; omega
              have hown := hinv.own
              rw [hlen] at hown
              have hk0 : (0 : Int) ≤ (n : Int) := by omega
              have hk1 : (n : Int) < (xs.length : Int) := by omega
              have HN := Lib.hid hinv
              have hws := hinv.bl.size
              have hA2 : A < w2.heap.size := Nat.lt_of_lt_of_le hA HB2.out.size
              have hlo := fun q (e : u11.ownBlock = some q) => own_ltb hown e
              have agA : u11.ownBlock ≠ some A := fun e => by have := (hlo _ e).1; omega
              have agB : u11.ownBlock ≠ some wr.heap.size := fun e => by have := (hlo _ e).2; omega
              clear ht hx hbw hc hcz hinv hv2 e0 e1 e2 hlo hy1
              go_wp2
              obtain ⟨W, hW⟩ : ∃ W, W = wr.alloc (.cells #[.int .i64 s, .bool b] 41) := ⟨_, rfl⟩
              have f0 : W.cell? ⟨wr.heap.size, 0, none⟩ = some (.int .i64 s) := by rw [hW]; go_simp
              have f1 : W.cell? ⟨wr.heap.size, 1, none⟩ = some (.bool b) := by rw [hW]; go_simp
              have f2 : W.cell? ⟨A, off + n * 3 + 2, none⟩ = some (.int .i64 m) := by rw [hW, World.cell?_alloc_lt _ _ _ hAs]; exact d2
              have hownW : W.ownsRow w2.heap.size 49 3 u11 n (vcs ((ys.zip (bts8 xs)).take n)) := by rw [hW]; exact hown.alloc _
              have fz : wr.heap.size < W.heap.size := by rw [hW]; simp
              have fws : w2.heap.size ≤ W.heap.size := by omega
              have fA : A < W.heap.size := by omega
              have HIW : Hid (VbInv w2 W u11 ((ys.zip (bts8 xs)).take n)) := by rw [hW]; exact HN.out.below ((Below.refl _ _).alloc (Nat.le_refl _) _)
              rw [← hW]
              clear hW d0 d1 d2
              go_region_held3 (fun wx => wx.cell? ⟨wr.heap.size, 0, none⟩ = some (.int .i64 s) ∧ wx.cell? ⟨wr.heap.size, 1, none⟩ = some (.bool b) ∧ wx.cell? ⟨A, off + n * 3 + 2, none⟩ = some (.int .i64 m))
                (first
                  | go_keep
                  | (go_split_ands
                     refine ⟨?_, ?_, ?_⟩
                     · (rw [hgrow.cell_far _ (by simp; omega) (Ne.symm agB)]; assumption)
                     · (rw [hgrow.cell_far _ (by simp; omega) (Ne.symm agB)]; assumption)
                     · (rw [hgrow.cell_far _ (by simp; omega) (Ne.symm agA)]; assumption)))
                ((refine step_append_lies _ (by rfl) _ _ _ (by rfl) w2.heap.size 49 j0 (.agg #[.int .i64 0, .bool false, .int .i64 0]) 3 24 Tryd.underlying26 hj0 hr0 hr1 hr2 rfl (by omega) u11 n _ (by rfl) ((hownW.alloc _).drew) ⟨W.heap.size, 0, none⟩ 1 1 [.int .i64 s, .bool b, .int .i64 m] (by rfl) (by rfl) (World.news_of_block (cs := #[.int .i64 s, .bool b, .int .i64 m]) (t := 49) (fr := (0, 0)) (heap_alloc_new W _)) (by simp [Value.oneCell']) (by omega) (by unfold maxLen; omega) (by omega) (by simp; omega) (W.heap.size + 1) (by simp) ?_; intro gg capg w4 hown' hgrow hat hltg))
              clear f0 f1 f2 hownW fz
              have HI := Lib.hid (VbInv.app (s := s) (b := b) (m := m) (HIW.out.below (Below.refl _ _).drew) (by rw [hlen]; exact hown') hgrow)
              rw [← HX.out] at HI
              clear hown' hgrow hown HN HIW hat hltg
              go_wp2
              go_roundw
              case rel => exact ⟨n + 1, by omega, by go_num, HI.out⟩
              case measure => simp [intOf]; omega
            · have hnn : n = xs.length := by omega
              have hzn : (ys.zip (bts8 xs)).take n = ys.zip (bts8 xs) := List.take_of_length_le (by have := HYL.out; rw [List.length_zip, bts_len8]; omega)
              rw [hzn, ← HOK.out] at hinv
              have HE : Hid (VBuilt2 w (dmL k xs) (dmOk k xs) (.returned (.tuple #[u11, .bool true])) wr) := by rw [HO.out]; exact (hinv.built2 true).from_ HB2.out
              clear hinv hzn
              subst hnn
              go_wp2
              go_ret2
              exact HE.out

end Go.Proofs.YticapinlnlpbpaaDoor

namespace Go.Proofs.YticapinlnlpbpaaDoor
set_option maxRecDepth 100000
set_option linter.unusedVariables false

/-- a part with the same beats, each tone k steps higher, sounds k steps higher at each beat -/
theorem snd_shift {k : Int} : ∀ (xs ys : List Vc), bts8 ys = bts8 xs → (tns ys).map (fun t => t.1) = (tns xs).map (fun t => t.1 + k) → (snd8 ys).map (fun t => t.1) = (snd8 xs).map (fun t => t.1 + k)
  | [], ys, h, _ => by
    have : ys = [] := by cases ys with
      | nil => rfl
      | cons y s => simp [bts8] at h
    subst this
    rfl
  | x :: r, [], h, _ => by simp [bts8] at h
  | x :: r, y :: s, h, h2 => by
    simp only [bts8, List.map_cons, List.cons.injEq] at h
    simp only [tns, List.map_cons, List.cons.injEq] at h2
    have ih := snd_shift r s h.2 h2.2
    rw [snd_cons, snd_cons, List.map_append, List.map_append, ih, List.map_replicate, List.map_replicate, h.1, h2.1]
theorem tnA_fst {ts : List (Int × Bool)} {j : Nat} : (tnA ts j).1 = (ts.map fun t => t.1).getD j 0 := by
  unfold tnA
  rw [List.getD_eq_getElem?_getD, List.getD_eq_getElem?_getD, List.getElem?_map]
  cases ts[j]? <;> rfl
theorem dm_shift {k : Int} {xs : List Vc} (h : dmOk k xs = true) : (snd8 (dmL k xs)).length = (snd8 xs).length ∧ ∀ j, j < (snd8 xs).length → (tnA (snd8 (dmL k xs)) j).1 = (tnA (snd8 xs) j).1 + k := by
  obtain ⟨h1, h2, h3, h4⟩ := dm_part h
  obtain ⟨z, hz⟩ := mm_mvd (dm_in h).2
  have e : (tns (dmL k xs)).map (fun t => t.1) = (tns xs).map (fun t => t.1 + k) := by
    rw [h2]
    apply List.ext_getElem?
    intro i
    rw [List.getElem?_map, List.getElem?_map]
    rcases Nat.lt_or_ge i (tns xs).length with hi | hi
    · have hi2 : i < (mmL k (tns xs)).length := by rw [← hz.len]; exact hi
      have := (hz.at_ i hi).1
      rw [gd_at hi, gd_at hi2] at this
      rw [List.getElem?_eq_getElem hi, List.getElem?_eq_getElem hi2]
      simp [this]
    · rw [List.getElem?_eq_none (by rw [← hz.len]; exact hi), List.getElem?_eq_none hi]; rfl
  have hs := snd_shift xs (dmL k xs) h3 e
  have hl : (snd8 (dmL k xs)).length = (snd8 xs).length := by
    have := congrArg List.length hs
    simpa using this
  refine ⟨hl, fun j hj => ?_⟩
  rw [tnA_fst, tnA_fst, hs, List.getD_eq_getElem?_getD, List.getD_eq_getElem?_getD, List.getElem?_map, List.getElem?_map, List.getElem?_eq_getElem hj]
  rfl
theorem dm_tog {k : Int} {xs ys : List Vc} (h : tog xs ys = true) (h2 : dmOk k ys = true) : tog xs (dmL k ys) = true := by
  obtain ⟨a, b, c⟩ := tog_in h
  obtain ⟨p, _, _, _⟩ := dm_part h2
  have l1 := snd_len (pval_in p).1
  have l2 := snd_len (pval_in b).1
  have l3 := (dm_shift h2).1
  exact tog_yes a p (by omega)
theorem cnt_le {p q : Nat → Bool} : ∀ {n : Nat}, (∀ k, k < n → p k = true → q k = true) → cnt p n ≤ cnt q n
  | 0, _ => by simp [cnt]
  | n + 1, h => by
    have ih := cnt_le (p := p) (q := q) (n := n) (fun k hk => h k (by omega))
    cases hp : p n with
    | true => rw [cnt_hit hp, cnt_hit (h n (by omega) hp)]; omega
    | false =>
      rw [cnt_miss hp]
      cases hq : q n with
      | true => rw [cnt_hit hq]; omega
      | false => rw [cnt_miss hq]; omega
theorem cnt_two {p q : Nat → Bool} : ∀ {n : Nat}, (∀ k, k < n → p k = true → q k = false) → cnt p n + cnt q n ≤ (n : Int)
  | 0, _ => by simp [cnt]
  | n + 1, h => by
    have ih := cnt_two (p := p) (q := q) (n := n) (fun k hk => h k (by omega))
    cases hp : p n with
    | true => rw [cnt_hit hp, cnt_miss (h n (by omega) hp)]; omega
    | false =>
      rw [cnt_miss hp]
      cases hq : q n with
      | true => rw [cnt_hit hq]; omega
      | false => rw [cnt_miss hq]; omega
theorem dcr_yes {xs ys : List Vc} (h : tog xs ys = true) : dcr xs ys = cnt (crs (snd8 xs) (snd8 ys)) (snd8 xs).length := by simp [dcr, h]
theorem dcr_no {xs ys : List Vc} (h : tog xs ys = false) : dcr xs ys = -1 := by simp [dcr, h]
/-- both crossings together are at most all beats -/
theorem dcr_both {xs ys : List Vc} (h : tog xs ys = true) : dcr xs ys + dcr ys xs ≤ pbt xs := by
  rw [dcr_yes h, dcr_yes (by rw [tog_sym]; exact h), ← tog_len h, pbt_yes (tog_in h).1, ← snd_len (pval_in (tog_in h).1).1]
  refine cnt_two fun k _ hk => ?_
  unfold crs at hk ⊢
  simp only [decide_eq_true_eq, decide_eq_false_iff_not] at hk ⊢
  omega
theorem dcr_self {xs ys : List Vc} (h : tog xs ys = true) : dcr xs xs = 0 := by
  have h1 := (tog_in h).1
  rw [dcr_yes (tog_yes h1 h1 rfl)]
  refine cnt_none (fun k => ?_) _
  unfold crs
  simp
theorem dcr_up {xs ys : List Vc} (h : tog xs ys = true) (h2 : dmOk 7 ys = true) : dcr xs (dmL 7 ys) ≤ dcr xs ys := by
  rw [dcr_yes h, dcr_yes (dm_tog h h2)]
  refine cnt_le fun k hk hc => ?_
  have := (dm_shift h2).2 k (by rw [← tog_len h]; exact hk)
  unfold crs at hc ⊢
  simp only [decide_eq_true_eq] at hc ⊢
  omega

end Go.Proofs.YticapinlnlpbpaaDoor

namespace Go.Proofs.YticapinlnlpbpaaDoor
open Go.RowKit Go.ChangeShapes Go.WideShapes Go.ChangeAt
set_option maxRecDepth 100000
set_option linter.unusedVariables false

/-- two lists of voices of a draw -/
def DrewTwo8 (w : World) (e : Ending) (w' : World) : Prop :=
  ∃ (v u : Value) (xs ys : List Vc), e = .returned (.tuple #[v, u]) ∧ VV w' v xs ∧ VV w' u ys ∧ Below w.heap.size w w'
set_option maxHeartbeats 2000000 in
theorem drawDiscantCross_any (a : Option Addr) (n cap : Nat) (w : World) (h : CodeAt w a n) (hc : n ≤ cap) (hcap : cap ≤ maxLen) :
    Calls Tryd.prog 37 #[.slice a n cap] w (DrewTwo8 w) := by
  go_enter Tryd.func37, Tryd.ntmps37
  go_wp2_with (fail)
  (go_at_call 62; refine (open_any a n cap _ h hc hcap).mono ?_; rintro e w1 ⟨A, rfl, hr1, hb1, hs1⟩)
  go_wp2_with (fail)
  (go_at_call 61; refine (l92Discant_any w.heap.size A 0 (by omega) _ hr1).mono ?_; rintro e w2 ⟨v, u, xs, ys, rfl, hv, hu, _, _, hg⟩)
  have HE := Lib.hid (below_gb hb1 hg (Nat.le_refl _))
  have HV := Lib.hid hv
  have HU := Lib.hid hu
  clear hr1 hb1 hg hv hu
  go_wp2
  go_ret2
  exact ⟨v, u, xs, ys, rfl, HV.out, HU.out, HE.out⟩

set_option maxHeartbeats 8000000 in
theorem fnCross_walk (a : Option Addr) (n cap : Nat) (w : World) (h : CodeAt w a n) (hc : n ≤ cap) (hcap : cap ≤ maxLen) (ht : StepTab w) :
    Calls Tryd.prog 10 #[.slice a n cap] w fun e w' => e = .returned (.bool true) ∧ Below w.heap.size w w' := by
  by_cases hn : 1048576 < n
  · have g : (1048576 : Int) < (n : Int) := by omega
    clear ht
    go_enter Tryd.func10, Tryd.ntmps10
    go_wp2
    go_ret
    exact ⟨rfl, Below.refl _ _⟩
  have g : decide ((1048576 : Int) < (n : Int)) = false := by simp; omega
  have gn : decide (1048576 < n) = false := decide_eq_false hn
  have HT := Lib.hid ht
  clear ht
  go_enter Tryd.func10, Tryd.ntmps10
  go_wp2_with (fail)
  (go_at_call 37; refine (drawDiscantCross_any a n cap _ h hc hcap).mono ?_; rintro e w1 ⟨v, u, xs, ys, rfl, hv, hu, hb1⟩)
  clear h hc hcap g hn gn
  have HV1 := Lib.hid hv
  have HU1 := Lib.hid hu
  have HW1 := Lib.hid hb1
  have HI := Lib.hid (fun w h k => discantCross_any v u xs ys w h k)
  have HS := Lib.hid (fun w h k => sDiscantCross_any v u xs ys w h k)
  have HI2 := Lib.hid (fun w h k => discantCross_any u v ys xs w k h)
  have HI3 := Lib.hid (fun w h => discantCross_any v v xs xs w h h)
  have HM := Lib.hid (fun w h ht => discantMove_any u 7 ys w h ht)
  have HP := Lib.hid (fun w h => partBeats_any v xs w h)
  have HI4 := Lib.hid (fun q w h k => discantCross_any v q xs (dmL 7 ys) w h k)
  unfold VBuilt2 at HM
  clear hv hu hb1
  obtain ⟨z, hz⟩ : ∃ z, dcr xs ys = z := ⟨_, rfl⟩
  have hzb := dcr_in xs ys
  have hyb := dcr_in ys xs
  have hub := dcr_in xs (dmL 7 ys)
  have hpb := pbt_in xs
  rw [hz] at HI HS hzb
  cases ht : tog xs ys with
  | false =>
    have hz1 : z = -1 := by rw [← hz, dcr_no ht]
    subst hz1
    clear ht hz HI2 HI3 HM HP HI4 hyb hub hpb
    go_wp2_with (fail)
    (go_at_call 38; refine (HI.out _ HV1.out HU1.out).mono ?_; rintro e w2 ⟨rfl, hb2⟩)
    have HV2 := Lib.hid (HV1.out.below hb2)
    have HU2 := Lib.hid (HU1.out.below hb2)
    have HW2 := Lib.hid (bl_step HW1.out hb2)
    clear hb2
    go_wp2_with (fail)
    (go_at_call 39; refine (HS.out _ HV2.out HU2.out).mono ?_; rintro e w3 ⟨rfl, hb3⟩)
    have HW3 := Lib.hid (bl_step HW2.out hb3)
    clear hb3
    go_wp2
    go_ret
    exact ⟨rfl, HW3.out⟩
  | true =>
    have hz0 : 0 ≤ z := by rw [← hz, dcr_yes ht]; exact (cnt_in _ _).1
    have hbo := dcr_both ht
    have hse := dcr_self ht
    have hup := fun e : dmOk 7 ys = true => dcr_up ht e
    rw [hz] at hbo hup
    rw [hse] at HI3
    have gz : decide (z < 0) = false := decide_eq_false (by omega)
    clear ht hz hse
    generalize dcr ys xs = y at HI2 hyb hbo
    generalize dcr xs (dmL 7 ys) = x at HI4 hub hup
    generalize dmL 7 ys = qs at HM HI4
    generalize pbt xs = p at HP hpb hbo
    have wz : IntKind.i64.wrap (z + y) = z + y := IntWalk.i64_in _ (by omega)
    have gb : decide (z + y ≤ p) = true := decide_eq_true hbo
    go_wp2_with (fail)
    (go_at_call 38; refine (HI.out _ HV1.out HU1.out).mono ?_; rintro e w2 ⟨rfl, hb2⟩)
    have HV2 := Lib.hid (HV1.out.below hb2)
    have HU2 := Lib.hid (HU1.out.below hb2)
    have HW2 := Lib.hid (bl_step HW1.out hb2)
    clear hb2
    go_wp2_with (fail)
    (go_at_call 39; refine (HS.out _ HV2.out HU2.out).mono ?_; rintro e w3 ⟨rfl, hb3⟩)
    have HV3 := Lib.hid (HV2.out.below hb3)
    have HU3 := Lib.hid (HU2.out.below hb3)
    have HW3 := Lib.hid (bl_step HW2.out hb3)
    have HT3 := Lib.hid (HT.out.below HW3.out)
    clear hb3
    go_wp2_with (fail)
    (go_at_call 26; refine (HM.out _ HU3.out HT3.out).mono ?_; rintro e w4 ⟨vq, rfl, rq, hb4⟩)
    have HV4 := Lib.hid (HV3.out.below hb4)
    have HU4 := Lib.hid (HU3.out.below hb4)
    have HQ4 := Lib.hid rq.view
    have HW4 := Lib.hid (bl_step HW3.out hb4)
    clear hb4 rq
    go_wp2_with (fail)
    (go_at_call 38; refine (HI2.out _ HV4.out HU4.out).mono ?_; rintro e w5 ⟨rfl, hb5⟩)
    have HV5 := Lib.hid (HV4.out.below hb5)
    have HQ5 := Lib.hid (HQ4.out.below hb5)
    have HW5 := Lib.hid (bl_step HW4.out hb5)
    clear hb5
    go_wp2_with (fail)
    (go_at_call 32; refine (HP.out _ HV5.out).mono ?_; rintro e w6 ⟨rfl, hb6⟩)
    have HV6 := Lib.hid (HV5.out.below hb6)
    have HQ6 := Lib.hid (HQ5.out.below hb6)
    have HW6 := Lib.hid (bl_step HW5.out hb6)
    clear hb6
    go_wp2_with (fail)
    (go_at_call 38; refine (HI3.out _ HV6.out).mono ?_; rintro e w7 ⟨rfl, hb7⟩)
    have HV7 := Lib.hid (HV6.out.below hb7)
    have HQ7 := Lib.hid (HQ6.out.below hb7)
    have HW7 := Lib.hid (bl_step HW6.out hb7)
    clear hb7
    cases hd : dmOk 7 ys with
    | false =>
      clear HI4 hup
      go_wp2
      go_ret
      exact ⟨rfl, HW7.out⟩
    | true =>
      have gx : decide (x ≤ z) = true := decide_eq_true (hup hd)
      clear hup
      go_wp2_with (fail)
      (go_at_call 38; refine (HI4.out _ _ HV7.out HQ7.out).mono ?_; rintro e w8 ⟨rfl, hb8⟩)
      have HW8 := Lib.hid (bl_step HW7.out hb8)
      clear hb8
      go_wp2
      go_ret
      exact ⟨rfl, HW8.out⟩
noncomputable def fnCross_world (os : Os) : World := { World.holding Tryd.prog os ⟨#[], #[], []⟩ with heap := ((World.holding Tryd.prog os ⟨#[], #[], []⟩).heap.modify 1 fun | .cells _ t frozen => .cells #[.int .i64 0, .int .i64 2, .int .i64 4, .int .i64 5, .int .i64 7, .int .i64 9, .int .i64 10] t frozen | o => o) }
theorem fnCross_met (os : Os) : laidMet Tryd.prog Rows.fnCrossRow.laid ((fnCross_world os).forCall (fun _ _ => 0) ⟨#[], #[.slice none 0 0], []⟩).memory :=
  laidMet_of_run' 8 (by kernel_rfl) (by kernel_rfl)
theorem fnCross_reads (os : Os) {H : Type} (enc : TypeId × Value → H) : ∃ places, DataW.whole enc Tryd.prog ((fnCross_world os).forCall (fun _ _ => 0) ⟨#[], #[.slice none 0 0], []⟩).memory Tryd.f10.params.toList Rows.fnCrossSpec.vars false (#[.slice none 0 0] : Array Value).toList 8 = some ([.nil], [Rows.laid_loop_example_neumes_impl_stepHeights], places) :=
  ⟨((DataW.whole enc Tryd.prog ((fnCross_world os).forCall (fun _ _ => 0) ⟨#[], #[.slice none 0 0], []⟩).memory Tryd.f10.params.toList Rows.fnCrossSpec.vars false (#[.slice none 0 0] : Array Value).toList 8).getD ([], [], [])).2.2, by kernel_rfl⟩
set_option maxRecDepth 100000 in
theorem fnCross_lifted (os : Os) (started : os.Started) (H : Type) (enc : TypeId × Value → H) (F : Stop.Interp) :
    ReturnsInHanded {} Tryd.checked os 10 .any ((OpenSpec.ofChange Rows.fnCrossSpec).preRow enc Tryd.prog Tryd.f10 Rows.fnCrossRow.domain false Rows.fnCrossRow.laid) (((OpenSpec.ofChange Rows.fnCrossSpec).at F).post enc Tryd.prog Tryd.f10 false true false false) := by
  obtain ⟨places, hx⟩ := fnCross_reads os enc
  refine returnsInHanded_of_row (C := Tryd.checked) (s := OpenSpec.ofChange Rows.fnCrossSpec) own started (by kernel_rfl) Tryd.func10
    (witness_row_at (enc := enc) (C := Tryd.checked) false (fnCross_world os) #[.slice none 0 0] rfl (by kernel_rfl) (by kernel_rfl) (by kernel_rfl)
      (OpenSpec.preRow_of_cond 8 hx (by kernel_rfl) (fun k hk => by cases hk) (by kernel_rfl) (fnCross_met os))) ?_
  intro W base args ds gs before hval0 hW _ _ _ hL _ _
  have hval : ∀ (j : Nat) t v, Tryd.f10.params[j]? = some t → args[j]? = some v → Value.okWide Tryd.prog W .any base t v := hval0
  have hW' := hW
  obtain ⟨p, q, hA0, hV, rfl, _, _⟩ := hW
  have hA : DataW.TrodAll enc Tryd.prog W 0 (fun _ => true) true Tryd.f10.params.toList args.toList ds p := hA0
  rw [Tryd.params10] at hA hval
  obtain ⟨v0, vs0, d0, ds0, p0, q0, hargs, rfl, rfl, h0, r0⟩ := trodAll_cons hA
  obtain ⟨rfl, rfl, rfl⟩ := trodAll_nil r0
  obtain rfl : args = #[v0] := by cases args; simp_all
  obtain ⟨g0, rfl⟩ := vars1 hV
  obtain ⟨a0, n0, c0, rfl⟩ := okWide_slice Tryd.underlying37 (hval 0 37 v0 rfl rfl)
  have k0 := h0
  have lt0 : ∀ x ∈ p0, x.block < W.heap.size := by obtain ⟨m, hm⟩ := k0; exact DataW.trod_lt m _ _ _ hm
  have y0 := code_in h0
  clear hA0 hval0
  refine (fnCross_walk a0 n0 c0 W y0.1 y0.2.1 y0.2.2 (stepTab hL)).mono fun e W' ⟨he, hb⟩ => ?_
  subst he
  exact ⟨_, rfl, _, _, _, [], _, _, hW', trodAll_cons_mk (shut_bool Tryd.underlying4 _) trodAll_mk0, trodAll_cons_mk (Below.trod laidOut (by kernel_rfl) (of_decide_eq_true (by kernel_rfl)) k0 hb lt0) (trodAll_mk0), hb.trodVars laidOut (by kernel_rfl) hV, hb.frame _, fun h => by cases h⟩



end Go.Proofs.YticapinlnlpbpaaDoor
