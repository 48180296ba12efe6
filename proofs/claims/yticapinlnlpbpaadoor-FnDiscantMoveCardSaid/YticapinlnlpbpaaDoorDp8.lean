/-
  The draw of a part: a list of at most twelve voices in memory of its own.
-/
import Derived.Test.YticapinlnlpbpaaDoorDrawM
import Derived.Test.YticapinlnlpbpaaDoorVb
import Derived.Test.YticapinlnlpbpaaDoorDrh
namespace Go.Proofs.YticapinlnlpbpaaDoor
open Go.RowKit
set_option maxRecDepth 100000
set_option linter.unusedVariables false

theorem news3c {W : World} {s : Int} {b : Bool} {m : Int} {t : TypeId} {g : Nat} (hg : W.heap.size = g) : ∀ j u, ([.int .i64 s, .bool b, .int .i64 m] : List Value)[j]? = some u → (W.alloc (.cells #[.int .i64 s, .bool b, .int .i64 m] t)).cell? ⟨g, j, none⟩ = some u := by
  subst hg
  intro j u hj
  match j, hj with
  | 0, hj => simp at hj; subst hj; simp
  | 1, hj => simp at hj; subst hj; simp
  | 2, hj => simp at hj; subst hj; simp

/-- the drawing loop's state -/
structure DvInv (w wr : World) (B A q : Nat) (v : Value) (xs : List Vc) : Prop where
  own : wr.ownsRow w.heap.size 49 3 v xs.length (vcs xs)
  rd : Rd wr B A q
  gb : w.grownBy wr (some B)
  blk : ∃ g, v.ownBlock = some g
theorem own_some {w : World} {B e z n : Nat} {v : Value} {xs : List Value} (h : w.ownsRow B e z v (n + 1) xs) : ∃ g, v.ownBlock = some g := by
  obtain ⟨_, h0 | ⟨g, cap, cur, hv, _⟩⟩ := h
  · omega
  · exact ⟨g, by rw [hv]; rfl⟩
theorem DvInv.pick {w wr w1 : World} {B A q q' : Nat} {v : Value} {xs : List Vc} (h : DvInv w wr B A q v xs) (hr : Rd w1 B A q') (hg : wr.grownBy w1 (some B)) (hB : B < w.heap.size) : DvInv w w1 B A q' v xs := by
  refine ⟨h.own.kept hg ?_, hr, gb_step h.gb hg, h.blk⟩
  right
  intro e
  have := (h.own.lt B e).1
  omega
theorem DvInv.app {w wr w2 : World} {B A q : Nat} {v v' : Value} {xs : List Vc} {s : Int} {b : Bool} {m : Int} {o : Obj} (h : DvInv w wr B A q v xs) (hB : B < w.heap.size) (hA : A < w.heap.size)
    (hown : w2.ownsRow w.heap.size 49 3 v' (xs.length + 1) (vcs xs ++ [.int .i64 s, .bool b, .int .i64 m])) (hg : (wr.alloc o).grownBy w2 v.ownBlock) : DvInv w w2 B A q v' (xs ++ [((s, b), m)]) := by
  have hlt : ∀ g, v.ownBlock = some g → w.heap.size ≤ g := fun g hg => (h.own.lt g hg).1
  refine ⟨?_, (h.rd.alloc o).grown hg (fun e => by have := hlt B e.symm; omega) (fun e => by have := hlt A e.symm; omega), gb_own h.gb hg hlt, own_some hown⟩
  rw [vcs_app, List.length_append]
  exact hown
theorem DvInv.store {w wr : World} {B A q : Nat} {v : Value} {xs ys : List Vc} {g i : Nat} {u : Value} (h : DvInv w wr B A q v xs) (hv : v.ownBlock = some g) (hB : B < w.heap.size) (hA : A < w.heap.size)
    (hy : vcs ys = (vcs xs).set i u) (hl : ys.length = xs.length) : DvInv w (wr.setCell ⟨g, i, none⟩ u) B A q v ys := by
  have hg := (h.own.lt g hv).1
  refine ⟨?_, h.rd.set_ (by show g ≠ B; omega) (by show g ≠ A; omega) u, ?_, h.blk⟩
  · obtain ⟨hln, h1 | ⟨g', cap, cur, rfl, hb, hh, hc, hm, hsz, htk⟩⟩ := h.own
    · rw [h1.1] at hv; simp [Value.ownBlock] at hv
    · have e : g' = g := by simpa [Value.ownBlock] using hv
      subst e
      rw [hl]
      refine ⟨by rw [vcs_len, hl], .inr ⟨g', cap, cur.setIfInBounds i u, rfl, hb, by simp [World.setCell, Array.getElem?_modify, hh], hc, hm, by simpa using hsz, ?_⟩⟩
      rw [Array.toList_setIfInBounds, hy, ← htk, List.take_set]
  · exact gb_set h.gb (.inr hg) u
theorem DvInv.row {w wr : World} {B A q : Nat} {v : Value} {xs : List Vc} (h : DvInv w wr B A q v xs) : VRow wr w.heap.size wr.heap.size v xs := ⟨h.own, fun g hg => (h.own.lt g hg).2⟩

def PvPicked (B A q : Nat) (w : World) (e : Ending) (w' : World) : Prop :=
  ∃ v xs, e = .returned v ∧ DvInv w w' B A (q + 40) v xs ∧ xs.length ≤ 12
theorem DvInv.done {B A q q' : Nat} {w w' : World} {v : Value} {xs : List Vc} (h : DvInv w w' B A q' v xs) (hq : q' ≤ q + 40) (hl : xs.length ≤ 12) : PvPicked B A q w (.returned v) w' :=
  ⟨v, xs, rfl, ⟨h.own, h.rd.more hq, h.gb, h.blk⟩, hl⟩

set_option maxHeartbeats 4000000 in
theorem l92Part_any (B A q bb0 : Nat) (hb0 : bb0 ≤ 100) (hq : q ≤ 900000) (w : World) (h : Rd w B A q) :
    Calls Tryd.prog 71 #[.pointer (some ⟨B, 0, none⟩), .int .i64 (bb0 : Int)] w (PvPicked B A q w) := by
  obtain ⟨i0, hi0, hq0, hq1, hq2⟩ := info_parts infoVb
  have hB := h.lt
  have hA := h.ltA
  have hI0 : DvInv w (w.alloc (.cells #[] 49)) B A q (.slice (some ⟨w.heap.size, 0, none⟩) 0 0) [] :=
    ⟨(VbInv.start w).own, h.alloc _, gb_alloc (gb_refl _ _) _, ⟨_, rfl⟩⟩
  go_enter Tryd.func71, Tryd.ntmps71
  go_wp2_with (fail)
  (go_at_call 72; refine (pick_any 6 B A q (by omega) (by omega) (by omega) _ hI0.rd).mono ?_; rintro e w1 ⟨k1, rfl, h10, h11, hr1, hb1⟩)
  have HI1 := Lib.hid (hI0.pick hr1 hb1 hB)
  clear hI0 hr1 hb1
  have w5 : IntKind.i64.wrap (5 + k1) = 5 + k1 := IntWalk.i64_in _ (by omega)
  go_wp2
  go_loopw [1, 5, 6] (fun b v st wr => ∃ (bb : Nat) (s : Int) (xs : List Vc), b = .int .i64 (bb : Int) ∧ bb ≤ 100 ∧ st = .int .i64 s ∧ 1 ≤ s ∧ s ≤ 16 ∧ xs.length ≤ 12 ∧ DvInv w wr B A (q + 1 + 3 * xs.length) v xs) (fun b _ _ _ => (intOf b).toNat)
  case atStart => exact ⟨bb0, 5 + k1, [], rfl, hb0, rfl, by omega, by omega, by simp, HI1.out⟩
  case round =>
    obtain ⟨bb, s, xs, rfl, hbb, rfl, s1, s16, hxl, hI⟩ := hrel
    clear HI1
    have HI := Lib.hid hI
    obtain ⟨av, cv, rfl⟩ := hI.row.sl (n := xs.length) rfl
    clear hI
    by_cases hgo : 0 < bb ∧ xs.length < 12
    case neg =>
      have HG : Hid (decide ((0 : Int) < (bb : Int)) = false ∨ (decide ((0 : Int) < (bb : Int)) = true ∧ decide ((xs.length : Int) < 12) = false)) := by
        by_cases h0 : 0 < bb
        · exact .inr ⟨decide_eq_true (by omega), decide_eq_false (by omega)⟩
        · exact .inl (decide_eq_false (by omega))
      have HEND : Hid (∀ q' v' xs' w', DvInv w w' B A q' v' xs' → q' ≤ q + 40 → xs'.length ≤ 12 → PvPicked B A q w (.returned v') w') := fun q' v' xs' w' h1 h2 h3 => h1.done h2 h3
      have hwz := HI.out.gb.size
      rcases HG.out with gb | ⟨gb, gx⟩
      · have g9 : decide (0 < bb) = false := by rw [← gb]; simp
        by_cases hx0 : xs.length = 0
        case pos =>
          have gx0 : decide ((0 : Int) < (xs.length : Int)) = false := decide_eq_false (by omega)
          have gx1 : decide (0 < xs.length) = false := decide_eq_false (by omega)
          have HX := Lib.hid (HEND.out _ _ _ _ HI.out (by omega) hxl)
          clear hx0
          go_wp2
          go_ret
          exact HX.out
        case neg =>
          have gx0 : decide ((0 : Int) < (xs.length : Int)) = true := decide_eq_true (by omega)
          have gx1 : decide (0 < xs.length) = true := decide_eq_true (by omega)
          have gx2 : 0 < xs.length := by omega
          obtain ⟨⟨⟨s0, b0⟩, m0⟩, hx⟩ : ∃ x, xs[0]? = some x := ⟨xs[0], List.getElem?_eq_getElem gx2⟩
          go_wp2_with (fail)
          (go_at_call 72; refine (pick_any 50 B A (q + 1 + 3 * xs.length) (by omega) (by omega) (by omega) _ HI.out.rd).mono ?_; rintro e w2 ⟨k2, rfl, k20, k21, hrw2, hbw2⟩)
          have H := Lib.hid (HI.out.pick hrw2 hbw2 hB)
          clear hrw2 hbw2
          rcases H.out.row.form with ⟨_, h0⟩ | ⟨g, cap, cur, hv, hg, hg2, hgs, hcap, hmax, hh, hsz, htk, hc⟩
          · rw [h0] at gx2; simp at gx2
          injection hv with hv1 _ hv3
          subst hv1 hv3
          obtain ⟨d0, d1, d2⟩ := hc 0 _ hx
          have df : ∀ o, w2.frozen? ⟨g, o, none⟩ = false := fun o => by simp [World.frozen?, hh]
          have HS2 : Hid (∀ W q' z, DvInv w W B A q' (.slice (some ⟨g, 0, none⟩) xs.length cv) xs → DvInv w (W.setCell ⟨g, 2, none⟩ (.int .i64 z)) B A q' (.slice (some ⟨g, 0, none⟩) xs.length cv) (xs.set 0 ((s0, b0), z))) := fun W q' z hW => hW.store rfl hB hA (by cases xs with
            | nil => simp at hx
            | cons u r => simp at hx; subst hx; rfl) (by simp)
          have HS0 : Hid (∀ W q' z, DvInv w W B A q' (.slice (some ⟨g, 0, none⟩) xs.length cv) xs → DvInv w (W.setCell ⟨g, 0, none⟩ (.int .i64 z)) B A q' (.slice (some ⟨g, 0, none⟩) xs.length cv) (xs.set 0 ((z, b0), m0))) := fun W q' z hW => hW.store rfl hB hA (by cases xs with
            | nil => simp at hx
            | cons u r => simp at hx; subst hx; rfl) (by simp)
          simp only [Nat.zero_mul, Nat.zero_add] at d0 d1 d2
          have hgB : g ≠ B := by omega
          clear hc hh hsz htk hx hx0
          by_cases e0 : k2 = 0
          case pos =>
            subst e0
            go_wp2_with (fail)
            (go_at_call 72; refine (pick_any 2 B A (q + 1 + 3 * xs.length + 1) (by omega) (by omega) (by omega) _ (H.out.rd.alloc _)).mono ?_; rintro e w3 ⟨k3, rfl, k30, k31, hrw3, hbw3⟩)
            have hwB : w2.heap.size ≠ B := by have := H.out.gb.size; omega
            have hn2 := (hbw3.block w2.heap.size (by simp) (by simpa using hwB)).trans (heap_alloc_new w2 _)
            have e4 : w3.cell? ⟨w2.heap.size, k3.toNat, none⟩ = some (.int .i64 (sel3 0 4 0 k3)) := by simp [World.cell?, hn2, sel2_arr k30 k31]
            have Ha : DvInv w (w2.alloc (.cells #[.int .i64 0, .int .i64 4] 3)) B A (q + 1 + 3 * xs.length + 1) (.slice (some ⟨g, 0, none⟩) xs.length cv) xs := ⟨H.out.own.alloc _, H.out.rd.alloc _, gb_alloc H.out.gb _, H.out.blk⟩
            have HA3 := Lib.hid (Ha.pick hrw3 hbw3 hB)
            have f3 : ∀ o, w3.frozen? ⟨g, o, none⟩ = false := fun o => by
              rcases HA3.out.row.form with ⟨h9, _⟩ | ⟨g9, _, cur9, hv9, _, _, _, _, _, hh9, _⟩
              · cases h9
              · injection hv9 with hv9
                injection hv9 with hv9
                injection hv9 with hv9
                subst hv9
                simp [World.frozen?, hh9]
            have c3 : ∃ u, w3.cell? ⟨g, 2, none⟩ = some u := by
              have hb := hbw3.block g (by simp; omega) (fun e => hgB (by injection e))
              exact ⟨.int .i64 m0, by rw [show w3.cell? ⟨g, 2, none⟩ = (w2.alloc (.cells #[.int .i64 0, .int .i64 4] 3)).cell? ⟨g, 2, none⟩ by simp only [World.cell?, hb], World.cell?_alloc_lt _ _ _ hgs]; exact d2⟩
            obtain ⟨u3, c3⟩ := c3
            have HX := Lib.hid (HEND.out _ _ _ _ (HS2.out _ _ (sel3 0 4 0 k3) HA3.out) (by omega) (by simp; exact hxl))
            have hk30 : (0 : Int) ≤ k3 := k30
            clear hn2 Ha hrw3 hbw3
            go_wp2
            go_ret
            exact HX.out
          case neg =>
            have g5 : (k2 == 0) = false := beq_eq_false_iff_ne.2 e0
            have g6 : decide (k2 = 0) = false := decide_eq_false e0
            by_cases e1 : k2 = 1
            case pos =>
              subst e1
              have HX := Lib.hid (HEND.out _ _ _ _ (HS0.out _ _ 21 H.out) (by omega) (by simp; exact hxl))
              go_wp2
              go_ret
              exact HX.out
            case neg =>
              have g7 : (k2 == 1) = false := beq_eq_false_iff_ne.2 e1
              have g8 : decide (k2 = 1) = false := decide_eq_false e1
              have HX := Lib.hid (HEND.out _ _ _ _ H.out (by omega) hxl)
              go_wp2
              go_ret
              exact HX.out
      · have g9 : decide (0 < bb) = true := by rw [← gb]; simp
        have g10 : decide (xs.length < 12) = false := by rw [← gx]; simp; omega
        by_cases hx0 : xs.length = 0
        case pos =>
          have gx0 : decide ((0 : Int) < (xs.length : Int)) = false := decide_eq_false (by omega)
          have gx1 : decide (0 < xs.length) = false := decide_eq_false (by omega)
          have HX := Lib.hid (HEND.out _ _ _ _ HI.out (by omega) hxl)
          clear hx0
          go_wp2
          go_ret
          exact HX.out
        case neg =>
          have gx0 : decide ((0 : Int) < (xs.length : Int)) = true := decide_eq_true (by omega)
          have gx1 : decide (0 < xs.length) = true := decide_eq_true (by omega)
          have gx2 : 0 < xs.length := by omega
          obtain ⟨⟨⟨s0, b0⟩, m0⟩, hx⟩ : ∃ x, xs[0]? = some x := ⟨xs[0], List.getElem?_eq_getElem gx2⟩
          go_wp2_with (fail)
          (go_at_call 72; refine (pick_any 50 B A (q + 1 + 3 * xs.length) (by omega) (by omega) (by omega) _ HI.out.rd).mono ?_; rintro e w2 ⟨k2, rfl, k20, k21, hrw2, hbw2⟩)
          have H := Lib.hid (HI.out.pick hrw2 hbw2 hB)
          clear hrw2 hbw2
          rcases H.out.row.form with ⟨_, h0⟩ | ⟨g, cap, cur, hv, hg, hg2, hgs, hcap, hmax, hh, hsz, htk, hc⟩
          · rw [h0] at gx2; simp at gx2
          injection hv with hv1 _ hv3
          subst hv1 hv3
          obtain ⟨d0, d1, d2⟩ := hc 0 _ hx
          have df : ∀ o, w2.frozen? ⟨g, o, none⟩ = false := fun o => by simp [World.frozen?, hh]
          have HS2 : Hid (∀ W q' z, DvInv w W B A q' (.slice (some ⟨g, 0, none⟩) xs.length cv) xs → DvInv w (W.setCell ⟨g, 2, none⟩ (.int .i64 z)) B A q' (.slice (some ⟨g, 0, none⟩) xs.length cv) (xs.set 0 ((s0, b0), z))) := fun W q' z hW => hW.store rfl hB hA (by cases xs with
            | nil => simp at hx
            | cons u r => simp at hx; subst hx; rfl) (by simp)
          have HS0 : Hid (∀ W q' z, DvInv w W B A q' (.slice (some ⟨g, 0, none⟩) xs.length cv) xs → DvInv w (W.setCell ⟨g, 0, none⟩ (.int .i64 z)) B A q' (.slice (some ⟨g, 0, none⟩) xs.length cv) (xs.set 0 ((z, b0), m0))) := fun W q' z hW => hW.store rfl hB hA (by cases xs with
            | nil => simp at hx
            | cons u r => simp at hx; subst hx; rfl) (by simp)
          simp only [Nat.zero_mul, Nat.zero_add] at d0 d1 d2
          have hgB : g ≠ B := by omega
          clear hc hh hsz htk hx hx0
          by_cases e0 : k2 = 0
          case pos =>
            subst e0
            go_wp2_with (fail)
            (go_at_call 72; refine (pick_any 2 B A (q + 1 + 3 * xs.length + 1) (by omega) (by omega) (by omega) _ (H.out.rd.alloc _)).mono ?_; rintro e w3 ⟨k3, rfl, k30, k31, hrw3, hbw3⟩)
            have hwB : w2.heap.size ≠ B := by have := H.out.gb.size; omega
            have hn2 := (hbw3.block w2.heap.size (by simp) (by simpa using hwB)).trans (heap_alloc_new w2 _)
            have e4 : w3.cell? ⟨w2.heap.size, k3.toNat, none⟩ = some (.int .i64 (sel3 0 4 0 k3)) := by simp [World.cell?, hn2, sel2_arr k30 k31]
            have Ha : DvInv w (w2.alloc (.cells #[.int .i64 0, .int .i64 4] 3)) B A (q + 1 + 3 * xs.length + 1) (.slice (some ⟨g, 0, none⟩) xs.length cv) xs := ⟨H.out.own.alloc _, H.out.rd.alloc _, gb_alloc H.out.gb _, H.out.blk⟩
            have HA3 := Lib.hid (Ha.pick hrw3 hbw3 hB)
            have f3 : ∀ o, w3.frozen? ⟨g, o, none⟩ = false := fun o => by
              rcases HA3.out.row.form with ⟨h9, _⟩ | ⟨g9, _, cur9, hv9, _, _, _, _, _, hh9, _⟩
              · cases h9
              · injection hv9 with hv9
                injection hv9 with hv9
                injection hv9 with hv9
                subst hv9
                simp [World.frozen?, hh9]
            have c3 : ∃ u, w3.cell? ⟨g, 2, none⟩ = some u := by
              have hb := hbw3.block g (by simp; omega) (fun e => hgB (by injection e))
              exact ⟨.int .i64 m0, by rw [show w3.cell? ⟨g, 2, none⟩ = (w2.alloc (.cells #[.int .i64 0, .int .i64 4] 3)).cell? ⟨g, 2, none⟩ by simp only [World.cell?, hb], World.cell?_alloc_lt _ _ _ hgs]; exact d2⟩
            obtain ⟨u3, c3⟩ := c3
            have HX := Lib.hid (HEND.out _ _ _ _ (HS2.out _ _ (sel3 0 4 0 k3) HA3.out) (by omega) (by simp; exact hxl))
            have hk30 : (0 : Int) ≤ k3 := k30
            clear hn2 Ha hrw3 hbw3
            go_wp2
            go_ret
            exact HX.out
          case neg =>
            have g5 : (k2 == 0) = false := beq_eq_false_iff_ne.2 e0
            have g6 : decide (k2 = 0) = false := decide_eq_false e0
            by_cases e1 : k2 = 1
            case pos =>
              subst e1
              have HX := Lib.hid (HEND.out _ _ _ _ (HS0.out _ _ 21 H.out) (by omega) (by simp; exact hxl))
              go_wp2
              go_ret
              exact HX.out
            case neg =>
              have g7 : (k2 == 1) = false := beq_eq_false_iff_ne.2 e1
              have g8 : decide (k2 = 1) = false := decide_eq_false e1
              have HX := Lib.hid (HEND.out _ _ _ _ H.out (by omega) hxl)
              go_wp2
              go_ret
              exact HX.out
    case pos =>
      obtain ⟨g0, g12⟩ := hgo
      have g1 : (0 : Int) < (bb : Int) := by omega
      have g2 : decide ((xs.length : Int) < 12) = true := decide_eq_true (by omega)
      by_cases h3 : 3 ≤ bb
      case pos =>
        go_wp2_with (fail)
        (go_at_call 72; refine (pick_any 3 B A (q + 1 + 3 * xs.length) (by omega) (by omega) (by omega) _ HI.out.rd).mono ?_; rintro e w2 ⟨k2, rfl, k20, k21, hrw2, hbw2⟩)
        have H := Lib.hid (HI.out.pick hrw2 hbw2 hB)
        clear hrw2 hbw2
        obtain ⟨nb, hnb⟩ : ∃ nb : Nat, 1 + k2 = (nb : Int) := ⟨(1 + k2).toNat, by omega⟩
        have wn : IntKind.i64.wrap (1 + k2) = (nb : Int) := by rw [IntWalk.i64_in _ (by omega)]; exact hnb
        have nb1 : 1 ≤ nb ∧ nb ≤ 3 ∧ nb ≤ bb := by omega
        have wbb : IntKind.i64.wrap ((bb : Int) - (nb : Int)) = ((bb - nb : Nat) : Int) := by rw [IntWalk.i64_in _ (by omega)]; omega
        clear hnb k20 k21
        have HLt := Lib.hid (l1Letter_any s (by omega))
        go_wp2_with (fail)
        (go_at_call 93; refine (HLt.out _).mono ?_; rintro e wx ⟨rfl, rfl⟩)
        by_cases hlt : s % 7 = 2
        case pos =>
          have gl : (s % 7 == 2) = true := beq_iff_eq.2 hlt
          go_wp2_with (fail)
          (go_at_call 72; refine (pick_any 3 B A (q + 1 + 3 * xs.length + 1) (by omega) (by omega) (by omega) _ H.out.rd).mono ?_; rintro e w3 ⟨k3, rfl, k30, k31, hrw3, hbw3⟩)
          have H := Lib.hid (H.out.pick hrw3 hbw3 hB)
          clear hrw3 hbw3
          have hown := H.out.own
          have hwz := H.out.gb.size
          go_wp2_with (at_builtin; refine wpList_append_own _ rfl _ _ 26 rfl w.heap.size 49 i0 (.agg #[.int .i64 0, .bool false, .int .i64 0]) 3 24 Tryd.underlying26 hi0 hq0 hq1 hq2 rfl (by decide) _ _ _ rfl (hown.alloc _) ⟨w3.heap.size, 0, none⟩ 1 1 [.int .i64 s, .bool (k3 == 0), .int .i64 (nb : Int)] rfl rfl ?c1 news3_one ?c3 ?c4 ?c5 ?_)
          case c1 => first | exact news3 | exact news3c rfl
          case c3 => unfold maxLen; omega
          case c4 => omega
          case c5 => first | omega | (simp; omega)
          intro v' w4 hown' hgrow _
          have H4 := Lib.hid (H.out.app hB hA hown' hgrow)
          clear hown' hgrow hown
          have H := H4
          have hzz : xs.length ≤ 12 := by omega
          go_wp2_with (fail)
          (go_at_call 72; refine (pick_any 5 B A (q + 1 + 3 * xs.length + 2) (by omega) (by omega) (by omega) _ (H.out.rd.more (by omega))).mono ?_; rintro e w5 ⟨k5, rfl, k50, k51, hrw5, hbw5⟩)
          have H5 := Lib.hid (H.out.pick hrw5 hbw5 hB)
          clear hrw5 hbw5
          obtain ⟨z, hz⟩ : ∃ z, s + k5 - 2 = z := ⟨_, rfl⟩
          have wa : IntKind.i64.wrap (s + k5) = s + k5 := IntWalk.i64_in _ (by omega)
          have wb : IntKind.i64.wrap (s + k5 - 2) = z := by rw [IntWalk.i64_in _ (by omega)]; exact hz
          have hlen2 : (xs ++ [((s, (k3 == 0)), (nb : Int))]).length = xs.length + 1 := by simp
          have HR : Hid (DvInv w w5 B A (q + 1 + 3 * (xs ++ [((s, (k3 == 0)), (nb : Int))]).length) v' (xs ++ [((s, (k3 == 0)), (nb : Int))])) := by
            rw [hlen2]
            have h9 := H5.out
            exact ⟨h9.own, h9.rd.more (by omega), h9.gb, h9.blk⟩
          clear hz
          by_cases hA1 : 16 ≤ z
          case pos =>
            have gz : decide ((16 : Int) ≤ z) = true := decide_eq_true hA1
            have gz2 : decide (z ≤ 16) = decide (z = 16) := by by_cases e : z = 16 <;> simp [e] <;> omega
            go_wp2
            go_roundw
            case rel => exact ⟨bb - nb, 16, xs ++ [((s, (k3 == 0)), (nb : Int))], by first | rfl | (congr 1; omega), by omega, by first | rfl | (congr 1; omega), by omega, by omega, by simp; omega, HR.out⟩
            case measure => simp [intOf]; omega
          case neg =>
            by_cases hA2 : z ≤ 1
            case pos =>
              have gz : decide ((16 : Int) ≤ z) = false := decide_eq_false hA1
              have gz2 : decide (z ≤ 16) = true := decide_eq_true (by omega)
              have gz3 : decide ((1 : Int) ≤ z) = decide (z = 1) := by by_cases e : z = 1 <;> simp [e] <;> omega
              go_wp2
              go_roundw
              case rel => exact ⟨bb - nb, 1, xs ++ [((s, (k3 == 0)), (nb : Int))], by first | rfl | (congr 1; omega), by omega, by first | rfl | (congr 1; omega), by omega, by omega, by simp; omega, HR.out⟩
              case measure => simp [intOf]; omega
            case neg =>
              have gz : decide ((16 : Int) ≤ z) = false := decide_eq_false hA1
              have gz2 : decide (z ≤ 16) = true := decide_eq_true (by omega)
              have gz3 : decide ((1 : Int) ≤ z) = true := decide_eq_true (by omega)
              have gz4 : decide (z ≤ 1) = false := decide_eq_false hA2
              go_wp2
              go_roundw
              case rel => exact ⟨bb - nb, z, xs ++ [((s, (k3 == 0)), (nb : Int))], by first | rfl | (congr 1; omega), by omega, by first | rfl | (congr 1; omega), by omega, by omega, by simp; omega, HR.out⟩
              case measure => simp [intOf]; omega
        case neg =>
          have gl : (s % 7 == 2) = false := beq_eq_false_iff_ne.2 hlt
          have gl2 : decide (s % 7 = 2) = false := decide_eq_false hlt
          have hown := H.out.own
          have hwz := H.out.gb.size
          go_wp2_with (at_builtin; refine wpList_append_own _ rfl _ _ 26 rfl w.heap.size 49 i0 (.agg #[.int .i64 0, .bool false, .int .i64 0]) 3 24 Tryd.underlying26 hi0 hq0 hq1 hq2 rfl (by decide) _ _ _ rfl (hown.alloc _) ⟨w2.heap.size, 0, none⟩ 1 1 [.int .i64 s, .bool false, .int .i64 (nb : Int)] rfl rfl ?c1 news3_one ?c3 ?c4 ?c5 ?_)
          case c1 => first | exact news3 | exact news3c rfl
          case c3 => unfold maxLen; omega
          case c4 => omega
          case c5 => first | omega | (simp; omega)
          intro v' w4 hown' hgrow _
          have H4 := Lib.hid (H.out.app hB hA hown' hgrow)
          clear hown' hgrow hown
          have H := H4
          have hzz : xs.length ≤ 12 := by omega
          go_wp2_with (fail)
          (go_at_call 72; refine (pick_any 5 B A (q + 1 + 3 * xs.length + 2) (by omega) (by omega) (by omega) _ (H.out.rd.more (by omega))).mono ?_; rintro e w5 ⟨k5, rfl, k50, k51, hrw5, hbw5⟩)
          have H5 := Lib.hid (H.out.pick hrw5 hbw5 hB)
          clear hrw5 hbw5
          obtain ⟨z, hz⟩ : ∃ z, s + k5 - 2 = z := ⟨_, rfl⟩
          have wa : IntKind.i64.wrap (s + k5) = s + k5 := IntWalk.i64_in _ (by omega)
          have wb : IntKind.i64.wrap (s + k5 - 2) = z := by rw [IntWalk.i64_in _ (by omega)]; exact hz
          have hlen2 : (xs ++ [((s, false), (nb : Int))]).length = xs.length + 1 := by simp
          have HR : Hid (DvInv w w5 B A (q + 1 + 3 * (xs ++ [((s, false), (nb : Int))]).length) v' (xs ++ [((s, false), (nb : Int))])) := by
            rw [hlen2]
            have h9 := H5.out
            exact ⟨h9.own, h9.rd.more (by omega), h9.gb, h9.blk⟩
          clear hz
          by_cases hA1 : 16 ≤ z
          case pos =>
            have gz : decide ((16 : Int) ≤ z) = true := decide_eq_true hA1
            have gz2 : decide (z ≤ 16) = decide (z = 16) := by by_cases e : z = 16 <;> simp [e] <;> omega
            go_wp2
            go_roundw
            case rel => exact ⟨bb - nb, 16, xs ++ [((s, false), (nb : Int))], by first | rfl | (congr 1; omega), by omega, by first | rfl | (congr 1; omega), by omega, by omega, by simp; omega, HR.out⟩
            case measure => simp [intOf]; omega
          case neg =>
            by_cases hA2 : z ≤ 1
            case pos =>
              have gz : decide ((16 : Int) ≤ z) = false := decide_eq_false hA1
              have gz2 : decide (z ≤ 16) = true := decide_eq_true (by omega)
              have gz3 : decide ((1 : Int) ≤ z) = decide (z = 1) := by by_cases e : z = 1 <;> simp [e] <;> omega
              go_wp2
              go_roundw
              case rel => exact ⟨bb - nb, 1, xs ++ [((s, false), (nb : Int))], by first | rfl | (congr 1; omega), by omega, by first | rfl | (congr 1; omega), by omega, by omega, by simp; omega, HR.out⟩
              case measure => simp [intOf]; omega
            case neg =>
              have gz : decide ((16 : Int) ≤ z) = false := decide_eq_false hA1
              have gz2 : decide (z ≤ 16) = true := decide_eq_true (by omega)
              have gz3 : decide ((1 : Int) ≤ z) = true := decide_eq_true (by omega)
              have gz4 : decide (z ≤ 1) = false := decide_eq_false hA2
              go_wp2
              go_roundw
              case rel => exact ⟨bb - nb, z, xs ++ [((s, false), (nb : Int))], by first | rfl | (congr 1; omega), by omega, by first | rfl | (congr 1; omega), by omega, by omega, by simp; omega, HR.out⟩
              case measure => simp [intOf]; omega
      case neg =>
        have h3n : decide (3 ≤ bb) = false := decide_eq_false h3
        have h3m : (bb : Int) ≤ 3 := by omega
        have h3z : decide ((3 : Int) ≤ (bb : Int)) = false := decide_eq_false (by omega)
        go_wp2_with (fail)
        (go_at_call 72; refine (pick_any (bb : Int) B A (q + 1 + 3 * xs.length) (by omega) (by omega) (by omega) _ HI.out.rd).mono ?_; rintro e w2 ⟨k2, rfl, k20, k21, hrw2, hbw2⟩)
        have H := Lib.hid (HI.out.pick hrw2 hbw2 hB)
        clear hrw2 hbw2
        obtain ⟨nb, hnb⟩ : ∃ nb : Nat, 1 + k2 = (nb : Int) := ⟨(1 + k2).toNat, by omega⟩
        have wn : IntKind.i64.wrap (1 + k2) = (nb : Int) := by rw [IntWalk.i64_in _ (by omega)]; exact hnb
        have nb1 : 1 ≤ nb ∧ nb ≤ 3 ∧ nb ≤ bb := by omega
        have wbb : IntKind.i64.wrap ((bb : Int) - (nb : Int)) = ((bb - nb : Nat) : Int) := by rw [IntWalk.i64_in _ (by omega)]; omega
        clear hnb k20 k21
        have HLt := Lib.hid (l1Letter_any s (by omega))
        go_wp2_with (fail)
        (go_at_call 93; refine (HLt.out _).mono ?_; rintro e wx ⟨rfl, rfl⟩)
        by_cases hlt : s % 7 = 2
        case pos =>
          have gl : (s % 7 == 2) = true := beq_iff_eq.2 hlt
          go_wp2_with (fail)
          (go_at_call 72; refine (pick_any 3 B A (q + 1 + 3 * xs.length + 1) (by omega) (by omega) (by omega) _ H.out.rd).mono ?_; rintro e w3 ⟨k3, rfl, k30, k31, hrw3, hbw3⟩)
          have H := Lib.hid (H.out.pick hrw3 hbw3 hB)
          clear hrw3 hbw3
          have hown := H.out.own
          have hwz := H.out.gb.size
          go_wp2_with (at_builtin; refine wpList_append_own _ rfl _ _ 26 rfl w.heap.size 49 i0 (.agg #[.int .i64 0, .bool false, .int .i64 0]) 3 24 Tryd.underlying26 hi0 hq0 hq1 hq2 rfl (by decide) _ _ _ rfl (hown.alloc _) ⟨w3.heap.size, 0, none⟩ 1 1 [.int .i64 s, .bool (k3 == 0), .int .i64 (nb : Int)] rfl rfl ?c1 news3_one ?c3 ?c4 ?c5 ?_)
          case c1 => first | exact news3 | exact news3c rfl
          case c3 => unfold maxLen; omega
          case c4 => omega
          case c5 => first | omega | (simp; omega)
          intro v' w4 hown' hgrow _
          have H4 := Lib.hid (H.out.app hB hA hown' hgrow)
          clear hown' hgrow hown
          have H := H4
          have hzz : xs.length ≤ 12 := by omega
          go_wp2_with (fail)
          (go_at_call 72; refine (pick_any 5 B A (q + 1 + 3 * xs.length + 2) (by omega) (by omega) (by omega) _ (H.out.rd.more (by omega))).mono ?_; rintro e w5 ⟨k5, rfl, k50, k51, hrw5, hbw5⟩)
          have H5 := Lib.hid (H.out.pick hrw5 hbw5 hB)
          clear hrw5 hbw5
          obtain ⟨z, hz⟩ : ∃ z, s + k5 - 2 = z := ⟨_, rfl⟩
          have wa : IntKind.i64.wrap (s + k5) = s + k5 := IntWalk.i64_in _ (by omega)
          have wb : IntKind.i64.wrap (s + k5 - 2) = z := by rw [IntWalk.i64_in _ (by omega)]; exact hz
          have hlen2 : (xs ++ [((s, (k3 == 0)), (nb : Int))]).length = xs.length + 1 := by simp
          have HR : Hid (DvInv w w5 B A (q + 1 + 3 * (xs ++ [((s, (k3 == 0)), (nb : Int))]).length) v' (xs ++ [((s, (k3 == 0)), (nb : Int))])) := by
            rw [hlen2]
            have h9 := H5.out
            exact ⟨h9.own, h9.rd.more (by omega), h9.gb, h9.blk⟩
          clear hz
          by_cases hA1 : 16 ≤ z
          case pos =>
            have gz : decide ((16 : Int) ≤ z) = true := decide_eq_true hA1
            have gz2 : decide (z ≤ 16) = decide (z = 16) := by by_cases e : z = 16 <;> simp [e] <;> omega
            go_wp2
            go_roundw
            case rel => exact ⟨bb - nb, 16, xs ++ [((s, (k3 == 0)), (nb : Int))], by first | rfl | (congr 1; omega), by omega, by first | rfl | (congr 1; omega), by omega, by omega, by simp; omega, HR.out⟩
            case measure => simp [intOf]; omega
          case neg =>
            by_cases hA2 : z ≤ 1
            case pos =>
              have gz : decide ((16 : Int) ≤ z) = false := decide_eq_false hA1
              have gz2 : decide (z ≤ 16) = true := decide_eq_true (by omega)
              have gz3 : decide ((1 : Int) ≤ z) = decide (z = 1) := by by_cases e : z = 1 <;> simp [e] <;> omega
              go_wp2
              go_roundw
              case rel => exact ⟨bb - nb, 1, xs ++ [((s, (k3 == 0)), (nb : Int))], by first | rfl | (congr 1; omega), by omega, by first | rfl | (congr 1; omega), by omega, by omega, by simp; omega, HR.out⟩
              case measure => simp [intOf]; omega
            case neg =>
              have gz : decide ((16 : Int) ≤ z) = false := decide_eq_false hA1
              have gz2 : decide (z ≤ 16) = true := decide_eq_true (by omega)
              have gz3 : decide ((1 : Int) ≤ z) = true := decide_eq_true (by omega)
              have gz4 : decide (z ≤ 1) = false := decide_eq_false hA2
              go_wp2
              go_roundw
              case rel => exact ⟨bb - nb, z, xs ++ [((s, (k3 == 0)), (nb : Int))], by first | rfl | (congr 1; omega), by omega, by first | rfl | (congr 1; omega), by omega, by omega, by simp; omega, HR.out⟩
              case measure => simp [intOf]; omega
        case neg =>
          have gl : (s % 7 == 2) = false := beq_eq_false_iff_ne.2 hlt
          have gl2 : decide (s % 7 = 2) = false := decide_eq_false hlt
          have hown := H.out.own
          have hwz := H.out.gb.size
          go_wp2_with (at_builtin; refine wpList_append_own _ rfl _ _ 26 rfl w.heap.size 49 i0 (.agg #[.int .i64 0, .bool false, .int .i64 0]) 3 24 Tryd.underlying26 hi0 hq0 hq1 hq2 rfl (by decide) _ _ _ rfl (hown.alloc _) ⟨w2.heap.size, 0, none⟩ 1 1 [.int .i64 s, .bool false, .int .i64 (nb : Int)] rfl rfl ?c1 news3_one ?c3 ?c4 ?c5 ?_)
          case c1 => first | exact news3 | exact news3c rfl
          case c3 => unfold maxLen; omega
          case c4 => omega
          case c5 => first | omega | (simp; omega)
          intro v' w4 hown' hgrow _
          have H4 := Lib.hid (H.out.app hB hA hown' hgrow)
          clear hown' hgrow hown
          have H := H4
          have hzz : xs.length ≤ 12 := by omega
          go_wp2_with (fail)
          (go_at_call 72; refine (pick_any 5 B A (q + 1 + 3 * xs.length + 2) (by omega) (by omega) (by omega) _ (H.out.rd.more (by omega))).mono ?_; rintro e w5 ⟨k5, rfl, k50, k51, hrw5, hbw5⟩)
          have H5 := Lib.hid (H.out.pick hrw5 hbw5 hB)
          clear hrw5 hbw5
          obtain ⟨z, hz⟩ : ∃ z, s + k5 - 2 = z := ⟨_, rfl⟩
          have wa : IntKind.i64.wrap (s + k5) = s + k5 := IntWalk.i64_in _ (by omega)
          have wb : IntKind.i64.wrap (s + k5 - 2) = z := by rw [IntWalk.i64_in _ (by omega)]; exact hz
          have hlen2 : (xs ++ [((s, false), (nb : Int))]).length = xs.length + 1 := by simp
          have HR : Hid (DvInv w w5 B A (q + 1 + 3 * (xs ++ [((s, false), (nb : Int))]).length) v' (xs ++ [((s, false), (nb : Int))])) := by
            rw [hlen2]
            have h9 := H5.out
            exact ⟨h9.own, h9.rd.more (by omega), h9.gb, h9.blk⟩
          clear hz
          by_cases hA1 : 16 ≤ z
          case pos =>
            have gz : decide ((16 : Int) ≤ z) = true := decide_eq_true hA1
            have gz2 : decide (z ≤ 16) = decide (z = 16) := by by_cases e : z = 16 <;> simp [e] <;> omega
            go_wp2
            go_roundw
            case rel => exact ⟨bb - nb, 16, xs ++ [((s, false), (nb : Int))], by first | rfl | (congr 1; omega), by omega, by first | rfl | (congr 1; omega), by omega, by omega, by simp; omega, HR.out⟩
            case measure => simp [intOf]; omega
          case neg =>
            by_cases hA2 : z ≤ 1
            case pos =>
              have gz : decide ((16 : Int) ≤ z) = false := decide_eq_false hA1
              have gz2 : decide (z ≤ 16) = true := decide_eq_true (by omega)
              have gz3 : decide ((1 : Int) ≤ z) = decide (z = 1) := by by_cases e : z = 1 <;> simp [e] <;> omega
              go_wp2
              go_roundw
              case rel => exact ⟨bb - nb, 1, xs ++ [((s, false), (nb : Int))], by first | rfl | (congr 1; omega), by omega, by first | rfl | (congr 1; omega), by omega, by omega, by simp; omega, HR.out⟩
              case measure => simp [intOf]; omega
            case neg =>
              have gz : decide ((16 : Int) ≤ z) = false := decide_eq_false hA1
              have gz2 : decide (z ≤ 16) = true := decide_eq_true (by omega)
              have gz3 : decide ((1 : Int) ≤ z) = true := decide_eq_true (by omega)
              have gz4 : decide (z ≤ 1) = false := decide_eq_false hA2
              go_wp2
              go_roundw
              case rel => exact ⟨bb - nb, z, xs ++ [((s, false), (nb : Int))], by first | rfl | (congr 1; omega), by omega, by first | rfl | (congr 1; omega), by omega, by omega, by simp; omega, HR.out⟩
              case measure => simp [intOf]; omega
end Go.Proofs.YticapinlnlpbpaaDoor
