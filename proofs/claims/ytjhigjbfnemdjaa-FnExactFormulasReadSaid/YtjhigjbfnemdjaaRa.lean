/-
  Further readings taken in.
-/
import Derived.Test.YtjhigjbfnemdjaaRb
import Derived.BigRegion
import Derived.Deep.Cut
import Derived.Deep.CutRange
namespace Go.Proofs.Ytjhigjbfnemdjaa
open Go.RowKit
set_option maxRecDepth 100000
set_option linter.unusedVariables false

theorem IB.keepT [Lo] {w w' : World} {x : Value} {zs : List Int} (h : IB w x zs) (hk : ∀ (g : Nat) (cur : Array Value), w.heap[g]? = some (.cells cur 3 (0, 0)) → w'.heap[g]? = w.heap[g]?) : IB w' x zs := by
  obtain ⟨hl, h1 | ⟨g, cap, cur, rfl, hg, hh, hr⟩⟩ := h
  · exact ⟨hl, .inl h1⟩
  · exact ⟨hl, .inr ⟨g, cap, cur, rfl, hg, (hk g cur hh).trans hh, hr⟩⟩
/-- only block t turns, and new ones -/
structure FrT (t : Nat) (w w' : World) : Prop where
  os : w'.os = w.os
  tape : w'.tape = w.tape
  output : w'.output = w.output
  size : w.heap.size ≤ w'.heap.size
  block : ∀ j, j < w.heap.size → j ≠ t → w'.heap[j]? = w.heap[j]?
theorem FrT.refl (t : Nat) (w : World) : FrT t w w := ⟨rfl, rfl, rfl, Nat.le_refl _, fun _ _ _ => rfl⟩
/-- block t holds what is kept of r -/
def Kept (w : World) (t : Nat) (r : Rs) (x : Value) : Prop := w.heap[t]? = some (.cells (rdC r x) 69 (0, 0))
theorem Kept.cell {w : World} {t : Nat} {r : Rs} {x : Value} (h : Kept w t r x) {i : Nat} {v : Value} (hv : (rdC r x)[i]? = some v) : w.cell? ⟨t, i, none⟩ = some v := by
  unfold Kept at h
  simp [World.cell?, h, hv]
theorem Kept.c0 {w : World} {t : Nat} {r : Rs} {x : Value} (h : Kept w t r x) : w.cell? ⟨t, 0, none⟩ = some (.int .i64 r.many) := h.cell rfl
theorem Kept.c1 {w : World} {t : Nat} {r : Rs} {x : Value} (h : Kept w t r x) : w.cell? ⟨t, 1, none⟩ = some (.int .i64 r.few) := h.cell rfl
theorem Kept.c2 {w : World} {t : Nat} {r : Rs} {x : Value} (h : Kept w t r x) : w.cell? ⟨t, 2, none⟩ = some (.int .i64 r.wt) := h.cell rfl
theorem Kept.c3 {w : World} {t : Nat} {r : Rs} {x : Value} (h : Kept w t r x) : w.cell? ⟨t, 3, none⟩ = some (x) := h.cell rfl
theorem Kept.c4 {w : World} {t : Nat} {r : Rs} {x : Value} (h : Kept w t r x) : w.cell? ⟨t, 4, none⟩ = some (.bool (r.used 0)) := h.cell rfl
theorem Kept.c5 {w : World} {t : Nat} {r : Rs} {x : Value} (h : Kept w t r x) : w.cell? ⟨t, 5, none⟩ = some (.bool (r.used 1)) := h.cell rfl
theorem Kept.c6 {w : World} {t : Nat} {r : Rs} {x : Value} (h : Kept w t r x) : w.cell? ⟨t, 6, none⟩ = some (.bool (r.used 2)) := h.cell rfl
theorem Kept.c7 {w : World} {t : Nat} {r : Rs} {x : Value} (h : Kept w t r x) : w.cell? ⟨t, 7, none⟩ = some (.bool (r.used 3)) := h.cell rfl
theorem Kept.c8 {w : World} {t : Nat} {r : Rs} {x : Value} (h : Kept w t r x) : w.cell? ⟨t, 8, none⟩ = some (.bool (r.used 4)) := h.cell rfl
theorem Kept.c9 {w : World} {t : Nat} {r : Rs} {x : Value} (h : Kept w t r x) : w.cell? ⟨t, 9, none⟩ = some (.bool (r.used 5)) := h.cell rfl
theorem Kept.c10 {w : World} {t : Nat} {r : Rs} {x : Value} (h : Kept w t r x) : w.cell? ⟨t, 10, none⟩ = some (.bool (r.used 6)) := h.cell rfl
theorem Kept.c11 {w : World} {t : Nat} {r : Rs} {x : Value} (h : Kept w t r x) : w.cell? ⟨t, 11, none⟩ = some (.bool (r.used 7)) := h.cell rfl
theorem Kept.free {w : World} {t : Nat} {r : Rs} {x : Value} (h : Kept w t r x) (o : Nat) : w.frozen? ⟨t, o, none⟩ = false := by
  unfold Kept at h
  simp [World.frozen?, h]
theorem Kept.lt {w : World} {t : Nat} {r : Rs} {x : Value} (h : Kept w t r x) : t < w.heap.size := by
  unfold Kept at h
  rcases Nat.lt_or_ge t w.heap.size with g | g
  · exact g
  · rw [Array.getElem?_eq_none g] at h; cases h
/-- where adding stands: block t holds r, block B the readings f that come in -/
structure AdS (w wx : World) (t : Nat) (r f : Rs) (x y : Value) : Prop where
  tc : Kept wx t r x
  bc : Kept wx w.heap.size f y
  fr : FrT t w wx
theorem AdS.drew {w wx : World} {t : Nat} {r f : Rs} {x y : Value} (h : AdS w wx t r f x y) : AdS w wx.drew t r f x y := ⟨h.tc, h.bc, ⟨h.fr.os, h.fr.tape, h.fr.output, h.fr.size, h.fr.block⟩⟩
theorem AdS.drewN {w wx : World} {t : Nat} {r f : Rs} {x y : Value} (h : AdS w wx t r f x y) (n : Nat) : AdS w (wx.drewN n) t r f x y := ⟨h.tc, h.bc, ⟨h.fr.os, h.fr.tape, h.fr.output, h.fr.size, h.fr.block⟩⟩
theorem AdS.set {w wx : World} {t : Nat} {r f r2 : Rs} {x y x2 : Value} (h : AdS w wx t r f x y) (ht : t < w.heap.size) {i : Nat} {v : Value} (e : (rdC r x).setIfInBounds i v = rdC r2 x2) : AdS w (wx.setCell ⟨t, i, none⟩ v) t r2 f x2 y := by
  obtain ⟨h1, h2, h3⟩ := h
  refine ⟨?_, ?_, ⟨h3.os, h3.tape, h3.output, by simpa [World.setCell] using h3.size, fun j hj hne => ?_⟩⟩
  · unfold Kept at h1 ⊢
    simp [World.setCell, Array.getElem?_modify, h1, e]
  · unfold Kept at h2 ⊢
    rw [Below.heap_setCell _ _ _ _ (by simp; omega)]
    exact h2
  · rw [Below.heap_setCell _ _ _ _ (fun e => hne (by simpa using e))]
    exact h3.block j hj hne

/-- adding, step by step -/
def ad1 (acc f : Rs) : Rs := ⟨acc.many, acc.few, bif lessR acc f.wt acc.wt then f.wt else acc.wt, bif lessR acc f.wt acc.wt then f.best else acc.best, acc.used⟩
def ad2 (acc f : Rs) : Rs := ⟨acc.many, bif lessR acc f.few acc.few then f.few else acc.few, (ad1 acc f).wt, (ad1 acc f).best, acc.used⟩
def ad4 (acc f : Rs) (k : Nat) : Rs := ⟨acc.many + f.many, (ad2 acc f).few, (ad1 acc f).wt, (ad1 acc f).best, fun j => bif decide (j < k) then acc.used j || f.used j else acc.used j⟩
theorem rdC_end (acc f : Rs) (x : Value) : rdC (ad4 acc f 8) x = rdC (addR acc f) x := rfl

set_option maxHeartbeats 8000000 in
theorem add_any [Lo] (acc f : Rs) (x y : Value) (t : Nat) (hm : acc.many + f.many ≤ 1000000000000) (w : World) (hT : Kept w t acc x) (hx : IB w x acc.best) (hy : IB w y f.best) :
    Calls Try.prog 69 #[.pointer (some ⟨t, 0, none⟩), rdV f y] w fun e w' => e = .returned (.tuple #[]) ∧ ∃ x2, Kept w' t (addR acc f) x2 ∧ IB w' x2 (addR acc f).best ∧ FrT t w w' := by
  have ht := hT.lt
  have h0 : AdS w (w.alloc (.cells (rdC f y) 69)) t acc f x y := by
    refine ⟨?_, ?_, ?_⟩
    · unfold Kept at hT ⊢; rw [← hT]; exact ((Below.refl w.heap.size w).alloc (Nat.le_refl _) _).block t ht
    · exact heap_alloc_new w _
    · exact ⟨rfl, rfl, rfl, by simp, fun j hj _ => ((Below.refl w.heap.size w).alloc (Nat.le_refl _) _).block j hj⟩
  have e1 : acc.many = 0 → lessR acc f.wt acc.wt = true := fun h => by simp [lessR, h]
  have e2 : acc.many ≠ 0 → lessR acc f.wt acc.wt = decide (f.wt < acc.wt) := fun h => by simp [lessR, h]
  have e3 : acc.many = 0 → lessR acc f.few acc.few = true := fun h => by simp [lessR, h]
  have e4 : acc.many ≠ 0 → lessR acc f.few acc.few = decide (f.few < acc.few) := fun h => by simp [lessR, h]
  have E1 := Lib.hid e1
  have E2 := Lib.hid e2
  have E3 := Lib.hid e3
  have E4 := Lib.hid e4
  clear e1 e2 e3 e4
  have hx0 := hx
  have hy0 := hy
  obtain ⟨xa, xc, rfl, _, _, _⟩ := hx0.view
  obtain ⟨ya, yc, rfl, _, _, _⟩ := hy0.view
  have HX := Lib.hid hx
  have HY := Lib.hid hy
  have HT0 := Lib.hid hT
  clear hx hy hx0 hy0 hT
  generalize Value.slice xa acc.best.length xc = x at *
  unfold rdV
  go_enter Try.func69, Try.ntmps69
  go_wp2
  generalize w.alloc (.cells (rdC f (.slice ya f.best.length yc)) 69) = W1 at h0 ⊢
  go_cut [19] from 6 (fun v19 wx => v19 = .bool (lessR acc f.wt acc.wt) ∧ AdS w wx t acc f x (.slice ya f.best.length yc))
  case first =>
    have c0 := h0.tc.c0
    have c2 := h0.tc.c2
    have d2 := h0.bc.c2
    by_cases hz : acc.many = 0
    · have t1 : ((acc.many : Int) == 0) = true := by simp [hz]
      have hl := E1.out hz
      go_quiet (fail)
      go_wp2
      go_meet
      case rel => exact ⟨by rw [hl], h0.drewN _⟩
    · have t1 : ((acc.many : Int) == 0) = false := by simp; omega
      have hl := E2.out hz
      go_quiet (fail)
      go_wp2
      go_meet
      case rel => exact ⟨by rw [hl], h0.drewN _⟩
  case rest =>
    obtain ⟨rfl, h1⟩ := hcut
    clear h0
    go_upto_if 19 with (fail)
    go_cut [] from 6 (fun wx => AdS w wx t (ad1 acc f) f (bif lessR acc f.wt acc.wt then .slice ya f.best.length yc else x) (.slice ya f.best.length yc))
    case first =>
      cases hb : lessR acc f.wt acc.wt with
      | false =>
        have e : ad1 acc f = acc := by unfold ad1; rw [hb]; rfl
        go_wp2
        go_meet
        case rel => rw [e, hb]; exact h1
      | true =>
        have c2 := h1.tc.c2
        have c3 := h1.tc.c3
        have cf := h1.tc.free
        have d2 := h1.bc.c2
        have d3 := h1.bc.c3
        go_wp2
        go_region
        go_wp2
        go_meet
        case rel =>
          rw [hb]
          refine AdS.drew ((h1.set ht (r2 := ⟨acc.many, acc.few, f.wt, acc.best, acc.used⟩) (x2 := x) rfl).set ht ?_)
          unfold ad1
          rw [hb]
          rfl
    case rest =>
      have h2 := hcut
      clear h1 hcut
      go_upto_region 3 with (fail)
      go_cut [43] from 6 (fun v43 wx => v43 = .bool (lessR acc f.few acc.few) ∧ AdS w wx t (ad1 acc f) f (bif lessR acc f.wt acc.wt then .slice ya f.best.length yc else x) (.slice ya f.best.length yc))
      case first =>
        have c0 : wc.cell? ⟨t, 0, none⟩ = some (.int .i64 acc.many) := h2.tc.c0
        have c1 : wc.cell? ⟨t, 1, none⟩ = some (.int .i64 acc.few) := h2.tc.c1
        have d1 := h2.bc.c1
        by_cases hz : acc.many = 0
        · have t1 : ((acc.many : Int) == 0) = true := by simp [hz]
          have hl := E3.out hz
          go_quiet (fail)
          go_wp2
          go_meet
          case rel => exact ⟨by rw [hl], h2.drewN _⟩
        · have t1 : ((acc.many : Int) == 0) = false := by simp; omega
          have hl := E4.out hz
          go_quiet (fail)
          go_wp2
          go_meet
          case rel => exact ⟨by rw [hl], h2.drewN _⟩
      case rest =>
        obtain ⟨rfl, h3⟩ := hcut
        clear h2
        go_upto_if 43 with (fail)
        go_cut [] from 6 (fun wx => AdS w wx t (ad2 acc f) f (bif lessR acc f.wt acc.wt then .slice ya f.best.length yc else x) (.slice ya f.best.length yc))
        case first =>
          cases hb : lessR acc f.few acc.few with
          | false =>
            have e : ad2 acc f = ad1 acc f := by unfold ad2; rw [hb]; rfl
            go_wp2
            go_meet
            case rel => rw [e]; exact h3
          | true =>
            have c1 := h3.tc.c1
            have cf := h3.tc.free
            have d1 := h3.bc.c1
            go_wp2
            go_meet
            case rel =>
              refine h3.set ht ?_
              unfold ad2
              rw [hb]
              rfl
        case rest =>
          have h4 := hcut
          clear h3 hcut
          have HXB : Hid (∀ w' x2, AdS w w' t (ad4 acc f 8) f x2 (.slice ya f.best.length yc) → x2 = (bif lessR acc f.wt acc.wt then .slice ya f.best.length yc else x) → ∃ x3, Kept w' t (addR acc f) x3 ∧ IB w' x3 (addR acc f).best ∧ FrT t w w') := by
            intro w' x2 ha e
            refine ⟨x2, ?_, ?_, ha.fr⟩
            · have := ha.tc
              unfold Kept at this ⊢
              rw [rdC_end] at this
              exact this
            · have hold : ∀ (g : Nat) (cur : Array Value), w.heap[g]? = some (.cells cur 3 (0, 0)) → w'.heap[g]? = w.heap[g]? := fun g cur hg => by
                have hgl : g < w.heap.size := by
                  rcases Nat.lt_or_ge g w.heap.size with h | h
                  · exact h
                  · rw [Array.getElem?_eq_none h] at hg; cases hg
                refine ha.fr.block g hgl (fun e2 => ?_)
                subst e2
                have hk := HT0.out
                unfold Kept at hk
                rw [hk] at hg
                simp at hg
              subst e
              unfold addR
              simp only
              cases lessR acc f.wt acc.wt with
              | false => exact HX.out.keepT hold
              | true => exact HY.out.keepT hold
          obtain ⟨x2, hx2⟩ : ∃ x2, x2 = (bif lessR acc f.wt acc.wt then Value.slice ya f.best.length yc else x) := ⟨_, rfl⟩
          rw [← hx2] at h4
          have HX2 := Lib.hid hx2
          clear hx2
          have c0 : wc.cell? ⟨t, 0, none⟩ = some (.int .i64 acc.many) := h4.tc.c0
          have cf := h4.tc.free
          have d0 := h4.bc.c0
          have hm0 : (0 : Int) ≤ (acc.many : Int) + (f.many : Int) := by omega
          have hm1 : (acc.many : Int) + (f.many : Int) ≤ 1000000000000 := by omega
          -- LOOP
          go_upto_region 5 with (fail)
          go_cut [] from 6 (fun wx => AdS w wx t (ad4 acc f 0) f x2 (.slice ya f.best.length yc))
          case first =>
            go_region
            go_wp2
            go_meet
            case rel => exact AdS.drew (h4.set ht rfl)
          case rest =>
            have h5 := hcut
            clear hcut h4 c0 cf d0
            have i0 : ∀ w, (Instr.index 67 (.agg #[.bool (f.used 0), .bool (f.used 1), .bool (f.used 2), .bool (f.used 3), .bool (f.used 4), .bool (f.used 5), .bool (f.used 6), .bool (f.used 7)]) (.int .i64 0)).run Try.prog w = .ok (.bool (f.used 0)) w := fun _ => rfl
            have i1 : ∀ w, (Instr.index 67 (.agg #[.bool (f.used 0), .bool (f.used 1), .bool (f.used 2), .bool (f.used 3), .bool (f.used 4), .bool (f.used 5), .bool (f.used 6), .bool (f.used 7)]) (.int .i64 1)).run Try.prog w = .ok (.bool (f.used 1)) w := fun _ => rfl
            have i2 : ∀ w, (Instr.index 67 (.agg #[.bool (f.used 0), .bool (f.used 1), .bool (f.used 2), .bool (f.used 3), .bool (f.used 4), .bool (f.used 5), .bool (f.used 6), .bool (f.used 7)]) (.int .i64 2)).run Try.prog w = .ok (.bool (f.used 2)) w := fun _ => rfl
            have i3 : ∀ w, (Instr.index 67 (.agg #[.bool (f.used 0), .bool (f.used 1), .bool (f.used 2), .bool (f.used 3), .bool (f.used 4), .bool (f.used 5), .bool (f.used 6), .bool (f.used 7)]) (.int .i64 3)).run Try.prog w = .ok (.bool (f.used 3)) w := fun _ => rfl
            have i4 : ∀ w, (Instr.index 67 (.agg #[.bool (f.used 0), .bool (f.used 1), .bool (f.used 2), .bool (f.used 3), .bool (f.used 4), .bool (f.used 5), .bool (f.used 6), .bool (f.used 7)]) (.int .i64 4)).run Try.prog w = .ok (.bool (f.used 4)) w := fun _ => rfl
            have i5 : ∀ w, (Instr.index 67 (.agg #[.bool (f.used 0), .bool (f.used 1), .bool (f.used 2), .bool (f.used 3), .bool (f.used 4), .bool (f.used 5), .bool (f.used 6), .bool (f.used 7)]) (.int .i64 5)).run Try.prog w = .ok (.bool (f.used 5)) w := fun _ => rfl
            have i6 : ∀ w, (Instr.index 67 (.agg #[.bool (f.used 0), .bool (f.used 1), .bool (f.used 2), .bool (f.used 3), .bool (f.used 4), .bool (f.used 5), .bool (f.used 6), .bool (f.used 7)]) (.int .i64 6)).run Try.prog w = .ok (.bool (f.used 6)) w := fun _ => rfl
            have i7 : ∀ w, (Instr.index 67 (.agg #[.bool (f.used 0), .bool (f.used 1), .bool (f.used 2), .bool (f.used 3), .bool (f.used 4), .bool (f.used 5), .bool (f.used 6), .bool (f.used 7)]) (.int .i64 7)).run Try.prog w = .ok (.bool (f.used 7)) w := fun _ => rfl
            have d4 := h5.bc.c4
            have d5 := h5.bc.c5
            have d6 := h5.bc.c6
            have d7 := h5.bc.c7
            have d8 := h5.bc.c8
            have d9 := h5.bc.c9
            have d10 := h5.bc.c10
            have d11 := h5.bc.c11
            go_wp2
            clear d4 d5 d6 d7 d8 d9 d10 d11
            go_loopw [60] (fun i wr => ∃ k : Nat, k ≤ 8 ∧ i = .int .i64 k ∧ AdS w wr t (ad4 acc f k) f x2 (.slice ya f.best.length yc)) (fun i _ => 8 - (intOf i).toNat)
            case atStart => exact ⟨0, by omega, rfl, h5⟩
            case round =>
              obtain ⟨k, hk, rfl, h6⟩ := hrel
              clear h5
              have hk8 : k = 0 ∨ k = 1 ∨ k = 2 ∨ k = 3 ∨ k = 4 ∨ k = 5 ∨ k = 6 ∨ k = 7 ∨ k = 8 := by omega
              rcases hk8 with rfl | rfl | rfl | rfl | rfl | rfl | rfl | rfl | rfl
              · have cf := h6.tc.free
                have ck : wr.cell? ⟨t, 4, none⟩ = some (.bool (acc.used 0)) := h6.tc.c4
                have hs : AdS w (wr.setCell ⟨t, 4, none⟩ (.bool (acc.used 0 || f.used 0))) t (ad4 acc f 1) f x2 (.slice ya f.best.length yc) := h6.set ht rfl
                have HS := Lib.hid hs
                clear hs h6
                cases hu : acc.used 0 with
                | false =>
                  rw [hu] at ck HS
                  rw [Bool.false_or] at HS
                  go_wp2
                  go_region
                  go_wp2
                  go_roundw
                  case rel => exact ⟨1, by omega, rfl, HS.out.drew⟩
                  case measure => simp [intOf]
                | true =>
                  rw [hu] at ck HS
                  rw [Bool.true_or] at HS
                  go_wp2
                  go_region
                  go_wp2
                  go_roundw
                  case rel => exact ⟨1, by omega, rfl, HS.out.drew⟩
                  case measure => simp [intOf]
              · have cf := h6.tc.free
                have ck : wr.cell? ⟨t, 5, none⟩ = some (.bool (acc.used 1)) := h6.tc.c5
                have hs : AdS w (wr.setCell ⟨t, 5, none⟩ (.bool (acc.used 1 || f.used 1))) t (ad4 acc f 2) f x2 (.slice ya f.best.length yc) := h6.set ht rfl
                have HS := Lib.hid hs
                clear hs h6
                cases hu : acc.used 1 with
                | false =>
                  rw [hu] at ck HS
                  rw [Bool.false_or] at HS
                  go_wp2
                  go_region
                  go_wp2
                  go_roundw
                  case rel => exact ⟨2, by omega, rfl, HS.out.drew⟩
                  case measure => simp [intOf]
                | true =>
                  rw [hu] at ck HS
                  rw [Bool.true_or] at HS
                  go_wp2
                  go_region
                  go_wp2
                  go_roundw
                  case rel => exact ⟨2, by omega, rfl, HS.out.drew⟩
                  case measure => simp [intOf]
              · have cf := h6.tc.free
                have ck : wr.cell? ⟨t, 6, none⟩ = some (.bool (acc.used 2)) := h6.tc.c6
                have hs : AdS w (wr.setCell ⟨t, 6, none⟩ (.bool (acc.used 2 || f.used 2))) t (ad4 acc f 3) f x2 (.slice ya f.best.length yc) := h6.set ht rfl
                have HS := Lib.hid hs
                clear hs h6
                cases hu : acc.used 2 with
                | false =>
                  rw [hu] at ck HS
                  rw [Bool.false_or] at HS
                  go_wp2
                  go_region
                  go_wp2
                  go_roundw
                  case rel => exact ⟨3, by omega, rfl, HS.out.drew⟩
                  case measure => simp [intOf]
                | true =>
                  rw [hu] at ck HS
                  rw [Bool.true_or] at HS
                  go_wp2
                  go_region
                  go_wp2
                  go_roundw
                  case rel => exact ⟨3, by omega, rfl, HS.out.drew⟩
                  case measure => simp [intOf]
              · have cf := h6.tc.free
                have ck : wr.cell? ⟨t, 7, none⟩ = some (.bool (acc.used 3)) := h6.tc.c7
                have hs : AdS w (wr.setCell ⟨t, 7, none⟩ (.bool (acc.used 3 || f.used 3))) t (ad4 acc f 4) f x2 (.slice ya f.best.length yc) := h6.set ht rfl
                have HS := Lib.hid hs
                clear hs h6
                cases hu : acc.used 3 with
                | false =>
                  rw [hu] at ck HS
                  rw [Bool.false_or] at HS
                  go_wp2
                  go_region
                  go_wp2
                  go_roundw
                  case rel => exact ⟨4, by omega, rfl, HS.out.drew⟩
                  case measure => simp [intOf]
                | true =>
                  rw [hu] at ck HS
                  rw [Bool.true_or] at HS
                  go_wp2
                  go_region
                  go_wp2
                  go_roundw
                  case rel => exact ⟨4, by omega, rfl, HS.out.drew⟩
                  case measure => simp [intOf]
              · have cf := h6.tc.free
                have ck : wr.cell? ⟨t, 8, none⟩ = some (.bool (acc.used 4)) := h6.tc.c8
                have hs : AdS w (wr.setCell ⟨t, 8, none⟩ (.bool (acc.used 4 || f.used 4))) t (ad4 acc f 5) f x2 (.slice ya f.best.length yc) := h6.set ht rfl
                have HS := Lib.hid hs
                clear hs h6
                cases hu : acc.used 4 with
                | false =>
                  rw [hu] at ck HS
                  rw [Bool.false_or] at HS
                  go_wp2
                  go_region
                  go_wp2
                  go_roundw
                  case rel => exact ⟨5, by omega, rfl, HS.out.drew⟩
                  case measure => simp [intOf]
                | true =>
                  rw [hu] at ck HS
                  rw [Bool.true_or] at HS
                  go_wp2
                  go_region
                  go_wp2
                  go_roundw
                  case rel => exact ⟨5, by omega, rfl, HS.out.drew⟩
                  case measure => simp [intOf]
              · have cf := h6.tc.free
                have ck : wr.cell? ⟨t, 9, none⟩ = some (.bool (acc.used 5)) := h6.tc.c9
                have hs : AdS w (wr.setCell ⟨t, 9, none⟩ (.bool (acc.used 5 || f.used 5))) t (ad4 acc f 6) f x2 (.slice ya f.best.length yc) := h6.set ht rfl
                have HS := Lib.hid hs
                clear hs h6
                cases hu : acc.used 5 with
                | false =>
                  rw [hu] at ck HS
                  rw [Bool.false_or] at HS
                  go_wp2
                  go_region
                  go_wp2
                  go_roundw
                  case rel => exact ⟨6, by omega, rfl, HS.out.drew⟩
                  case measure => simp [intOf]
                | true =>
                  rw [hu] at ck HS
                  rw [Bool.true_or] at HS
                  go_wp2
                  go_region
                  go_wp2
                  go_roundw
                  case rel => exact ⟨6, by omega, rfl, HS.out.drew⟩
                  case measure => simp [intOf]
              · have cf := h6.tc.free
                have ck : wr.cell? ⟨t, 10, none⟩ = some (.bool (acc.used 6)) := h6.tc.c10
                have hs : AdS w (wr.setCell ⟨t, 10, none⟩ (.bool (acc.used 6 || f.used 6))) t (ad4 acc f 7) f x2 (.slice ya f.best.length yc) := h6.set ht rfl
                have HS := Lib.hid hs
                clear hs h6
                cases hu : acc.used 6 with
                | false =>
                  rw [hu] at ck HS
                  rw [Bool.false_or] at HS
                  go_wp2
                  go_region
                  go_wp2
                  go_roundw
                  case rel => exact ⟨7, by omega, rfl, HS.out.drew⟩
                  case measure => simp [intOf]
                | true =>
                  rw [hu] at ck HS
                  rw [Bool.true_or] at HS
                  go_wp2
                  go_region
                  go_wp2
                  go_roundw
                  case rel => exact ⟨7, by omega, rfl, HS.out.drew⟩
                  case measure => simp [intOf]
              · have cf := h6.tc.free
                have ck : wr.cell? ⟨t, 11, none⟩ = some (.bool (acc.used 7)) := h6.tc.c11
                have hs : AdS w (wr.setCell ⟨t, 11, none⟩ (.bool (acc.used 7 || f.used 7))) t (ad4 acc f 8) f x2 (.slice ya f.best.length yc) := h6.set ht rfl
                have HS := Lib.hid hs
                clear hs h6
                cases hu : acc.used 7 with
                | false =>
                  rw [hu] at ck HS
                  rw [Bool.false_or] at HS
                  go_wp2
                  go_region
                  go_wp2
                  go_roundw
                  case rel => exact ⟨8, by omega, rfl, HS.out.drew⟩
                  case measure => simp [intOf]
                | true =>
                  rw [hu] at ck HS
                  rw [Bool.true_or] at HS
                  go_wp2
                  go_region
                  go_wp2
                  go_roundw
                  case rel => exact ⟨8, by omega, rfl, HS.out.drew⟩
                  case measure => simp [intOf]
              · have HE := Lib.hid (HXB.out _ _ h6 HX2.out)
                clear h6
                go_wp2
                go_end0
                exact ⟨rfl, HE.out⟩
end Go.Proofs.Ytjhigjbfnemdjaa
