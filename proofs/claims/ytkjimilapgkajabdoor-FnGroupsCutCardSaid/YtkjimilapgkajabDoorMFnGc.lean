/-
  The law FnGroupsCut: for every code, a group that is cut out has its own name.
-/
import Derived.Test.YtkjimilapgkajabDoorGnm
import Derived.Test.YtkjimilapgkajabDoorDrawM
import Derived.Test.YtkjimilapgkajabDoorGv2
import Derived.Test.YtkjimilapgkajabDoorFlat
import Derived.Test.YtkjimilapgkajabDoorVbl
import Derived.Test.YtkjimilapgkajabDoorCode
import Derived.Test.YtkjimilapgkajabDoorTL3
import Derived.Test.YtkjimilapgkajabDoorGc2
import Derived.Test.YtkjimilapgkajabDoorGn
import Derived.Test.YtkjimilapgkajabDoorNci
import Derived.Deep.QuietTactic
import Derived.BigQuiet
import Derived.ChangeMaps5
import Derived.Test.YtkjimilapgkajabDoorNeu
import Derived.Test.YtkjimilapgkajabDoorLaid1
import Derived.Deep.DeepHandedRow
import Derived.Deep.DeepRowAt
import Derived.OpenVars
import Derived.Test.YtkjimilapgkajabDoorCards
import Derived.Test.YtkjimilapgkajabDoorTie
import Derived.Lay
import Derived.Deep.DeepWitnessRowRef
namespace Go.Proofs.YtkjimilapgkajabDoor
set_option maxRecDepth 100000
set_option linter.unusedVariables false

theorem gnm_single {ps : List (Int × Bool)} (h : mv ps = true) (h1 : 1 ≤ ps.length) (h4 : ps.length ≤ 4) (b : Bool) : gnm ps [((ps.length : Int), b)] = gnl ps b := by
  have hg : gv ps [((ps.length : Int), b)] = true := by
    refine gv_yes h ?_ ?_
    · simp [gok]; omega
    · simp [gsz]
  rw [gnm_yes hg]
  have e : gnw ps [((ps.length : Int), b)] 1 = [gnl ps b] := by
    show [gnl (prt _ _ 0) b] = _
    congr 2
    show List.take ((ps.length : Int)).toNat (List.drop 0 ps) = _
    rw [List.drop_zero, Int.toNat_natCast, List.take_length]
  show jns (gnw _ _ 1) = _
  rw [e, jns_one]
theorem prt_len {xs gs : List (Int × Bool)} {j : Nat} (h : gv xs gs = true) (hj : j < gs.length) : ((prt xs gs j).length : Int) = (gs[j]).1 := by
  obtain ⟨hmv, hall, hsz⟩ := gv_in h
  obtain ⟨p0, p1⟩ := gok_in (List.all_eq_true.1 hall _ (List.getElem_mem hj))
  have hsn := gsz_snoc (List.getElem?_eq_getElem hj)
  have hsp := gsz_split gs (j + 1)
  have hd : gs.getD j (0, false) = gs[j] := by rw [List.getD_eq_getElem?_getD, List.getElem?_eq_getElem hj]; rfl
  unfold prt; rw [List.length_take, List.length_drop, hd]; omega
/-- the capital is the only difference -/
theorem gnl_cap {ps : List (Int × Bool)} (h : mv ps = true) (h4 : ps.length ≤ 4) :
    (gnl ps true).toList ≠ (gnl ps false).toList ∧ ((gnl ps true).extract 1 (gnl ps true).size) = ((gnl ps false).extract 1 (gnl ps false).size) ∧ (gnl ps false).toList ≠ [] ∧ gnl ps false = nnm (ctO ps) := by
  have hn := nm_ok h h4
  have e1 : (gnl ps true).data.toList = capL (nnm (ctO ps)).data.toList := rfl
  have e0 : gnl ps false = nnm (ctO ps) := rfl
  obtain ⟨c, r, hcr⟩ : ∃ c r, (nnm (ctO ps)).data.toList = c :: r := by
    cases hh : (nnm (ctO ps)).data.toList with
    | nil =>
      have := hn.one
      have h2 : (nnm (ctO ps)).data.toList.length = (nnm (ctO ps)).size := by simp
      rw [hh] at h2
      simp at h2
      omega
    | cons c r => exact ⟨c, r, rfl⟩
  have lo := hn.lo
  rw [hcr] at lo
  have lo : 97 ≤ c.toNat := lo
  rw [e0]
  have hx : ∀ (s : ByteArray) (a : UInt8), s.data.toList = a :: r → s.extract 1 s.size = ⟨r.toArray⟩ := by
    intro s a hs
    obtain ⟨⟨d⟩⟩ := s
    have hd : d = a :: r := hs
    subst hd
    apply ByteArray.ext
    apply Array.ext'
    have : ((⟨⟨a :: r⟩⟩ : ByteArray).extract 1 (⟨⟨a :: r⟩⟩ : ByteArray).size).data = (⟨a :: r⟩ : Array UInt8).extract 1 (r.length + 1) := ByteArray.data_extract
    rw [this]
    simp
  refine ⟨?_, ?_, ?_, rfl⟩
  · rw [ByteArray.toList_eq, ByteArray.toList_eq, e1, hcr]
    intro e
    have e2 : c - 32 = c := (List.cons.inj e).1
    have e3 := congrArg UInt8.toNat e2
    rw [UInt8.toNat_sub_of_le _ _ (by show (32 : UInt8) ≤ c; exact UInt8.le_iff_toNat_le.2 (by show 32 ≤ c.toNat; omega))] at e3
    have : (32 : UInt8).toNat = 32 := rfl
    omega
  · rw [hx _ (c - 32) (by rw [e1, hcr]; rfl), hx _ c hcr]
  · rw [ByteArray.toList_eq, hcr]
    intro e; cases e

end Go.Proofs.YtkjimilapgkajabDoor

namespace Go.Proofs.YtkjimilapgkajabDoor
open Go.RowKit
set_option maxRecDepth 100000
set_option linter.unusedVariables false

theorem elemMels : Tryd.prog.underlying 53 = some (.slice (Tryd.prog.elem 53)) := by simp [Program.elem, Tryd.underlying53]

theorem sizeMels (W : World) : (Go.sizeOf (Tryd.prog.elem 53)).run Tryd.prog W = .ok 2 W := by
  have e : Tryd.prog.elem 53 = 52 := by simp [Program.elem, Tryd.underlying53]
  rw [e]
  exact Tryd.sizeOf52 W

theorem mslice_lo (a : Option Addr) (L cap q : Nat) (hq : q ≤ L) (W : World) : (Instr.slice 53 (.slice a L cap) (some (.int .i64 (q : Int))) none none).run Tryd.prog W = .ok (.slice (if cap = q then a else a.map (·.add (q * 2))) (L - q) (cap - q)) W := by
  rw [run_slice_l W _ a L cap elemMels .i64 _ (by omega) (by omega), sizeMels]
  simp [Result.andThen, sliced]

/-- the drawing loop's state: w at the entry, w1 behind the melody -/
structure GmInv (w w1 wr : World) (B A q : Nat) (v : Value) (xs : List (Int × Bool)) (u : Value) (gs : List (Int × Bool)) : Prop where
  own : wr.ownsRow w1.heap.size 52 2 u gs.length (tcs gs)
  mel : TRow wr w.heap.size w1.heap.size v xs
  rd : Rd wr B A q
  gb : w.grownBy wr (some B)
  sz : w1.heap.size ≤ wr.heap.size
  sz0 : w.heap.size ≤ w1.heap.size

theorem GmInv.start {w w1 : World} {B A q : Nat} {v : Value} {xs : List (Int × Bool)} (h : DmInv w w1 B A q v xs) : GmInv w w1 (w1.alloc (.cells #[] 52)) B A q v xs (.slice (some ⟨w1.heap.size, 0, none⟩) 0 0) [] := by
  have hm : TRow w1 w.heap.size w1.heap.size v xs := ⟨h.own, fun g hg => (h.own.lt g hg).2⟩
  exact ⟨⟨rfl, .inr ⟨w1.heap.size, 0, #[], rfl, Nat.le_refl _, heap_alloc_new w1 _, by simp, by simp [maxLen], by simp, by simp [tcs]⟩⟩, hm.keep (fun k h1 _ _ => heap_alloc_old w1 _ h1), h.rd.alloc _, gb_alloc h.gb _, by simp, h.gb.size⟩

theorem GmInv.pick {w w1 wr w2 : World} {B A q q' : Nat} {v u : Value} {xs gs : List (Int × Bool)} (h : GmInv w w1 wr B A q v xs u gs) (hr : Rd w2 B A q') (hg : wr.grownBy w2 (some B)) (hB : B < w.heap.size) : GmInv w w1 w2 B A q' v xs u gs := by
  have s0 := h.sz0
  refine ⟨h.own.kept hg ?_, h.mel.keep fun k h1 h2 h3 => hg.block k h1 (fun e => ?_), hr, gb_step h.gb hg, Nat.le_trans h.sz hg.size, h.sz0⟩
  · right
    intro e
    have := (h.own.lt B e).1
    omega
  · have := Option.some.inj e
    omega

theorem GmInv.app {w w1 wr w2 : World} {B A q : Nat} {v u u' : Value} {xs gs : List (Int × Bool)} {t : Int × Bool} {o : Obj} (h : GmInv w w1 wr B A q v xs u gs) (hB : B < w.heap.size) (hA : A < w.heap.size)
    (hown : w2.ownsRow w1.heap.size 52 2 u' (gs.length + 1) (tcs gs ++ [.int .i64 t.1, .bool t.2])) (hg : (wr.alloc o).grownBy w2 u.ownBlock) : GmInv w w1 w2 B A q v xs u' (gs ++ [t]) := by
  have s0 := h.sz0
  have hlt : ∀ g, u.ownBlock = some g → w1.heap.size ≤ g := fun g hg => (h.own.lt g hg).1
  refine ⟨?_, h.mel.keep fun k h1 h2 h3 => ?_, (h.rd.alloc o).grown hg (fun e => by have := hlt B e.symm; omega) (fun e => by have := hlt A e.symm; omega), gb_own h.gb hg (fun g hg => Nat.le_trans s0 (hlt g hg)), ?_, s0⟩
  · have e : tcs (gs ++ [t]) = tcs gs ++ [.int .i64 t.1, .bool t.2] := by rw [tcs_app]; rfl
    rw [e]; simpa using hown
  · exact (hg.block k (by simp; omega) (fun e => by have := hlt k e.symm; omega)).trans (heap_alloc_old wr o h1)
  · have := hg.size
    have := h.sz
    simp at *
    omega

theorem GmInv.store {w w1 wr : World} {B A q : Nat} {v u : Value} {xs gs ys : List (Int × Bool)} {g i : Nat} {z : Value} (h : GmInv w w1 wr B A q v xs u gs) (hv : u.ownBlock = some g) (hB : B < w.heap.size) (hA : A < w.heap.size)
    (hi : i < gs.length * 2) (hy : tcs ys = (tcs gs).set i z) (hl : ys.length = gs.length) : GmInv w w1 (wr.setCell ⟨g, i, none⟩ z) B A q v xs u ys := by
  have hg := (h.own.lt g hv).1
  have s0 := h.sz0
  refine ⟨?_, h.mel.keep fun k h1 h2 h3 => ?_, h.rd.set_ (by show g ≠ B; omega) (by show g ≠ A; omega) z, gb_set h.gb (.inr (Nat.le_trans s0 hg)) z, ?_, s0⟩
  · obtain ⟨hln, h1 | ⟨g', cap, cur, rfl, hb, hh, hc, hm, hsz, htk⟩⟩ := h.own
    · rw [h1.1] at hv; simp [Value.ownBlock] at hv
    · have e : g' = g := by simpa [Value.ownBlock] using hv
      subst e
      rw [hl]
      refine ⟨by rw [tcs_len, hl], .inr ⟨g', cap, cur.setIfInBounds i z, rfl, hb, by simp [World.setCell, Array.getElem?_modify, hh], hc, hm, by simpa using hsz, ?_⟩⟩
      rw [Array.toList_setIfInBounds, hy, ← htk, List.take_set]
  · simp only [World.setCell, Array.getElem?_modify]
    rw [if_neg (by omega)]
  · show w1.heap.size ≤ (wr.heap.modify g _).size
    rw [Array.size_modify]; exact h.sz

/-- what is drawn -/
def GPicked (B A q : Nat) (w : World) (e : Ending) (w' : World) : Prop :=
  ∃ v u xs gs, e = .returned (.tuple #[v, u]) ∧ TRow w' w.heap.size w'.heap.size v xs ∧ GRw w' w.heap.size w'.heap.size u gs ∧ xs.length ≤ 10 ∧ gs.length ≤ 10 ∧ Rd w' B A (q + 60) ∧ w.grownBy w' (some B)

theorem GmInv.row {w w1 wr : World} {B A q : Nat} {v u : Value} {xs gs : List (Int × Bool)} (h : GmInv w w1 wr B A q v xs u gs) : GRw wr w.heap.size wr.heap.size u gs := by
  have k : GRow wr w1.heap.size wr.heap.size u gs := ⟨h.own, fun g hg => (h.own.lt g hg).2⟩
  have k2 : GRow wr w.heap.size wr.heap.size u gs := by
    obtain ⟨⟨hl, k1 | ⟨g, cap, cur, rfl, hg, hr⟩⟩, hlt⟩ := k
    · exact ⟨⟨hl, .inl k1⟩, hlt⟩
    · exact ⟨⟨hl, .inr ⟨g, cap, cur, rfl, Nat.le_trans h.sz0 hg, hr⟩⟩, hlt⟩
  exact k2.gen

theorem gPicked {w w1 wr : World} {B A q q' : Nat} {v u : Value} {xs gs : List (Int × Bool)} (h : GmInv w w1 wr B A q' v xs u gs) (hq : q' ≤ q + 60) (hx : xs.length ≤ 10) (hg : gs.length ≤ 10) : GPicked B A q w (.returned (.tuple #[v, u])) wr :=
  ⟨v, u, xs, gs, rfl, h.mel.lohi (Nat.le_refl _) h.sz, h.row, hx, hg, h.rd.more hq, h.gb⟩

theorem gPicked1 {w w1 wr : World} {B A q q' g cap : Nat} {v : Value} {xs gs : List (Int × Bool)} {t : Int × Bool} (h : GmInv w w1 wr B A q' v xs (.slice (some ⟨g, 0, none⟩) (gs.length + 1) cap) (t :: gs)) (hq : q' ≤ q + 60) (hx : xs.length ≤ 10) (hg : gs.length ≤ 10) :
    GPicked B A q w (.returned (.tuple #[v, .slice (if cap = 1 then some ⟨g, 0, none⟩ else (some (⟨g, 0, none⟩ : Addr)).map (·.add (1 * 2))) (gs.length + 1 - 1) (cap - 1)])) wr := by
  have hr := h.row
  obtain ⟨k1, k2⟩ := hr.tail rfl
  refine ⟨v, _, xs, gs, rfl, h.mel.lohi (Nat.le_refl _) h.sz, ?_, hx, hg, h.rd.more hq, h.gb⟩
  rw [Nat.add_sub_cancel]
  by_cases hc : cap = 1
  · rw [if_pos hc]
    refine k2 ?_
    rcases hr with ⟨h0, _⟩ | ⟨g', o', cap', h0, _, _, _, h4, _, _⟩
    · cases h0
    · injection h0 with e1 e2 e3
      subst e3
      simp only [List.length_cons] at h4
      exact List.eq_nil_of_length_eq_zero (by omega)
  · rw [if_neg hc]
    exact k1

end Go.Proofs.YtkjimilapgkajabDoor

namespace Go.Proofs.YtkjimilapgkajabDoor
open Go.RowKit
set_option maxRecDepth 100000
set_option linter.unusedVariables false

theorem gPicked_drewN {B A q : Nat} {w wr : World} {e : Ending} (h : GPicked B A q w e wr) (n : Nat) : GPicked B A q w e (wr.drewN n) := by
  obtain ⟨v, u, xs, gs, he, h1, h2, h3, h4, h5, h6⟩ := h
  have hb : Below wr.heap.size wr (wr.drewN n) := bl_drewN (Below.refl _ _) n
  exact ⟨v, u, xs, gs, he, (h1.below hb (.inl (Nat.le_refl _))), (h2.below hb (.inl (Nat.le_refl _))), h3, h4, h5.below hb, ⟨h6.os, h6.tape, h6.output, h6.size, h6.block⟩⟩

set_option maxHeartbeats 8000000 in
theorem l91Groups_any (B A q : Nat) (hq : q ≤ 800000) (w : World) (h : Rd w B A q) :
    Calls Tryd.prog 88 #[.pointer (some ⟨B, 0, none⟩)] w (GPicked B A q w) := by
  obtain ⟨i0, hi, hq0, hq1, hq2⟩ := info_parts infoMelisma
  have hB := h.lt
  have hA := h.ltA
  go_enter Tryd.func88, Tryd.ntmps88
  go_wp2_with (fail)
  (go_at_call 53; refine (l91Melody_any B A q 10 (by omega) (by omega) _ h).mono ?_; rintro e w1 ⟨v, xs, rfl, hI, hl⟩)
  have hM : TRow w1 w.heap.size w1.heap.size v xs := ⟨hI.own, fun g hg => (hI.own.lt g hg).2⟩
  obtain ⟨va, vc, rfl, _⟩ := hM.flat rfl
  have hI0 := GmInv.start hI
  clear h hI hM
  go_wp2
  go_loopw [5, 6] (fun u r wr => ∃ (L : Nat) (gs : List (Int × Bool)), r = .int .i64 L ∧ gs.length + L ≤ xs.length ∧ GmInv w w1 wr B A (q + 24 + 2 * gs.length) (.slice va xs.length vc) xs u gs) (fun _ r _ => (intOf r).toNat)
  case atStart => exact ⟨xs.length, [], rfl, by simp, hI0⟩
  case round =>
    obtain ⟨L, gs, rfl, hgl, hI⟩ := hrel
    clear hI0
    by_cases hlt : 0 < L
    · have hlt' : (0 : Int) < (L : Int) := by omega
      obtain ⟨M, hM, hM1, hM4, hML⟩ : ∃ M : Int, min (L : Int) 4 = M ∧ 1 ≤ M ∧ M ≤ 4 ∧ M ≤ (L : Int) := ⟨min (L : Int) 4, rfl, by omega, by omega, by omega⟩
      go_wp2_with (fail)
      all_goals
        (go_at_call 54; refine (pick_any _ B A (q + 24 + 2 * gs.length) (by omega) (by omega) (by omega) _ hI.rd).mono ?_; rintro e w2 ⟨n, rfl, hn0, hn1, hr2, hg2⟩)
        have hI2 := hI.pick hr2 hg2 hB
        have s1 : IntKind.i64.wrap (1 + n) = 1 + n := IntWalk.i64_in _ (by omega)
        have hnL : 1 + n ≤ (L : Int) := by omega
        have hn4 : 1 + n ≤ 4 := by omega
        clear hI hr2 hg2
        go_wp2_with (fail)
        (go_at_call 54; refine (pick_any 4 B A (q + 24 + 2 * gs.length + 1) (by omega) (by omega) (by omega) _ hI2.rd).mono ?_; rintro e w3 ⟨b, rfl, _, _, hr3, hg3⟩)
        have hI3 := hI2.pick hr3 hg3 hB
        have hown := hI3.own
        have HI := Lib.hid hI3
        clear hI2 hI3 hr3 hg3
        go_wp2_with (at_builtin; refine wpList_append_own _ rfl _ _ 53 rfl w1.heap.size 52 i0 (.agg #[.int .i64 0, .bool false]) 2 16 Tryd.underlying53 hi hq0 hq1 hq2 rfl (by decide) _ _ _ rfl (hown.alloc _) ⟨w3.heap.size, 0, none⟩ 1 1 [.int .i64 (1 + n), .bool (b == 0)] rfl rfl news2 news2_one (by unfold maxLen; omega) (by omega) (by have := HI.out.sz; simp; omega) ?_)
        intro u' w4 hown' hgrow _
        have HI4 := Lib.hid (HI.out.app (t := (1 + n, (b == 0))) hB hA hown' hgrow)
        clear hown hown' hgrow HI
        obtain ⟨L', hL'⟩ : ∃ L' : Nat, (L : Int) - (1 + n) = (L' : Int) := ⟨((L : Int) - (1 + n)).toNat, by omega⟩
        have s2 : IntKind.i64.wrap ((L : Int) - (1 + n)) = (L' : Int) := by rw [hL']; exact IntWalk.i64_in _ (by omega)
        go_wp2
        go_roundw
        case rel => exact ⟨L', gs ++ [(1 + n, (b == 0))], by first | rfl | go_num | (congr 1; omega), by rw [List.length_append]; show gs.length + 1 + L' ≤ _; omega, ⟨HI4.out.own, HI4.out.mel, HI4.out.rd.more (by rw [List.length_append]; show _ ≤ q + 24 + 2 * (gs.length + 1); omega), HI4.out.gb, HI4.out.sz, HI4.out.sz0⟩⟩
        case measure => simp [intOf]; omega
    · have hL0 : L = 0 := by omega
      subst hL0
      have hg10 : gs.length ≤ 10 := by omega
      rcases hI.own.2 with hz' | ⟨g, cap, cur, rfl, hb, hh, hcc, hm', hsz, htk⟩
      · obtain ⟨rfl, hge⟩ := hz'
        have HE := Lib.hid (gPicked (q := q) hI (by omega) hl (by omega))
        clear hI
        go_wp2
        go_ret2
        exact HE.out
      by_cases hz : gs.length = 0
      · have HE := Lib.hid (gPicked (q := q) hI (by omega) hl (by omega))
        rw [hz] at HE ⊢
        clear hI
        go_wp2
        go_ret2
        exact HE.out
      obtain ⟨t, gr, rfl⟩ : ∃ t gr, gs = t :: gr := by
        cases gs with
        | nil => exact absurd rfl hz
        | cons t gr => exact ⟨t, gr, rfl⟩
      have hG : (t :: gr).length = gr.length + 1 := rfl
      (try rw [hG] at hI); (try rw [hG] at hg10); (try rw [hG] at hcc); (try rw [hG] at hsz); (try rw [hG] at htk); (try rw [hG])
      have hkp : (0 : Int) < (gr.length : Int) + 1 := by omega
      have hkp' : (0 : Int) < ((gr.length + 1 : Nat) : Int) := by omega
      go_wp2_with (fail)
      (go_at_call 54; refine (pick_any 30 B A _ (by omega) (by omega) (by omega) _ hI.rd).mono ?_; rintro e w3 ⟨c, rfl, hc0, hc1, hr3, hg3⟩)
      have hI3 := hI.pick hr3 hg3 hB
      have hwg : w1.heap.size ≤ g := hb
      have s0 := hI.sz0
      have hh3 : w3.heap[g]? = some (.cells cur 52 (0, 0)) := by
        refine (hg3.block g ?_ (fun e => ?_)).trans hh
        · rcases Nat.lt_or_ge g wr.heap.size with h | h
          · exact h
          · rw [Array.getElem?_eq_none h] at hh; cases hh
        · have := Option.some.inj e
          omega
      clear hI hr3 hg3 hh
      have hgs : g < w3.heap.size := by
        rcases Nat.lt_or_ge g w3.heap.size with h | h
        · exact h
        · rw [Array.getElem?_eq_none h] at hh3; cases hh3
      by_cases hc : c = 0
      · subst hc
        have hI4 : GmInv w w1 (w3.alloc (.cells #[.int .i64 0, .int .i64 5, .int .i64 (-1)] 3)) B A _ (.slice va xs.length vc) xs _ (t :: gr) := ⟨hI3.own.alloc _, hI3.mel.keep (fun k h1 _ _ => heap_alloc_old w3 _ h1), hI3.rd.alloc _, gb_alloc hI3.gb _, by have := hI3.sz; simp; omega, hI3.sz0⟩
        have HI4 := Lib.hid hI4
        clear hI3 hI4
        go_wp2_with (fail)
        (go_at_call 54; refine (pick_any 3 B A _ (by omega) (by omega) (by omega) _ HI4.out.rd).mono ?_; rintro e w4 ⟨d, rfl, hd0, hd1, hr4, hb4⟩)
        have hgB : g ≠ B := by omega
        have hwB : w3.heap.size ≠ B := by omega
        have k0 : 0 < cur.size := by omega
        have hh4 : w4.heap[g]? = some (.cells cur 52 (0, 0)) := (hb4.block g (by simp; omega) (by simpa using hgB)).trans ((heap_alloc_old w3 _ hgs).trans hh3)
        have d0 : w4.cell? ⟨g, 0, none⟩ = some cur[0] := by simp [World.cell?, hh4, Array.getElem?_eq_getElem k0]
        have df : w4.frozen? ⟨g, 0, none⟩ = false := by simp [World.frozen?, hh4]
        have hn4 := (hb4.block w3.heap.size (by simp) (by simpa using hwB)).trans (heap_alloc_new w3 _)
        have e4 : w4.cell? ⟨w3.heap.size, d.toNat, none⟩ = some (.int .i64 (sel3 0 5 (-1) d)) := by simp [World.cell?, hn4, sel3_arr hd0 hd1]
        have hI5 := HI4.out.pick hr4 hb4 hB
        have HE := Lib.hid (gPicked (q := q) (hI5.store (i := 0) rfl hB hA (by simp) (tcs_setA (t := t) rfl (sel3 0 5 (-1) d)) (by simp)) (by omega) hl (by simp; omega))
        clear hI5 hh3 hh4 hn4 htk hsz
        go_wp2
        go_ret2
        exact HE.out
      by_cases hc1' : c = 1
      · subst hc1'
        have HE := Lib.hid (gPicked1 (q := q) hI3 (by omega) hl (by omega))
        have hsl := mslice_lo (some ⟨g, 0, none⟩) (gr.length + 1) cap 1 (by omega)
        have hsl' : ∀ W : World, (Instr.slice 53 (.slice (some ⟨g, 0, none⟩) (gr.length + 1) cap) (some (.int .i64 1)) none none).run Tryd.prog W = _ := hsl
        generalize (Value.slice (if cap = 1 then some ⟨g, 0, none⟩ else (some (⟨g, 0, none⟩ : Addr)).map (·.add (1 * 2))) (gr.length + 1 - 1) (cap - 1)) = uu at HE hsl hsl'
        have HE1 := Lib.hid (fun n => gPicked_drewN HE.out n)
        clear hI3 hh3 htk hsz
        go_wp2
        go_quiet (fail)
        all_goals
          go_wp2
          go_ret2
          first | exact HE.out | exact HE1.out _ | exact HE1.out 1 | exact HE1.out 2 | exact HE1.out 3 | exact HE1.out 4
      · have HE := Lib.hid (gPicked (q := q) hI3 (by omega) hl (by show gr.length + 1 ≤ 10; omega))
        have d0 : (c == 0) = false := by simpa using hc
        have d1 : (c == 1) = false := by simpa using hc1'
        clear hI3 hh3 htk hsz
        go_wp2
        go_ret2
        exact HE.out

end Go.Proofs.YtkjimilapgkajabDoor

namespace Go.Proofs.YtkjimilapgkajabDoor
open Go.RowKit
set_option maxRecDepth 100000
set_option linter.unusedVariables false

def AtPicked (B A q : Nat) (w : World) (e : Ending) (w' : World) : Prop :=
  ∃ k : Int, e = .returned (.int .i64 k) ∧ -1 ≤ k ∧ k ≤ 1000 ∧ Rd w' B A (q + 3) ∧ w.grownBy w' (some B)
theorem atPicked {B A q q' : Nat} {w w' : World} {k : Int} (h0 : -1 ≤ k) (h1 : k ≤ 1000) (h : Rd w' B A q') (hq : q' ≤ q + 3) (hg : w.grownBy w' (some B)) : AtPicked B A q w (.returned (.int .i64 k)) w' :=
  ⟨k, rfl, h0, h1, h.more hq, hg⟩

set_option maxHeartbeats 4000000 in
theorem l91At_any (B A q n : Nat) (hn : n ≤ 100) (hq : q ≤ 900000) (w : World) (h : Rd w B A q) :
    Calls Tryd.prog 93 #[.pointer (some ⟨B, 0, none⟩), .int .i64 (n : Int)] w (AtPicked B A q w) := by
  have hB := h.lt
  have key : ∀ (W : World) (p : Nat) (k : Int), p ≤ q + 2 → Rd W B A p → w.grownBy W (some B) → 0 ≤ k → k < 2 → AtPicked B A q w (.returned (.int .i64 (if k = 0 then -1 else (n : Int)))) W := by
    intro W p k hp hr hg h0 h1
    split
    · exact atPicked (by omega) (by omega) hr (by omega) hg
    · exact atPicked (by omega) (by omega) hr (by omega) hg
  have HK := Lib.hid key
  clear key
  by_cases hn0 : n = 0
  · subst hn0
    have hr0 := h.alloc (.cells #[.int .i64 (-1), .int .i64 ((0 : Nat) : Int)] 3)
    go_enter Tryd.func93, Tryd.ntmps93
    go_wp2_with (fail)
    (go_at_call 54; refine (pick_any 2 B A q (by omega) (by omega) (by omega) _ (h.alloc _)).mono ?_; rintro e w2 ⟨k, rfl, h0, h1, hr2, hg2⟩)
    have hne : w.heap.size ≠ B := by omega
    have hnw := (hg2.block w.heap.size (by simp) (by simpa using hne)).trans (heap_alloc_new w _)
    have hgb := gb_step (gb_alloc (gb_refl _ _) _) hg2
    have hk : k = 0 ∨ k = 1 := by omega
    rcases hk with rfl | rfl
    · have e4 : w2.cell? ⟨w.heap.size, 0, none⟩ = some (.int .i64 (-1)) := by simp [World.cell?, hnw]
      have HE := Lib.hid (HK.out w2 _ 0 (by omega) hr2 hgb (by omega) (by omega))
      clear hnw hr2 hgb hg2
      go_wp2
      go_ret
      exact HE.out
    · have e4 : w2.cell? ⟨w.heap.size, 1, none⟩ = some (.int .i64 0) := by simp [World.cell?, hnw]
      have HE := Lib.hid (HK.out w2 _ 1 (by omega) hr2 hgb (by omega) (by omega))
      clear hnw hr2 hgb hg2
      go_wp2
      go_ret
      exact HE.out
  have e0 : ((n : Int) == 0) = false := by rw [beq_eq_false_iff_ne]; omega
  go_enter Tryd.func93, Tryd.ntmps93
  go_wp2_with (fail)
  (go_at_call 54; refine (pick_any 20 B A q (by omega) (by omega) (by omega) _ h).mono ?_; rintro e w1 ⟨c, rfl, hc0, hc1, hr1, hg1⟩)
  by_cases hc : c = 0
  · subst hc
    go_wp2_with (fail)
    (go_at_call 54; refine (pick_any 2 B A (q + 1) (by omega) (by omega) (by omega) _ (hr1.alloc _)).mono ?_; rintro e w2 ⟨k, rfl, h0, h1, hr2, hg2⟩)
    have hB1 := hr1.lt
    have hne : w1.heap.size ≠ B := by omega
    have hnw := (hg2.block w1.heap.size (by simp) (by simpa using hne)).trans (heap_alloc_new w1 _)
    have hgb := gb_step (gb_alloc hg1 _) hg2
    have hk : k = 0 ∨ k = 1 := by omega
    rcases hk with rfl | rfl
    · have e4 : w2.cell? ⟨w1.heap.size, 0, none⟩ = some (.int .i64 (-1)) := by simp [World.cell?, hnw]
      have HE := Lib.hid (HK.out w2 _ 0 (by omega) hr2 hgb (by omega) (by omega))
      clear hnw hr2 hgb hg2
      go_wp2
      go_ret
      exact HE.out
    · have e4 : w2.cell? ⟨w1.heap.size, 1, none⟩ = some (.int .i64 (n : Int)) := by simp [World.cell?, hnw]
      have HE := Lib.hid (HK.out w2 _ 1 (by omega) hr2 hgb (by omega) (by omega))
      clear hnw hr2 hgb hg2
      go_wp2
      go_ret
      exact HE.out
  · have ec : (c == 0) = false := by simpa using hc
    go_wp2_with (fail)
    (go_at_call 54; refine (pick_any (n : Int) B A (q + 1) (by omega) (by omega) (by omega) _ hr1).mono ?_; rintro e w2 ⟨k, rfl, h0, h1, hr2, hg2⟩)
    have HE := Lib.hid (atPicked (q := q) (k := k) (by omega) (by omega) hr2 (by omega) (gb_step hg1 hg2))
    clear hr2 hg2
    go_wp2
    go_ret
    exact HE.out

def DrewGc (w : World) (e : Ending) (w' : World) : Prop :=
  ∃ v u xs gs k, e = .returned (.tuple #[v, u, .int .i64 k]) ∧ TRow w' w.heap.size w'.heap.size v xs ∧ GRw w' w.heap.size w'.heap.size u gs ∧ xs.length ≤ 10 ∧ gs.length ≤ 10 ∧ -1 ≤ k ∧ k ≤ 1000 ∧ Below w.heap.size w w'

set_option maxHeartbeats 4000000 in
theorem drawGroupsCut_any (a : Option Addr) (n cap : Nat) (w : World) (h : CodeAt w a n) (hc : n ≤ cap) (hcap : cap ≤ maxLen) :
    Calls Tryd.prog 42 #[.slice a n cap] w (DrewGc w) := by
  go_enter Tryd.func42, Tryd.ntmps42
  go_wp2_with (fail)
  (go_at_call 52; refine (open_any a n cap _ h hc hcap).mono ?_; rintro e w1 ⟨A, rfl, hr1, hb1, hs1⟩)
  clear h hc hcap
  go_wp2_with (fail)
  (go_at_call 88; refine (l91Groups_any w.heap.size A 0 (by omega) _ hr1).mono ?_; rintro e w2 ⟨v, u, xs, gs, rfl, h1, h2, h3, h4, hr2, hg2⟩)
  obtain ⟨ua, uc, rfl⟩ : ∃ a c, u = .slice a gs.length c := by
    rcases h2.form with ⟨rfl, rfl⟩ | ⟨b, bo, cap, rfl, _⟩
    · exact ⟨none, 0, rfl⟩
    · exact ⟨_, _, rfl⟩
  have H1 := Lib.hid h1
  have H2 := Lib.hid h2
  have z1 := hb1.size
  have hbw2 := below_gb hb1 hg2 (Nat.le_refl _)
  clear h1 h2 hr1
  go_wp2_with (fail)
  (go_at_call 93; refine (l91At_any w.heap.size A _ gs.length (by omega) (by omega) _ hr2).mono ?_; rintro e w3 ⟨k, rfl, hk0, hk1, hr3, hg3⟩)
  have zb := hg3.size
  have z2 := hr2.lt
  have HE : Hid (DrewGc w (.returned (.tuple #[v, .slice ua gs.length uc, .int .i64 k])) w3) :=
    ⟨v, _, xs, gs, k, rfl, (H1.out.keep (fun i h1 h2 h3 => hg3.block i h1 (fun e => by have := Option.some.inj e; omega))).lohi (by omega) zb,
      by
        have g1 := H2.out.keep (w' := w3) zb (fun i h1 h2 h3 => hg3.block i h1 (fun e => by have := Option.some.inj e; omega))
        rcases g1 with g1 | ⟨g, o, cap, e, q1, q2, q3⟩
        · exact .inl g1
        · exact .inr ⟨g, o, cap, e, by omega, by omega, q3⟩, h3, h4, hk0, hk1, below_gb hbw2 hg3 (Nat.le_refl _)⟩
  clear hr2 hr3 hg3 hg2
  go_wp2
  go_ret3
  exact HE.out

end Go.Proofs.YtkjimilapgkajabDoor

namespace Go.Proofs.YtkjimilapgkajabDoor
open Go.RowKit
set_option maxRecDepth 100000
set_option linter.unusedVariables false

theorem sameTones_yes (lo hi lo' hi' : Nat) (v u : Value) (xs : List (Int × Bool)) (w : World) (h : TRow w lo hi v xs) (k : TRow w lo' hi' u xs) :
    Calls Tryd.prog 15 #[v, u] w fun e w' => e = .returned (.bool true) ∧ Below w.heap.size w w' := by
  rcases h.form with ⟨rfl, rfl⟩ | ⟨g, cap, rfl, hg, hg2, hgs, hcap, hmax, hc⟩
  · rcases k.form with ⟨rfl, _⟩ | ⟨g', cap', rfl, _, _, _, _, _, _⟩
    all_goals
      go_enter Tryd.func15, Tryd.ntmps15
      go_wp2
      go_rounds 1
      go_ret
      exact ⟨rfl, Below.refl _ _⟩
  · rcases k.form with ⟨rfl, hx⟩ | ⟨g', cap', rfl, hg', hg2', hgs', hcap', hmax', hc'⟩
    · subst hx
      go_enter Tryd.func15, Tryd.ntmps15
      go_wp2
      go_rounds 1
      go_ret
      exact ⟨rfl, Below.refl _ _⟩
    · unfold maxLen at hmax hmax'
      have hlen : xs.length ≤ 9223372036854775807 := by omega
      have HG : Hid (∀ i, i < xs.length → ∃ s b, xs[i]? = some (s, b)) := fun i hi => ⟨xs[i].1, xs[i].2, List.getElem?_eq_getElem hi⟩
      clear h k
      generalize hn : xs.length = n at *
      clear hn
      have HC := Lib.hid hc
      have HC' := Lib.hid hc'
      clear hc hc'
      go_enter Tryd.func15, Tryd.ntmps15
      go_wp2
      go_loopw [5] (fun i wr => ∃ k : Nat, k ≤ n ∧ i = .int .i64 k ∧ Below w.heap.size w wr) (fun i _ => n - (intOf i).toNat)
      case atStart => exact ⟨0, Nat.zero_le _, rfl, Below.refl _ _⟩
      case round =>
        obtain ⟨k, hk, rfl, hb⟩ := hrel
        by_cases hlt : k < n
        · obtain ⟨s, b, hg0⟩ := HG.out k hlt
          have e1 : wr.cell? ⟨g, k * 2, none⟩ = some (.int .i64 s) := (hb.cell (p := ⟨g, k * 2, none⟩) hgs).trans (HC.out k _ hg0).1
          have e2 : wr.cell? ⟨g, k * 2 + 1, none⟩ = some (.bool b) := (hb.cell (p := ⟨g, k * 2 + 1, none⟩) hgs).trans (HC.out k _ hg0).2
          have e3 : wr.cell? ⟨g', k * 2, none⟩ = some (.int .i64 s) := (hb.cell (p := ⟨g', k * 2, none⟩) hgs').trans (HC'.out k _ hg0).1
          have e4 : wr.cell? ⟨g', k * 2 + 1, none⟩ = some (.bool b) := (hb.cell (p := ⟨g', k * 2 + 1, none⟩) hgs').trans (HC'.out k _ hg0).2
          have hk0 : (0 : Int) ≤ (k : Int) := by omega
          have hk1 : (k : Int) < (n : Int) := by omega
          clear hg0
          go_wp2
          go_quiet (fail)
          all_goals
            go_wp2
            go_roundw
            case rel => exact ⟨k + 1, by omega, by go_num, by first | exact hb | exact hb.drew | exact ⟨hb.os, hb.tape, hb.output, hb.size, hb.block⟩⟩
            case measure => simp [intOf]; omega
        · go_wp2
          go_ret
          exact ⟨rfl, hb⟩

def DrewMel (most : Nat) (w : World) (e : Ending) (w' : World) : Prop :=
  ∃ v xs, e = .returned v ∧ TRow w' w.heap.size w'.heap.size v xs ∧ xs.length ≤ most ∧ Below w.heap.size w w'
theorem drewMel {B A q most : Nat} {w w1 w2 : World} {v : Value} {xs : List (Int × Bool)} (h : DmInv w1 w2 B A q v xs) (hl : xs.length ≤ most) (hb : Below w.heap.size w w1) (hB : w.heap.size ≤ B) : DrewMel most w (.returned v) w2 :=
  ⟨v, xs, rfl, ⟨tmono h.own hb.size, fun g hg => (h.own.lt g hg).2⟩, hl, below_gb hb h.gb hB⟩

end Go.Proofs.YtkjimilapgkajabDoor

namespace Go.Proofs.YtkjimilapgkajabDoor
open Go.RowKit Go.ChangeShapes Go.WideShapes Go.ChangeAt Go.ChangeMaps
set_option maxRecDepth 100000
set_option linter.unusedVariables false

theorem oneGb (w : World) (n : Int) (b : Bool) : GRw (w.alloc (.cells #[.int .i64 n, .bool b] 52)) w.heap.size (w.heap.size + 1) (.slice (some ⟨w.heap.size, 0, none⟩) 1 1) [(n, b)] := by
  have h : GRow (w.alloc (.cells #[.int .i64 n, .bool b] 52)) w.heap.size (w.heap.size + 1) (.slice (some ⟨w.heap.size, 0, none⟩) 1 1) [(n, b)] :=
    ⟨⟨rfl, .inr ⟨w.heap.size, 1, _, rfl, Nat.le_refl _, heap_alloc_new w _, by simp, by simp [maxLen], by simp, by simp [tcs]⟩⟩, fun g hg => by
      have : g = w.heap.size := by simpa [Value.ownBlock] using hg.symm
      omega⟩
  exact h.gen

set_option maxHeartbeats 16000000 in
theorem fnGroupsCut_walk (a : Option Addr) (n cap : Nat) (w : World) (h : CodeAt w a n) (hc : n ≤ cap) (hcap : cap ≤ maxLen) (ht : NeuTab w) :
    Calls Tryd.prog 8 #[.slice a n cap] w fun e w' => e = .returned (.bool true) ∧ Below w.heap.size w w' := by
  have HT := Lib.hid ht
  clear ht
  by_cases hn : 1048576 < n
  · have g : (1048576 : Int) < (n : Int) := by omega
    go_enter Tryd.func8, Tryd.ntmps8
    go_wp2
    go_ret
    exact ⟨rfl, Below.refl _ _⟩
  have g : decide ((1048576 : Int) < (n : Int)) = false := by simp; omega
  go_enter Tryd.func8, Tryd.ntmps8
  go_wp2_with (fail)
  (go_at_call 42; refine (drawGroupsCut_any a n cap _ h hc hcap).mono ?_; rintro e w1 ⟨v, u, xs, gs, k, rfl, hr1, hg1, hx9, hg9, hk0, hk1, hb1⟩)
  clear h hc hcap g hn
  go_wp2_with (fail)
  (go_at_call 40; refine (groupsCut_any _ _ _ _ v u xs gs k _ hr1 hg1).mono ?_; rintro e w2 ⟨o1, rfl, ho1, hb2⟩)
  have hr2 := hr1.below hb2 (.inl (Nat.le_refl _))
  have hg2 := hg1.below hb2 (.inl (Nat.le_refl _))
  have z2 := hb2.size
  clear hr1 hg1
  go_wp2_with (fail)
  (go_at_call 43; refine (sGroupsCut_any _ _ _ _ v u xs gs k (by omega) _ hr2 hg2).mono ?_; rintro e w3 ⟨o2, rfl, ho2, hb3⟩)
  have hg3 := hg2.below hb3 (.inl (by omega))
  have ho1 := ho1.below hb3 (.inl (Nat.le_refl _))
  have bw3 := bl_step (bl_step hb1 hb2) hb3
  have z3 := hb3.size
  clear hr2 hg2
  cases hB : gcB xs gs k
  · have HG := Lib.hid hg3
    clear hg3
    go_wp2_with (fail)
    (go_at_call 15; refine (sameTones_yes _ _ _ _ o1 o2 _ _ ho1 ho2).mono ?_; rintro e w4 ⟨rfl, hb4⟩)
    have z4 := hb4.size
    have ho1 := ho1.below hb4 (.inl (by omega))
    have ho2 := ho2.below hb4 (.inl (Nat.le_refl _))
    go_wp2_with (fail)
    (go_at_call 15; refine (sameTones_yes _ _ _ _ o1 o2 _ _ ho1 ho2).mono ?_; rintro e w5 ⟨rfl, hb5⟩)
    go_wp2
    go_ret
    exact ⟨rfl, bl_step (bl_step bw3 hb4) hb5⟩
  have hgv : gv xs gs = true ∧ 0 ≤ k ∧ k < (gs.length : Int) := by
    unfold gcB at hB
    simp only [Bool.and_eq_true, decide_eq_true_eq] at hB
    exact hB
  obtain ⟨hv, hk2, hk3⟩ := hgv
  obtain ⟨j, rfl⟩ : ∃ j : Nat, k = j := ⟨k.toNat, by omega⟩
  have hj : j < gs.length := by omega
  rw [(gc_yes hv hj).1] at ho1 ho2
  obtain ⟨q1, q2, q3⟩ := gp_ok hv hj
  have hpl := prt_len hv hj
  obtain ⟨c1, c2, c3, c4⟩ := gnl_cap q1 q2
  obtain ⟨bb, hbb⟩ : ∃ bb, (gs[j]).2 = bb := ⟨_, rfl⟩
  have KN1 := Lib.hid (fun lo hi lo' hi' v u W h g ht => groupsNames_any lo hi lo' hi' v u (prt xs gs j) [(((prt xs gs j).length : Int), bb)] W h g ht)
  have KN2 := Lib.hid (fun lo hi lo' hi' v u W h g ht => groupsNames_any lo hi lo' hi' v u (prt xs gs j) [(((prt xs gs j).length : Int), false)] W h g ht)
  rw [gnm_single q1 q3 q2] at KN1 KN2
  have KC := Lib.hid (fun lo hi v W h => contourOf_any lo hi v (prt xs gs j) W h)
  have KM := Lib.hid (fun W h => neumeName_any (ctO (prt xs gs j)) W h)
  rw [← c4] at KM
  have z1g := gnl_size q1 q2 true
  have z0g := gnl_size q1 q2 false
  rcases hg3.form with ⟨_, rfl⟩ | ⟨b, bo, gcap, rfl, _, _, hbs, hgc, hgm, hgc'⟩
  · simp at hj
  obtain ⟨y1, y2⟩ := hgc' j _ (List.getElem?_eq_getElem hj)
  rw [← hpl] at y1
  rw [hbb] at y2
  have j0 : (0 : Int) ≤ (j : Int) := by omega
  clear hgc' hg3 hv hB hpl q1 q2 q3 c4
  clear hbb
  generalize hL : gs.length = L at *
  clear hL
  go_wp2_with (fail)
  (go_at_call 15; refine (sameTones_yes _ _ _ _ o1 o2 _ _ ho1 ho2).mono ?_; rintro e w4 ⟨rfl, hb4⟩)
  have z4 := hb4.size
  have bw4 := bl_step bw3 hb4
  have ho1 := ho1.below hb4 (.inl (by omega))
  have y1 := (hb4.cell (p := ⟨b, bo + j * 2, none⟩) hbs).trans y1
  have y2 := (hb4.cell (p := ⟨b, bo + j * 2 + 1, none⟩) hbs).trans y2
  have hbs := Nat.lt_of_lt_of_le hbs z4
  clear ho2
  have HO1 := Lib.hid ho1
  clear ho1
  go_wp2_with (fail)
  (go_at_call 26; refine (KC.out _ _ _ _ HO1.out).mono ?_; rintro e w5 ⟨rfl, hb5⟩)
  have bw5 := bl_step bw4 hb5
  have z5 := hb5.size
  go_wp2_with (fail)
  (go_at_call 36; refine (KM.out _ (HT.out.below bw5)).mono ?_; rintro e w6 ⟨rfl, hb6⟩)
  have d6 := bl_step hb5 hb6
  have bw6 := bl_step bw5 hb6
  have z6 := hb6.size
  have HO6 := Lib.hid (HO1.out.below (hb5.trans (hb6.mono z5)) (.inl (by omega)))
  have y1 := (d6.cell (p := ⟨b, bo + j * 2, none⟩) hbs).trans y1
  have y2 := (d6.cell (p := ⟨b, bo + j * 2 + 1, none⟩) hbs).trans y2
  have hbs := Nat.lt_of_lt_of_le hbs d6.size
  have HA6 := Lib.hid (fun o => HO6.out.below (w' := w6.alloc o) ((Below.refl _ _).alloc (Nat.le_refl _) _) (.inl (by omega)))
  have HB6 := Lib.hid (fun o => bw6.alloc bw6.size o)
  have HG6 := Lib.hid (oneGb w6 ((prt xs gs j).length : Int) bb)
  generalize hP : prt xs gs j = ps at *
  clear hP
  go_wp2_with (fail)
  (go_at_call 37; refine (KN1.out _ _ _ _ _ _ _ (HA6.out _) HG6.out (HT.out.below (HB6.out _))).mono ?_; rintro e w7 ⟨rfl, hb7⟩)
  have hb7' := ((Below.refl w6.heap.size w6).alloc (Nat.le_refl _) (.cells #[.int .i64 (ps.length : Int), .bool bb] 52)).trans (hb7.mono (by simp))
  have bw7 := bl_step bw6 hb7'
  have z7 := hb7'.size
  have HO7 := Lib.hid (HO6.out.below hb7' (.inl (by omega)))
  have y1 := (hb7'.cell (p := ⟨b, bo + j * 2, none⟩) hbs).trans y1
  have y2 := (hb7'.cell (p := ⟨b, bo + j * 2 + 1, none⟩) hbs).trans y2
  have hbs := Nat.lt_of_lt_of_le hbs z7
  have HA7 := Lib.hid (fun o => HO7.out.below (w' := w7.alloc o) ((Below.refl _ _).alloc (Nat.le_refl _) _) (.inl (by omega)))
  have HB7 := Lib.hid (fun o => bw7.alloc bw7.size o)
  have HG7 := Lib.hid (oneGb w7 (ps.length : Int) false)
  go_wp2_with (fail)
  (go_at_call 37; refine (KN2.out _ _ _ _ _ _ _ (HA7.out _) HG7.out (HT.out.below (HB7.out _))).mono ?_; rintro e w8 ⟨rfl, hb8⟩)
  have hb8' := ((Below.refl w7.heap.size w7).alloc (Nat.le_refl _) (.cells #[.int .i64 (ps.length : Int), .bool false] 52)).trans (hb8.mono (by simp))
  have bw8 := bl_step bw7 hb8'
  have y1 := (hb8'.cell (p := ⟨b, bo + j * 2, none⟩) hbs).trans y1
  have y2 := (hb8'.cell (p := ⟨b, bo + j * 2 + 1, none⟩) hbs).trans y2
  have hbs := Nat.lt_of_lt_of_le hbs hb8'.size
  have HE := Lib.hid (fun n => bl_drewN bw8 n)
  cases bb
  · generalize gnl ps false = nm at *
    have hz0 : (nm.toList == nm.toList) = true := by simp
    have hz1 : (nm.toList == []) = false := by rw [beq_eq_false_iff_ne]; exact c3
    have hs1 : (1 : Int) ≤ (nm.size : Int) := by omega
    clear c1 c2 HO1 HO6 HO7 HA6 HA7 HB6 HB7 HG6 HG7 KN1 KN2 KC KM
    go_wp2
    go_quiet (fail)
    all_goals
      go_wp2
      go_ret
      first | exact ⟨rfl, HE.out _⟩ | exact ⟨rfl, bw8⟩
  · have hz2 : ((gnl ps true).toList == (gnl ps false).toList) = false := by rw [beq_eq_false_iff_ne]; exact c1
    generalize gnl ps false = nm at *
    generalize gnl ps true = om at *
    have hz0 : (nm.toList == nm.toList) = true := by simp
    have hz1 : (nm.toList == []) = false := by rw [beq_eq_false_iff_ne]; exact c3
    have hs1 : (1 : Int) ≤ (nm.size : Int) := by omega
    have hs2 : (1 : Int) ≤ (om.size : Int) := by omega
    have hz3 : ((om.extract 1 om.size).toList == (nm.extract 1 nm.size).toList) = true := by rw [c2]; simp
    clear c1 HO1 HO6 HO7 HA6 HA7 HB6 HB7 HG6 HG7 KN1 KN2 KC KM
    go_wp2
    go_quiet (fail)
    all_goals
      go_wp2
      go_ret
      first | exact ⟨rfl, HE.out _⟩ | exact ⟨rfl, bw8⟩

noncomputable def fnGroupsCut_world (os : Os) : World := World.laidAll Tryd.prog os Rows.fnGroupsCutRow.laid
theorem fnGroupsCut_met (os : Os) : laidMet Tryd.prog Rows.fnGroupsCutRow.laid ((fnGroupsCut_world os).forCall (fun _ _ => 0) ⟨#[], #[.slice none 0 0], []⟩).memory :=
  laidMet_laidAll _ (by kernel_rfl) (by kernel_rfl)
theorem fnGroupsCut_reads (os : Os) {H : Type} (enc : TypeId × Value → H) : ∃ places, DataW.whole enc Tryd.prog ((fnGroupsCut_world os).forCall (fun _ _ => 0) ⟨#[], #[.slice none 0 0], []⟩).memory Tryd.f8.params.toList Rows.fnGroupsCutSpec.vars false (#[.slice none 0 0] : Array Value).toList 8 = some ([.nil], [Rows.laid_loop_example_neumes_impl_neumes], places) :=
  ⟨((DataW.whole enc Tryd.prog ((fnGroupsCut_world os).forCall (fun _ _ => 0) ⟨#[], #[.slice none 0 0], []⟩).memory Tryd.f8.params.toList Rows.fnGroupsCutSpec.vars false (#[.slice none 0 0] : Array Value).toList 8).getD ([], [], [])).2.2, by kernel_rfl⟩
set_option maxRecDepth 100000 in
theorem fnGroupsCut_lifted (os : Os) (started : os.Started) (H : Type) (enc : TypeId × Value → H) (F : Stop.Interp) :
    ReturnsInHanded {} Tryd.checked os 8 .any ((OpenSpec.ofChange Rows.fnGroupsCutSpec).preRow enc Tryd.prog Tryd.f8 Rows.fnGroupsCutRow.domain false Rows.fnGroupsCutRow.laid) (((OpenSpec.ofChange Rows.fnGroupsCutSpec).at F).post enc Tryd.prog Tryd.f8 false true false false) := by
  obtain ⟨places, hx⟩ := fnGroupsCut_reads os enc
  refine returnsInHanded_of_row (C := Tryd.checked) (s := OpenSpec.ofChange Rows.fnGroupsCutSpec) own started (by kernel_rfl) Tryd.func8
    (witness_row_atRef (enc := enc) (C := Tryd.checked) false (fnGroupsCut_world os) #[.slice none 0 0] rfl (by kernel_rfl) (by kernel_rfl) (by kernel_rfl)
      (OpenSpec.preRow_of_cond 8 hx (by kernel_rfl) (fun k hk => by cases hk) (by kernel_rfl) (fnGroupsCut_met os))) ?_
  intro W base args ds gs before hval0 hW _ _ _ hL _ _
  have hval : ∀ (j : Nat) t v, Tryd.f8.params[j]? = some t → args[j]? = some v → Value.okWide Tryd.prog W .any base t v := hval0
  have hW' := hW
  obtain ⟨p, q, hA0, hV, rfl, _, _⟩ := hW
  have hA : DataW.TrodAll enc Tryd.prog W 0 (fun _ => true) true Tryd.f8.params.toList args.toList ds p := hA0
  rw [Tryd.params8] at hA hval
  obtain ⟨v0, vs0, d0, ds0, p0, q0, hargs, rfl, rfl, h0, r0⟩ := trodAll_cons hA
  obtain ⟨rfl, rfl, rfl⟩ := trodAll_nil r0
  obtain rfl : args = #[v0] := by cases args; simp_all
  obtain ⟨g0, rfl⟩ := vars1 hV
  obtain ⟨a0, n0, c0, rfl⟩ := okWide_slice Tryd.underlying22 (hval 0 22 v0 rfl rfl)
  have k0 := h0
  have lt0 : ∀ x ∈ p0, x.block < W.heap.size := by obtain ⟨m, hm⟩ := k0; exact DataW.trod_lt m _ _ _ hm
  have y0 := code_in h0
  clear hA0 hval0
  refine (fnGroupsCut_walk a0 n0 c0 W y0.1 y0.2.1 y0.2.2 (neuTab_at hL (.tail _ (.head _)))).mono fun e W' ⟨he, hb⟩ => ?_
  subst he
  exact ⟨_, rfl, _, _, _, [], _, _, hW', trodAll_cons_mk (shut_bool Tryd.underlying4 _) trodAll_mk0, trodAll_cons_mk (Below.trod laidOut (by kernel_rfl) (of_decide_eq_true (by kernel_rfl)) k0 hb lt0) (trodAll_mk0), hb.trodVars laidOut (by kernel_rfl) hV, hb.frame _, fun h => by cases h⟩



end Go.Proofs.YtkjimilapgkajabDoor
