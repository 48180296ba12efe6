/-
  The text of a sung melody, in the program.
-/
import Derived.Test.YthnofdkkocpjhaaDoorStx
import Derived.Test.YthnofdkkocpjhaaDoorTnm
import Derived.Deep.RegionHeld3
import Derived.Deep.AppendLies
import Derived.IntWalk
namespace Go.Proofs.YthnofdkkocpjhaaDoor
open Go.RowKit
set_option maxRecDepth 100000
set_option linter.unusedVariables false

theorem far_cell {w2 w3 : World} {o : Obj} {b : Option Nat} {p : Addr} {v : Value} (hg : (w2.alloc o).grownBy w3 b) (hp : p.block < w2.heap.size) (hn : some p.block ≠ b) (h : w2.cell? p = some v) : w3.cell? p = some v :=
  (hg.cell_far p (by simp; omega) hn).trans ((World.cell?_alloc_lt _ _ _ hp).trans h)

set_option maxRecDepth 100000 in
set_option maxHeartbeats 8000000 in
theorem singText_any (lo hi lo' hi' : Nat) (v u : Value) (xs : List (Int × Bool)) (zs : List Int) (w : World) (ht : SylTab w) (h : TRow w lo hi v xs) (k : IRow w lo' hi' u zs) :
    Calls Tryd.prog 14 #[v, u] w fun e w' => e = .returned (.string (sgt xs zs)) ∧ Below w.heap.size w w' := by
  by_cases hv : sok xs zs = false
  · rw [sgt_no hv]
    go_enter Tryd.func14, Tryd.ntmps14
    go_wp2_with (fail)
    (go_at_call 16; refine (singOk_any lo hi lo' hi' v u xs zs _ h k).mono ?_; rintro e w1 ⟨rfl, hb1⟩)
    rw [hv]
    clear h k ht
    go_wp2
    go_ret
    exact ⟨rfl, hb1⟩
  rw [Bool.not_eq_false] at hv
  obtain ⟨i0, hi0, hq0, hq1, hq2⟩ := info_parts infoStrJ
  obtain ⟨hzl, hxl⟩ := sok_parts2 hv
  have HSY := Lib.hid (sgt_yes hv)
  have HHit : Hid (∀ j t, xs[j]? = some t → 0 ≤ hsy (zs.getD j 0) t.1 t.2) := fun j t => sok_hit hv
  have HT := Lib.hid ht
  have KO := Lib.hid (singOk_any lo hi lo' hi' v u xs zs w h k)
  rw [hv] at KO
  obtain ⟨L, hL⟩ : ∃ L, xs.length = L := ⟨_, rfl⟩
  obtain ⟨va, vc, rfl, fl⟩ := h.flat hL
  obtain ⟨ua, uc, rfl, gl⟩ := k.flat' (hzl.trans hL)
  rw [hL] at hxl HSY
  have FL := Lib.hid fl
  have GL := Lib.hid gl
  have HL := Lib.hid hL
  clear h k ht hv fl gl hL hzl
  go_enter Tryd.func14, Tryd.ntmps14
  go_wp2_with (fail)
  (go_at_call 16; refine (KO.out).mono ?_; rintro e w1 ⟨rfl, hb1⟩)
  have hz1 := hb1.size
  have HS0 : Hid (JRow (w1.alloc (.cells #[] 9)) w.heap.size (.slice (some ⟨w1.heap.size, 0, none⟩) 0 0) []) := JRow.start w w1 hb1
  have HB0 : Hid (Below w.heap.size w (w1.alloc (.cells #[] 9))) := hb1.alloc hz1 _
  clear hb1 KO
  go_wp2
  go_loopw [5, 15] (fun o i wr => ∃ j : Nat, j ≤ L ∧ i = .int .i64 j ∧ JRow wr w.heap.size o (sgw xs zs j) ∧ Below w.heap.size w wr) (fun _ i _ => L - (intOf i).toNat)
  case atStart => exact ⟨0, Nat.zero_le _, rfl, HS0.out, HB0.out⟩
  case round =>
    obtain ⟨j, hj, rfl, hJ, hb⟩ := hrel
    by_cases hlt : j < L
    · have hjx : j < xs.length := by rw [HL.out]; exact hlt
      have hx : xs[j]? = some xs[j] := List.getElem?_eq_getElem hjx
      have hxd : xs.getD j (0, false) = xs[j] := by rw [List.getD_eq_getElem?_getD, hx]; rfl
      obtain ⟨g, rfl, hg, hc⟩ := FL.out (by omega)
      obtain ⟨g', rfl, hg', hc'⟩ := GL.out (by omega)
      obtain ⟨e1, e2⟩ := hc j hlt
      have e3 := hc' j hlt
      rw [hxd] at e1 e2
      have e1 := (hb.cell (p := ⟨g, j * 2, none⟩) hg).trans e1
      have e2 := (hb.cell (p := ⟨g, j * 2 + 1, none⟩) hg).trans e2
      have e3 := (hb.cell (p := ⟨g', j, none⟩) hg').trans e3
      have j0 : (0 : Int) ≤ (j : Int) := by omega
      have j1 : (j : Int) < (L : Int) := by omega
      have hh := HHit.out j _ hx
      have h5 := hsy_le (zs.getD j 0) xs[j].1 xs[j].2
      have HX := Lib.hid (sgw_succ (zs := zs) hx)
      clear hc hc' hx hxd
      generalize xs[j] = t at e1 e2 hh h5 HX
      obtain ⟨s, b⟩ := t
      generalize zs.getD j 0 = z at e3 hh h5 HX
      simp only at hh h5 HX
      have KS := fun W => hexSyllable_any z s b W
      obtain ⟨y, hy⟩ : ∃ y : Nat, hsy z s b = (y : Int) := ⟨(hsy z s b).toNat, by omega⟩
      rw [hy] at KS HX
      rw [Int.toNat_natCast] at HX
      have hy6 : y < 6 := by omega
      have HK := Lib.hid KS
      have y0 : (0 : Int) ≤ (y : Int) := by omega
      have y1 : (y : Int) < 6 := by omega
      have ey : wr.cell? ⟨0, y, none⟩ = some (.string (syl y)) := (HT.out.below hb) y hy6
      have hgw0 : 0 < w.heap.size := World.block_lt_of_cell? w _ (HT.out y hy6)
      have hgy : 0 < wr.heap.size := World.block_lt_of_cell? wr _ ey
      have hln := sgw_len xs zs j
      have hgr : g' < wr.heap.size := Nat.lt_of_lt_of_le hg' hb.size
      generalize syl y = x at ey HX
      generalize hws : sgw xs zs j = ws at hJ hln
      rw [hws] at HX
      clear hws KS hy hh h5
      go_wp2
      obtain ⟨W, hW⟩ : ∃ W, W = wr.alloc (.cells #[.int .i64 s, .bool b] 52) := ⟨_, rfl⟩
      have f1 : W.cell? ⟨wr.heap.size, 0, none⟩ = some (.int .i64 s) := by rw [hW]; go_simp
      have f2 : W.cell? ⟨wr.heap.size, 1, none⟩ = some (.bool b) := by rw [hW]; go_simp
      have f3 : W.cell? ⟨g', j, none⟩ = some (.int .i64 z) := by rw [hW, World.cell?_alloc_lt _ _ _ hgr]; exact e3
      have f4 : W.cell? ⟨0, y, none⟩ = some (.string x) := by rw [hW, World.cell?_alloc_lt _ _ _ hgy]; exact ey
      have fB : Below w.heap.size w W := by rw [hW]; exact hb.alloc hb.size _
      have fJ := World.ownsRow.alloc hJ (.cells #[.int .i64 s, .bool b] 52)
      rw [← hW] at fJ
      have fz : wr.heap.size < W.heap.size := by rw [hW]; simp
      have fg : g' < W.heap.size := Nat.lt_trans hgr fz
      have fy : 0 < W.heap.size := Nat.lt_trans hgy fz
      have HLT := Lib.hid (World.ownsRow.lt hJ)
      have hwr := hb.size
      have hgw : g' < w.heap.size := hg'
      rw [← hW]
      clear hW e1 e2 e3 ey hJ
      have fJd : JRow W.drew w.heap.size _ ws := World.ownsRow.drew fJ
      have fBd : Below w.heap.size w W.drew := fB.drew
      go_region_held3 (fun wx => wx.cell? ⟨wr.heap.size, 0, none⟩ = some (.int .i64 s) ∧ wx.cell? ⟨wr.heap.size, 1, none⟩ = some (.bool b) ∧ wx.cell? ⟨g', j, none⟩ = some (.int .i64 z) ∧ wx.cell? ⟨0, y, none⟩ = some (.string x)) (first | exact ⟨p1, p2, p3, p4⟩ | go_keep)
        (first
          | (go_at_call 33; refine (HK.out _).mono ?_; rintro e w2 ⟨rfl, hb2⟩; have d1 := (hb2.cell (p := ⟨wr.heap.size, 0, none⟩) fz).trans f1; have d2 := (hb2.cell (p := ⟨wr.heap.size, 1, none⟩) fz).trans f2; have d3 := (hb2.cell (p := ⟨g', j, none⟩) fg).trans f3; have d4 := (hb2.cell (p := ⟨0, y, none⟩) fy).trans f4; have hJ2 := fJd.below hb2; have hB2 := bl_step fBd hb2; have hs2 := hB2.size; have hs3 := hb2.size)
          | (refine step_append_lies _ (by rfl) _ _ _ (by rfl) w.heap.size 9 i0 (.string ⟨#[]⟩) 1 16 Tryd.underlying71 hi0 hq0 hq1 hq2 rfl (by omega) _ ws.length (ws.map Value.string) (by rfl) (World.ownsRow.alloc hJ2 _)
              ⟨w2.heap.size, 0, none⟩ 1 1 [.string x] (by rfl) (by rfl) (World.news_of_block (cs := #[.string x]) (t := 9) (fr := (0, 0)) (heap_alloc_new w2 _)) (by simp [Value.oneCell'])
              (by omega) (by unfold maxLen; omega) (by omega) (by simp; omega) (w2.heap.size + 1) (by simp) ?_; intro gg cap w3 hown3 hgrow hat hltg; have p1 := far_cell hgrow (p := ⟨wr.heap.size, 0, none⟩) (by have : W.drew.heap.size = W.heap.size := rfl; show wr.heap.size < _; omega) (fun e => by have : w.heap.size ≤ wr.heap.size ∧ wr.heap.size < wr.heap.size := HLT.out _ e.symm; omega) d1; have p2 := far_cell hgrow (p := ⟨wr.heap.size, 1, none⟩) (by have : W.drew.heap.size = W.heap.size := rfl; show wr.heap.size < _; omega) (fun e => by have : w.heap.size ≤ wr.heap.size ∧ wr.heap.size < wr.heap.size := HLT.out _ e.symm; omega) d2; have p3 := far_cell hgrow (p := ⟨g', j, none⟩) (by show g' < _; omega) (fun e => by have : w.heap.size ≤ g' ∧ g' < wr.heap.size := HLT.out _ e.symm; omega) d3; have p4 := far_cell hgrow (p := ⟨0, y, none⟩) (by show 0 < _; omega) (fun e => by have : w.heap.size ≤ 0 ∧ 0 < wr.heap.size := HLT.out _ e.symm; omega) d4))
      have HJ : Hid (JRow w3 w.heap.size (.slice (some ⟨gg, 0, none⟩) (ws.length + 1) cap) (sgw xs zs (j + 1))) := by
        show JRow _ _ _ _
        rw [HX.out]
        unfold JRow
        rw [List.map_append, List.length_append]
        exact hown3
      have HBN : Hid (Below w.heap.size w w3) := (hB2.alloc hs2 _).grown hgrow (by show w.heap.size ≤ (w2.alloc _).heap.size; simp; omega) (fun k hk => (World.ownsRow.lt hJ2 k hk).1)
      clear hown3 hgrow hat hltg hJ2 hB2 p1 p2 p3 p4 fJd fBd fJ fB f1 f2 f3 f4 d1 d2 d3 d4
      go_wp2
      go_roundw
      case rel => exact ⟨j + 1, by omega, by go_num, by first | exact HJ.out | (have hJJ := HJ.out; rw [hln] at hJJ; exact hJJ), HBN.out⟩
      case measure => simp [intOf]; omega
    · have hje : j = L := by omega
      subst hje
      have hjn := sgw_jn xs zs hxl
      have hln := sgw_len xs zs j
      have HJO := Lib.hid (hJ.join (by omega) (by omega))
      go_wp2_with (fail)
      (go_at_call 34; refine (HJO.out).mono ?_; rintro e w2 ⟨rfl, hb2⟩)
      go_wp2
      go_ret
      exact ⟨by rw [HSY.out]; rfl, bl_step hb hb2⟩
end Go.Proofs.YthnofdkkocpjhaaDoor
