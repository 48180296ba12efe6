/-
  The names of a tone in all its hexachords, in the program.
-/
import Derived.Test.YtjodcaeohkjlnaaDoorTnm
import Derived.Test.YtjodcaeohkjlnaaDoorMelT
namespace Go.Proofs.YtjodcaeohkjlnaaDoor
open Go.RowKit
set_option maxRecDepth 100000
set_option linter.unusedVariables false

/-- the loop's state: the names so far, the tone's box, the table -/
structure TnInv (s : Int) (b : Bool) (w wr : World) (v : Value) (ws : List ByteArray) : Prop where
  own : JRow wr (w.heap.size + 1) v ws
  c0 : wr.cell? ⟨w.heap.size, 0, none⟩ = some (.int .i64 s)
  c1 : wr.cell? ⟨w.heap.size, 1, none⟩ = some (.bool b)
  tb : TblAt wr (w.heap.size + 2)
  z : w.heap.size + 2 < wr.heap.size
  bl : Below w.heap.size w wr
theorem TnInv.below {s : Int} {b : Bool} {w wr w1 : World} {v : Value} {ws : List ByteArray} (h : TnInv s b w wr v ws) (hb : Below wr.heap.size wr w1) : TnInv s b w w1 v ws := by
  have z := h.z
  exact ⟨h.own.below hb, (hb.cell (p := ⟨w.heap.size, 0, none⟩) (by show w.heap.size < _; omega)).trans h.c0, (hb.cell (p := ⟨w.heap.size, 1, none⟩) (by show w.heap.size < _; omega)).trans h.c1, h.tb.below hb, Nat.lt_of_lt_of_le z hb.size, bl_step h.bl hb⟩
theorem TnInv.drew {s : Int} {b : Bool} {w wr : World} {v : Value} {ws : List ByteArray} (h : TnInv s b w wr v ws) : TnInv s b w wr.drew v ws := h.below (Below.refl _ _).drew
theorem TnInv.app {s : Int} {b : Bool} {w w1 w2 : World} {v v' : Value} {ws : List ByteArray} {x : ByteArray} {o : Obj} (h : TnInv s b w w1 v ws)
    (hown : w2.ownsRow (w.heap.size + 1) 9 1 v' (ws.length + 1) (ws.map Value.string ++ [.string x])) (hg : (w1.alloc o).grownBy w2 v.ownBlock) : TnInv s b w w2 v' (ws ++ [x]) := by
  have z := h.z
  have hne : ∀ k, v.ownBlock = some k → w.heap.size + 1 ≤ k := fun k hk => (World.ownsRow.lt h.own k hk).1
  have hb2 : w2.heap[w.heap.size]? = w1.heap[w.heap.size]? := (hg.block _ (by simp; omega) (fun e => by have := hne _ e.symm; omega)).trans (Below.heap_alloc _ _ _ (by omega))
  refine ⟨JRow.app hown, (World.cell?_of_block (w := w1) (a := ⟨w.heap.size, 0, none⟩) hb2).trans h.c0, (World.cell?_of_block (w := w1) (a := ⟨w.heap.size, 1, none⟩) hb2).trans h.c1, app_blk (by decide) h.tb h.own hg, ?_,
    (h.bl.alloc (by omega) o).grown hg (by simp; omega) (fun k hk => by have := hne k hk; omega)⟩
  have := hg.size
  simp at this
  omega
theorem TnInv.start (s : Int) (b : Bool) (w : World) : TnInv s b w (((w.alloc (.cells #[.int .i64 s, .bool b] 24)).alloc (.cells #[] 9)).alloc (.cells hexTbl 100)) (.slice (some ⟨w.heap.size + 1, 0, none⟩) 0 0) [] := by
  have h1 := heap_alloc_new (w.alloc (.cells #[.int .i64 s, .bool b] 24)) (.cells #[] 9)
  have h2 := heap_alloc_new ((w.alloc (.cells #[.int .i64 s, .bool b] 24)).alloc (.cells #[] 9)) (.cells hexTbl 100)
  have hB : Below w.heap.size w (((w.alloc (.cells #[.int .i64 s, .bool b] 24)).alloc (.cells #[] 9)).alloc (.cells hexTbl 100)) := (((Below.refl _ _).alloc (Nat.le_refl _) _).alloc (by simp) _).alloc (by simp; omega) _
  refine ⟨⟨rfl, .inr ⟨w.heap.size + 1, 0, #[], rfl, Nat.le_refl _, ?_, by simp, by simp [maxLen], by simp, by simp⟩⟩, by go_simp, by go_simp, ?_, by simp, hB⟩
  · rw [Below.heap_alloc _ _ _ (by simp)]
    simpa using h1
  · simpa [TblAt] using h2

set_option maxRecDepth 100000 in
set_option maxHeartbeats 8000000 in
theorem toneNames_any (s : Int) (b : Bool) (w : World) (ht : SylTab w) :
    Calls Tryd.prog 40 #[.agg #[.int .i64 s, .bool b]] w fun e w' => e = .returned (.string (tnm s b)) ∧ Below w.heap.size w w' := by
  obtain ⟨i0, hi, hq0, hq1, hq2⟩ := info_parts infoStrJ
  have HT := Lib.hid ht
  clear ht
  go_enter Tryd.func40, Tryd.ntmps40
  go_wp2_with (go_at_call 96; refine (newHex_any _).mono ?_; rintro e wx ⟨rfl, rfl⟩)
  go_loopw [3, 5] (fun v i wr => ∃ k : Nat, k ≤ 7 ∧ i = .int .i64 ((k : Int) - 1) ∧ TnInv s b w wr v (tnw s b k)) (fun _ i _ => (intOf i + 1).toNat)
  case atStart => exact ⟨7, by omega, rfl, TnInv.start s b w⟩
  case round =>
    obtain ⟨k, hk, rfl, hinv⟩ := hrel
    by_cases hlt : k = 0
    · subst hlt
      have hbw := hinv.bl
      have HJ := Lib.hid (hinv.own.join (by have := tnw_jn s b 0; omega) (by have := tnw_len s b 0; omega))
      clear hinv
      go_wp2_with (fail)
      (go_at_call 100; refine (HJ.out).mono ?_; rintro e w1 ⟨rfl, hb1⟩)
      go_wp2
      go_ret
      exact ⟨rfl, bl_step hbw hb1⟩
    · obtain ⟨j, rfl⟩ : ∃ j, k = j + 1 := ⟨k - 1, by omega⟩
      rw [show (((j + 1 : Nat) : Int) - 1) = (j : Int) by omega]
      have hj7 : j < 7 := by omega
      have d0 := hinv.c0
      have d1 := hinv.c1
      obtain ⟨hx, hx2⟩ := rowAt_hex hj7
      obtain ⟨c0, c1⟩ := hinv.tb.hex.row hx
      rw [hx2] at c0 c1
      have hB := hinv.tb.lt
      have k0 : (0 : Int) ≤ (j : Int) := by omega
      have k1 : (j : Int) < 7 := by omega
      have h5 := hsy_le (rowAt j) s b
      have KS := fun W c0 c1 hB => syl_row (w.heap.size + 2) (j * 2) (rowAt j) s b hx W c0 c1 hB
      have HI := Lib.hid hinv
      clear hx2 hlt hk
      by_cases hh : 0 ≤ hsy (rowAt j) s b
      · have HX := Lib.hid (tnw_hit hj7 hh)
        obtain ⟨y, hy⟩ : ∃ y : Nat, hsy (rowAt j) s b = (y : Int) := ⟨(hsy (rowAt j) s b).toNat, by omega⟩
        have hy6 : y < 6 := by omega
        rw [hy] at KS HX
        have HK := Lib.hid KS
        have HX2 : Hid (tnw s b j = tnw s b (j + 1) ++ [syl y]) := by
          have := HX.out
          rwa [Int.toNat_natCast] at this
        clear KS hh hy h5 HX hx hinv
        go_wp2
        go_region_held3 (fun wx => wx.cell? ⟨w.heap.size, 0, none⟩ = some (.int .i64 s) ∧ wx.cell? ⟨w.heap.size, 1, none⟩ = some (.bool b)) (go_keep)
          (first | (go_at_call 97; refine (HK.out _ ?_ ?_ ?_).mono ?_; (focus (exact c0)); (focus (exact c1)); (focus (exact hB)); rintro e w1 ⟨rfl, hb1⟩; have d2 := (HI.out.drew.below hb1).c0; have d3 := (HI.out.drew.below hb1).c1))
        have hinv1 := HI.out.drew.below hb1
        have ey : w1.cell? ⟨0, y, none⟩ = some (.string (syl y)) := (HT.out.below hinv1.bl) y hy6
        have y0 : (0 : Int) ≤ (y : Int) := by omega
        have y1 : (y : Int) < 6 := by omega
        have HI1 := Lib.hid hinv1
        have hown := hinv1.own
        have hz1 := hinv1.z
        have hl := tnw_len s b (j + 1)
        clear d0 d1 c0 c1 hB d2 d3 hinv1
        generalize tnw s b (j + 1) = ws at hown HI1 HX2 hl
        generalize hq : syl y = x at ey HX2
        clear hq
        go_wp2_with (at_builtin; refine wpList_append_own _ rfl _ _ 88 rfl (w.heap.size + 1) 9 i0 (.string ⟨#[]⟩) 1 16 Tryd.underlying88 hi hq0 hq1 hq2 rfl (by decide) _ _ _ rfl (World.ownsRow.alloc hown _) ⟨w1.heap.size, 0, none⟩ 1 1 [.string x] rfl rfl jnews jnews_one (by unfold maxLen; omega) (by omega) (by simp; omega) ?_)
        intro v' w2 hown' hgrow _
        have HI2 := Lib.hid (HI1.out.app hown' hgrow)
        clear hown' hgrow hown
        go_wp2
        go_roundw
        case rel => exact ⟨j, by omega, by go_num, by rw [HX2.out]; exact HI2.out⟩
        case measure => simp [intOf]
      · have hh' : hsy (rowAt j) s b < 0 := by omega
        have hh2 : decide (0 ≤ hsy (rowAt j) s b) = false := by simpa using hh'
        have HX := Lib.hid (tnw_miss hj7 hh')
        clear hh hinv
        go_wp2
        go_region_held3 (fun wx => wx.cell? ⟨w.heap.size, 0, none⟩ = some (.int .i64 s) ∧ wx.cell? ⟨w.heap.size, 1, none⟩ = some (.bool b)) (go_keep)
          (first | (go_at_call 97; refine (KS _ ?_ ?_ ?_).mono ?_; (focus (exact c0)); (focus (exact c1)); (focus (exact hB)); rintro e w1 ⟨rfl, hb1⟩; have d2 := (HI.out.drew.below hb1).c0; have d3 := (HI.out.drew.below hb1).c1))
        have HI1 := Lib.hid (HI.out.drew.below hb1)
        clear d0 d1 c0 c1 hB d2 d3 KS
        go_wp2
        go_roundw
        case rel => exact ⟨j, by omega, by go_num, by rw [HX.out]; exact HI1.out⟩
        case measure => simp [intOf]
end Go.Proofs.YtjodcaeohkjlnaaDoor
