/-
  The text of a sung melody, in the model.
-/
import Derived.Test.YthnofdkkocpjhaaDoorStx
import Derived.Test.YthnofdkkocpjhaaDoorTns
import Derived.Deep.RegionWith
import Derived.Laws.Concat
import Derived.Laws.IdiomStrings
import Derived.IntWalk
namespace Go.Proofs.YthnofdkkocpjhaaDoor
open Go.RowKit
set_option maxRecDepth 100000
set_option linter.unusedVariables false

set_option maxRecDepth 100000 in
set_option maxHeartbeats 8000000 in
theorem sSingText_any (lo hi lo' hi' : Nat) (v u : Value) (xs : List (Int × Bool)) (zs : List Int) (w : World) (h : TRow w lo hi v xs) (k : IRow w lo' hi' u zs) :
    Calls Tryd.prog 15 #[v, u] w fun e w' => e = .returned (.string (sgt xs zs)) ∧ Below w.heap.size w w' := by
  by_cases hv : sok xs zs = false
  · rw [sgt_no hv]
    go_enter Tryd.func15, Tryd.ntmps15
    go_wp2_with (fail)
    (go_at_call 35; refine (sSingOk_any lo hi lo' hi' v u xs zs _ h k).mono ?_; rintro e w1 ⟨rfl, hb1⟩)
    rw [hv]
    clear h k
    go_wp2
    go_ret
    exact ⟨rfl, hb1⟩
  rw [Bool.not_eq_false] at hv
  obtain ⟨hzl, hxl⟩ := sok_parts2 hv
  have HSY := Lib.hid (sgt_yes hv)
  have HHit : Hid (∀ j t, xs[j]? = some t → 0 ≤ hsy (zs.getD j 0) t.1 t.2) := fun j t => sok_hit hv
  have KO := Lib.hid (sSingOk_any lo hi lo' hi' v u xs zs w h k)
  rw [hv] at KO
  obtain ⟨L, hL⟩ : ∃ L, xs.length = L := ⟨_, rfl⟩
  obtain ⟨va, vc, rfl, fl⟩ := h.flat hL
  obtain ⟨ua, uc, rfl, gl⟩ := k.flat' (hzl.trans hL)
  rw [hL] at hxl HSY
  have FL := Lib.hid fl
  have GL := Lib.hid gl
  have HL := Lib.hid hL
  clear h k hv fl gl hL hzl
  go_enter Tryd.func15, Tryd.ntmps15
  go_wp2_with (fail)
  (go_at_call 35; refine (KO.out).mono ?_; rintro e w1 ⟨rfl, hb1⟩)
  clear KO
  go_wp2
  go_loopw [5, 6] (fun o i wr => ∃ j : Nat, j ≤ L ∧ i = .int .i64 j ∧ o = .string (jns (sgw xs zs j)) ∧ Below w.heap.size w wr) (fun _ i _ => L - (intOf i).toNat)
  case atStart => exact ⟨0, Nat.zero_le _, rfl, rfl, hb1⟩
  case round =>
    obtain ⟨j, hj, rfl, rfl, hb⟩ := hrel
    by_cases hlt : j < L
    · have hjx : j < xs.length := by rw [HL.out]; exact hlt
      have hx : xs[j]? = some xs[j] := List.getElem?_eq_getElem hjx
      have hxd : xs.getD j (0, false) = xs[j] := by rw [List.getD_eq_getElem?_getD, hx]; rfl
      obtain ⟨g, rfl, hg, hc⟩ := FL.out (by omega)
      obtain ⟨g', rfl, hg', hc'⟩ := GL.out (by omega)
      obtain ⟨e1, e2⟩ := hc j hlt
      have e3 := hc' j hlt
      rw [hxd] at e1 e2
      have e1 := (hb.cell (p := ⟨g, j * 2, none⟩) hg).trans e1
      have e2 := (hb.cell (p := ⟨g, j * 2 + 1, none⟩) hg).trans e2
      have e3 := (hb.cell (p := ⟨g', j, none⟩) hg').trans e3
      have j0 : (0 : Int) ≤ (j : Int) := by omega
      have j1 : (j : Int) < (L : Int) := by omega
      have hh := HHit.out j _ hx
      have h5 := hsy_le (zs.getD j 0) xs[j].1 xs[j].2
      have HX := Lib.hid (sgw_succ (zs := zs) hx)
      clear hc hc' hx hxd
      generalize xs[j] = t at e1 e2 hh h5 HX
      obtain ⟨s, b⟩ := t
      generalize zs.getD j 0 = z at e3 hh h5 HX
      simp only at hh h5 HX
      have KS := fun W => sHexSyllable_any z s b W
      obtain ⟨y, hy⟩ : ∃ y : Nat, hsy z s b = (y : Int) := ⟨(hsy z s b).toNat, by omega⟩
      rw [hy] at KS HX
      rw [Int.toNat_natCast] at HX
      have hy6 : y < 6 := by omega
      have HK := Lib.hid KS
      have hx2 := six_arr hy6
      have hx3 := six_list hy6
      have hx4 := six_get hy6
      have hss := syl_size y
      have yy0 : (0 : Int) ≤ (y : Int) := by omega
      have yy1 : (y : Int) < 6 := by omega
      have hln := sgw_len xs zs j
      have hjn := sgw_jn xs zs (show j ≤ 24 by omega)
      have hgr : g < wr.heap.size := Nat.lt_of_lt_of_le hg hb.size
      have hgr' : g' < wr.heap.size := Nat.lt_of_lt_of_le hg' hb.size
      have HB := Lib.hid hb
      clear KS hy hh h5 hb
      by_cases hj0 : j = 0
      · subst hj0
        have HO : Hid (jns (sgw xs zs (0 + 1)) = syl y) := by
          show _ = _
          rw [HX.out]
          exact jns_one _
        have hoe : jns (sgw xs zs 0) = ⟨#[]⟩ := rfl
        rw [hoe]
        have hadd : ∀ W : World, (Op.stringOp .add ⟨#[]⟩ (syl y)).run Tryd.prog W = .ok (.string (syl y)) W := fun W => run_string_add_sum W ⟨#[]⟩ _ (by show 0 + (syl y).size ≤ 9223372036854775807; omega)
        clear hoe HX hjn hln hss
        go_wp2
        go_region_with (go_at_call 36; refine (HK.out _).mono ?_; rintro e w2 ⟨rfl, hb2⟩; obtain ⟨hc2, hf2, hz2⟩ := bl hb2; (try simp at hz2); (try have f0 : w2.cell? ⟨wr.heap.size, y, none⟩ = some (.string (syl y)) := (hc2 _ _ (by go_size)).trans (six_cell _ _ hy6)); have f1 : w2.cell? ⟨g', 0, none⟩ = some (.int .i64 z) := (hc2 _ _ (by go_size)).trans (by go_simp); have f2 : w2.cell? ⟨g, 0 * 2, none⟩ = some (.int .i64 s) := (hc2 _ _ (by go_size)).trans (by go_simp); have f3 : w2.cell? ⟨g, 0 * 2 + 1, none⟩ = some (.bool b) := (hc2 _ _ (by go_size)).trans (by go_simp); clear hc2 hf2)
        all_goals
          (try simp only [Act.put, List.getElem_toArray, List.getElem_cons_succ, List.getElem_cons_zero, List.setIfInBounds_toArray, List.set_cons_zero, List.set_cons_succ])
          go_wp2
          go_roundw
          case rel => exact ⟨0 + 1, by omega, by go_num, by rw [HO.out], by first | exact bl_step HB.out (bl_step (by (repeat' (first | (with_reducible exact Below.refl _ _) | (with_reducible refine Below.alloc ?_ ?_ _) | (with_reducible refine Below.drew ?_) | (with_reducible refine Below.setCell ?_ ?_ _) | (with_reducible refine bl_step ?_ (by assumption)) | go_size))) hb2) | exact bl_step (bl_step HB.out (bl_step (by (repeat' (first | (with_reducible exact Below.refl _ _) | (with_reducible refine Below.alloc ?_ ?_ _) | (with_reducible refine Below.drew ?_) | (with_reducible refine Below.setCell ?_ ?_ _) | (with_reducible refine bl_step ?_ (by assumption)) | go_size))) hb2)) (by (repeat' (first | (with_reducible exact Below.refl _ _) | (with_reducible refine Below.alloc ?_ ?_ _) | (with_reducible refine Below.drew ?_) | (with_reducible refine Below.setCell ?_ ?_ _) | (with_reducible refine bl_step ?_ (by assumption)) | go_size)))⟩
          case measure => simp [intOf]; omega
      · have HO : Hid (jns (sgw xs zs j) ++ ⟨#[32]⟩ ++ syl y = jns (sgw xs zs (j + 1))) := by
          show _ = _
          rw [HX.out]
          exact jns_more (fun e => hj0 (by have := congrArg List.length e; rw [hln] at this; exact this)) _
        have gj : (0 : Int) < (j : Int) := by omega
        have gj' : 0 < j := by omega
        have hos : (jns (sgw xs zs j)).size ≤ 96 := by show (jnw _).toArray.size ≤ 96; rw [List.size_toArray]; omega
        generalize jns (sgw xs zs j) = o at HO hos ⊢
        have hadd1 : ∀ W : World, (Op.stringOp .add o ⟨#[32]⟩).run Tryd.prog W = .ok (.string (o ++ ⟨#[32]⟩)) W := fun W => run_string_add_sum W _ _ (by show o.size + 1 ≤ 9223372036854775807; omega)
        have hos2 : (o ++ (⟨#[32]⟩ : ByteArray)).size ≤ 97 := by rw [ByteArray.size_append]; show o.size + 1 ≤ 97; omega
        have hadd2 : ∀ W : World, (Op.stringOp .add (o ++ ⟨#[32]⟩) (syl y)).run Tryd.prog W = .ok (.string (jns (sgw xs zs (j + 1)))) W := fun W => by
          rw [← HO.out]
          exact run_string_add_sum W _ _ (by show (o ++ (⟨#[32]⟩ : ByteArray)).size + (syl y).size ≤ 9223372036854775807; omega)
        obtain ⟨o2, ho2⟩ : ∃ o2, jns (sgw xs zs (j + 1)) = o2 := ⟨_, rfl⟩
        rw [ho2] at hadd2
        have HO2 := Lib.hid ho2
        clear ho2 HO
        generalize o ++ (⟨#[32]⟩ : ByteArray) = o1 at hadd1 hadd2 hos2
        clear HX hjn hln hss hj0
        go_wp2
        go_region_with (go_at_call 36; refine (HK.out _).mono ?_; rintro e w2 ⟨rfl, hb2⟩; obtain ⟨hc2, hf2, hz2⟩ := bl hb2; (try simp at hz2); (try have f0 : w2.cell? ⟨wr.heap.size, y, none⟩ = some (.string (syl y)) := (hc2 _ _ (by go_size)).trans (six_cell _ _ hy6)); have f1 : w2.cell? ⟨g', j, none⟩ = some (.int .i64 z) := (hc2 _ _ (by go_size)).trans (by go_simp); have f2 : w2.cell? ⟨g, j * 2, none⟩ = some (.int .i64 s) := (hc2 _ _ (by go_size)).trans (by go_simp); have f3 : w2.cell? ⟨g, j * 2 + 1, none⟩ = some (.bool b) := (hc2 _ _ (by go_size)).trans (by go_simp); clear hc2 hf2)
        all_goals
          (try simp only [Act.put, List.getElem_toArray, List.getElem_cons_succ, List.getElem_cons_zero, List.setIfInBounds_toArray, List.set_cons_zero, List.set_cons_succ])
          go_wp2
          go_roundw
          case rel => exact ⟨j + 1, by omega, by go_num, by rw [HO2.out], by first | exact bl_step HB.out (bl_step (by (repeat' (first | (with_reducible exact Below.refl _ _) | (with_reducible refine Below.alloc ?_ ?_ _) | (with_reducible refine Below.drew ?_) | (with_reducible refine Below.setCell ?_ ?_ _) | (with_reducible refine bl_step ?_ (by assumption)) | go_size))) hb2) | exact bl_step (bl_step HB.out (bl_step (by (repeat' (first | (with_reducible exact Below.refl _ _) | (with_reducible refine Below.alloc ?_ ?_ _) | (with_reducible refine Below.drew ?_) | (with_reducible refine Below.setCell ?_ ?_ _) | (with_reducible refine bl_step ?_ (by assumption)) | go_size))) hb2)) (by (repeat' (first | (with_reducible exact Below.refl _ _) | (with_reducible refine Below.alloc ?_ ?_ _) | (with_reducible refine Below.drew ?_) | (with_reducible refine Below.setCell ?_ ?_ _) | (with_reducible refine bl_step ?_ (by assumption)) | go_size)))⟩
          case measure => simp [intOf]; omega
    · have hje : j = L := by omega
      subst hje
      go_wp2
      go_ret
      exact ⟨by rw [HSY.out]; rfl, hb⟩
end Go.Proofs.YthnofdkkocpjhaaDoor
