/-
  The names of a tone in all its hexachords, in the model.
-/
import Derived.Test.YtjodcaeohkjlnaaDoorTnm
import Derived.Deep.RegionWith
import Derived.Laws.Concat
import Derived.Laws.IdiomStrings
import Derived.IntWalk
namespace Go.Proofs.YtjodcaeohkjlnaaDoor
open Go.RowKit
set_option maxRecDepth 100000
set_option linter.unusedVariables false

theorem six_arr {y : Nat} (hy : y < 6) : (#[.string ⟨#[117, 116]⟩, .string ⟨#[114, 101]⟩, .string ⟨#[109, 105]⟩, .string ⟨#[102, 97]⟩, .string ⟨#[115, 111, 108]⟩, .string ⟨#[108, 97]⟩] : Array Value)[y]? = some (.string (syl y)) := by
  have : y = 0 ∨ y = 1 ∨ y = 2 ∨ y = 3 ∨ y = 4 ∨ y = 5 := by omega
  rcases this with rfl | rfl | rfl | rfl | rfl | rfl <;> rfl
theorem six_list {y : Nat} (hy : y < 6) : ([.string ⟨#[117, 116]⟩, .string ⟨#[114, 101]⟩, .string ⟨#[109, 105]⟩, .string ⟨#[102, 97]⟩, .string ⟨#[115, 111, 108]⟩, .string ⟨#[108, 97]⟩] : List Value)[y]? = some (.string (syl y)) := by
  have : y = 0 ∨ y = 1 ∨ y = 2 ∨ y = 3 ∨ y = 4 ∨ y = 5 := by omega
  rcases this with rfl | rfl | rfl | rfl | rfl | rfl <;> rfl
theorem six_get {y : Nat} (hy : y < 6) : ∀ h, ([.string ⟨#[117, 116]⟩, .string ⟨#[114, 101]⟩, .string ⟨#[109, 105]⟩, .string ⟨#[102, 97]⟩, .string ⟨#[115, 111, 108]⟩, .string ⟨#[108, 97]⟩] : List Value)[y]'h = .string (syl y) := by
  intro h
  have := six_list hy
  rw [List.getElem?_eq_getElem h] at this
  exact Option.some.inj this
theorem six_cell (W : World) (t : TypeId) {y : Nat} (hy : y < 6) : (W.alloc (.cells #[.string ⟨#[117, 116]⟩, .string ⟨#[114, 101]⟩, .string ⟨#[109, 105]⟩, .string ⟨#[102, 97]⟩, .string ⟨#[115, 111, 108]⟩, .string ⟨#[108, 97]⟩] t)).cell? ⟨W.heap.size, y, none⟩ = some (.string (syl y)) := by
  rw [World.cell?_alloc_new]; exact six_arr hy

set_option maxRecDepth 100000 in
set_option maxHeartbeats 8000000 in
theorem sToneNames_any (s : Int) (b : Bool) (w : World) :
    Calls Tryd.prog 68 #[.agg #[.int .i64 s, .bool b]] w fun e w' => e = .returned (.string (tnm s b)) ∧ Below w.heap.size w w' := by
  have HT : Hid (tnm s b = jns (mnw s b (hall s b 21))) := by show _ = _; rw [tnm_all]; rfl
  have HI : Hid (∀ n, n ∈ hall s b 21 → 0 ≤ hsy n s b) := fun n hn => hall_in hn
  have hl21 := hall_len s b 21
  go_enter Tryd.func68, Tryd.ntmps68
  go_wp2_with (fail)
  (go_at_call 35; refine (sHexAll_any s b _).mono ?_; rintro e w1 ⟨u, rfl, hr1, hb1⟩)
  have b0 : w1.cell? ⟨w.heap.size, 0, none⟩ = some (.int .i64 s) := (hb1.cell (p := ⟨w.heap.size, 0, none⟩) (by simp)).trans (by go_simp)
  have b1 : w1.cell? ⟨w.heap.size, 1, none⟩ = some (.bool b) := (hb1.cell (p := ⟨w.heap.size, 1, none⟩) (by simp)).trans (by go_simp)
  have bz : w.heap.size < w1.heap.size := by have := hb1.size; simp at this; omega
  have hbw : Below w.heap.size w w1 := ((Below.refl _ _).alloc (Nat.le_refl _) _).trans (hb1.mono (by simp))
  have HB1 := Lib.hid hbw
  clear hb1 hbw
  rcases hr1.form with ⟨rfl, hnil⟩ | ⟨g, cap, cur, rfl, hg0, hg1, hgs, _, _, _, _, _, hc, _⟩
  · have HE : Hid (tnm s b = ⟨#[]⟩) := by show _ = _; rw [HT.out, hnil]; rfl
    clear hr1 hnil
    go_wp2
    go_rounds 1
    go_ret
    exact ⟨by rw [HE.out]; rfl, HB1.out⟩
  have HC := Lib.hid hc
  clear hr1 hc
  generalize hall s b 21 = l at HT HI hl21 HC
  obtain ⟨L, hL⟩ : ∃ L, l.length = L := ⟨_, rfl⟩
  rw [hL] at hl21 HC ⊢
  have HL := Lib.hid hL
  clear hL
  have sL : IntKind.i64.wrap ((L : Int) - 1) = (L : Int) - 1 := IntWalk.i64_in _ (by omega)
  go_wp2
  go_loopw [4, 5] (fun o i wr => ∃ k : Nat, k ≤ L ∧ i = .int .i64 ((k : Int) - 1) ∧ o = .string (jns (mnw s b (l.drop k))) ∧ Below w1.heap.size w1 wr) (fun _ i _ => (intOf i + 1).toNat)
  case atStart => exact ⟨L, Nat.le_refl _, rfl, by rw [← HL.out, List.drop_length]; rfl, by first | exact Below.refl _ _ | exact ⟨rfl, rfl, rfl, Nat.le_refl _, fun _ _ _ => rfl⟩⟩
  case round =>
    obtain ⟨k, hk, rfl, rfl, hb⟩ := hrel
    by_cases hk0 : k = 0
    · subst hk0
      rw [List.drop_zero]
      go_wp2
      go_ret
      exact ⟨by rw [HT.out]; rfl, bl_step HB1.out hb⟩
    · obtain ⟨j, rfl⟩ : ∃ j, k = j + 1 := ⟨k - 1, by omega⟩
      rw [show (((j + 1 : Nat) : Int) - 1) = (j : Int) by omega]
      have hjl : j < l.length := by rw [HL.out]; omega
      have hn : l[j]? = some l[j] := List.getElem?_eq_getElem hjl
      have e0 := (hb.cell (p := ⟨g, j, none⟩) hgs).trans (HC.out j (by omega))
      rw [List.getD_eq_getElem?_getD, hn, Option.getD_some] at e0
      have d0 := (hb.cell (p := ⟨w.heap.size, 0, none⟩) bz).trans b0
      have d1 := (hb.cell (p := ⟨w.heap.size, 1, none⟩) bz).trans b1
      have hy0 := HI.out _ (List.mem_of_getElem? hn)
      have hy5 := hsy_le l[j] s b
      have HX := Lib.hid (mnw_next (s := s) (b := b) hn)
      have hq := mnw_jn s b (l.drop (j + 1))
      have hql : (l.drop (j + 1)).length ≤ 21 := by rw [List.length_drop, HL.out]; omega
      have KS := fun W => sHexSyllable_any l[j] s b W
      obtain ⟨y, hy⟩ : ∃ y : Nat, hsy l[j] s b = (y : Int) := ⟨(hsy l[j] s b).toNat, by omega⟩
      have hy6 : y < 6 := by omega
      have hsn : snm s b l[j] = syl y := by unfold snm; rw [hy, Int.toNat_natCast]
      rw [hsn] at HX
      rw [hy] at KS
      have HK := Lib.hid KS
      have hx2 := six_arr hy6
      have hx3 := six_list hy6
      have hx4 := six_get hy6
      have hss := syl_size y
      have yy0 : (0 : Int) ≤ (y : Int) := by omega
      have yy1 : (y : Int) < 6 := by omega
      have jj0 : (0 : Int) ≤ (j : Int) := by omega
      have jj1 : (j : Int) < (L : Int) := by omega
      have hgr : g < wr.heap.size := Nat.lt_of_lt_of_le hgs hb.size
      have hwr : w.heap.size < wr.heap.size := Nat.lt_of_lt_of_le bz hb.size
      have HB := Lib.hid hb
      clear hsn hy hy0 hy5 KS hb hn
      generalize l[j] = n at e0 HK
      by_cases hjL : j + 1 = L
      · have HO : Hid (jns (mnw s b (l.drop j)) = syl y) := by
          show _ = _
          rw [HX.out, hjL, ← HL.out, List.drop_length]
          exact jns_one _
        have hoe : jns (mnw s b (l.drop (j + 1))) = ⟨#[]⟩ := by rw [hjL, ← HL.out, List.drop_length]; rfl
        rw [hoe]
        have hadd : ∀ W : World, (Op.stringOp .add ⟨#[]⟩ (syl y)).run Tryd.prog W = .ok (.string (syl y)) W := fun W => run_string_add_sum W ⟨#[]⟩ _ (by show 0 + (syl y).size ≤ 9223372036854775807; omega)
        clear hoe hjL HX hq hql hss
        go_wp2
        go_region_with (go_at_call 98; refine (HK.out _).mono ?_; rintro e w2 ⟨rfl, hb2⟩; obtain ⟨hc2, hf2, hz2⟩ := bl hb2; (try simp at hz2); (try have f0 : w2.cell? ⟨wr.heap.size, y, none⟩ = some (.string (syl y)) := (hc2 _ _ (by go_size)).trans (six_cell _ _ hy6)); have f1 : w2.cell? ⟨g, j, none⟩ = some (.int .i64 n) := (hc2 _ _ (by go_size)).trans (by go_simp); have f2 : w2.cell? ⟨w.heap.size, 0, none⟩ = some (.int .i64 s) := (hc2 _ _ (by go_size)).trans (by go_simp); have f3 : w2.cell? ⟨w.heap.size, 1, none⟩ = some (.bool b) := (hc2 _ _ (by go_size)).trans (by go_simp); clear hc2 hf2)
        all_goals
          go_wp2
          go_roundw
          case rel => exact ⟨j, by omega, by go_num, by rw [HO.out], by first | exact bl_step HB.out (bl_step (by (repeat' (first | (with_reducible exact Below.refl _ _) | (with_reducible refine Below.alloc ?_ ?_ _) | (with_reducible refine Below.drew ?_) | (with_reducible refine Below.setCell ?_ ?_ _) | (with_reducible refine bl_step ?_ (by assumption)) | go_size))) hb2) | exact bl_step (bl_step HB.out (bl_step (by (repeat' (first | (with_reducible exact Below.refl _ _) | (with_reducible refine Below.alloc ?_ ?_ _) | (with_reducible refine Below.drew ?_) | (with_reducible refine Below.setCell ?_ ?_ _) | (with_reducible refine bl_step ?_ (by assumption)) | go_size))) hb2)) (by (repeat' (first | (with_reducible exact Below.refl _ _) | (with_reducible refine Below.alloc ?_ ?_ _) | (with_reducible refine Below.drew ?_) | (with_reducible refine Below.setCell ?_ ?_ _) | (with_reducible refine bl_step ?_ (by assumption)) | go_size)))⟩
          case measure => simp [intOf]
      · have hne : l.drop (j + 1) ≠ [] := by
          intro e
          have := congrArg List.length e
          rw [List.length_drop, HL.out, List.length_nil] at this
          omega
        have HO : Hid (jns (mnw s b (l.drop (j + 1))) ++ ⟨#[32]⟩ ++ syl y = jns (mnw s b (l.drop j))) := by
          show _ = _
          rw [HX.out]
          exact jns_more (fun e => hne (by have := congrArg List.length e; rw [mnw_len] at this; exact List.eq_nil_of_length_eq_zero this)) _
        have hnn := mnw_ne (s := s) (b := b) hne (fun n hn => HI.out n (List.mem_of_mem_drop hn))
        have hos : (jns (mnw s b (l.drop (j + 1)))).size ≤ 84 := by show (jnw _).toArray.size ≤ 84; rw [List.size_toArray]; omega
        have hoe : (jns (mnw s b (l.drop (j + 1)))).toList.isEmpty = false := by rw [ByteArray.toList_eq]; show (jnw _).toArray.toList.isEmpty = false; simpa using hnn
        have hoe2 : ((jns (mnw s b (l.drop (j + 1)))).toList != []) = true := by rw [ByteArray.toList_eq, bne_iff_ne]; exact hnn
        generalize jns (mnw s b (l.drop (j + 1))) = o at HO hos hoe hoe2 ⊢
        have hadd1 : ∀ W : World, (Op.stringOp .add o ⟨#[32]⟩).run Tryd.prog W = .ok (.string (o ++ ⟨#[32]⟩)) W := fun W => run_string_add_sum W _ _ (by show o.size + 1 ≤ 9223372036854775807; omega)
        have hos2 : (o ++ (⟨#[32]⟩ : ByteArray)).size ≤ 85 := by rw [ByteArray.size_append]; show o.size + 1 ≤ 85; omega
        have hadd2 : ∀ W : World, (Op.stringOp .add (o ++ ⟨#[32]⟩) (syl y)).run Tryd.prog W = .ok (.string (jns (mnw s b (l.drop j)))) W := fun W => by
          rw [← HO.out]
          exact run_string_add_sum W _ _ (by show (o ++ (⟨#[32]⟩ : ByteArray)).size + (syl y).size ≤ 9223372036854775807; omega)
        obtain ⟨o2, ho2⟩ : ∃ o2, jns (mnw s b (l.drop j)) = o2 := ⟨_, rfl⟩
        rw [ho2] at hadd2
        have HO2 := Lib.hid ho2
        clear ho2 HO
        generalize o ++ (⟨#[32]⟩ : ByteArray) = o1 at hadd1 hadd2 hos2
        clear hne hnn HX hq hql hss hjL
        go_wp2
        go_region_with (go_at_call 98; refine (HK.out _).mono ?_; rintro e w2 ⟨rfl, hb2⟩; obtain ⟨hc2, hf2, hz2⟩ := bl hb2; (try simp at hz2); (try have f0 : w2.cell? ⟨wr.heap.size, y, none⟩ = some (.string (syl y)) := (hc2 _ _ (by go_size)).trans (six_cell _ _ hy6)); have f1 : w2.cell? ⟨g, j, none⟩ = some (.int .i64 n) := (hc2 _ _ (by go_size)).trans (by go_simp); have f2 : w2.cell? ⟨w.heap.size, 0, none⟩ = some (.int .i64 s) := (hc2 _ _ (by go_size)).trans (by go_simp); have f3 : w2.cell? ⟨w.heap.size, 1, none⟩ = some (.bool b) := (hc2 _ _ (by go_size)).trans (by go_simp); clear hc2 hf2)
        all_goals
          go_wp2
          go_roundw
          case rel => exact ⟨j, by omega, by go_num, by rw [HO2.out], by first | exact bl_step HB.out (bl_step (by (repeat' (first | (with_reducible exact Below.refl _ _) | (with_reducible refine Below.alloc ?_ ?_ _) | (with_reducible refine Below.drew ?_) | (with_reducible refine Below.setCell ?_ ?_ _) | (with_reducible refine bl_step ?_ (by assumption)) | go_size))) hb2) | exact bl_step (bl_step HB.out (bl_step (by (repeat' (first | (with_reducible exact Below.refl _ _) | (with_reducible refine Below.alloc ?_ ?_ _) | (with_reducible refine Below.drew ?_) | (with_reducible refine Below.setCell ?_ ?_ _) | (with_reducible refine bl_step ?_ (by assumption)) | go_size))) hb2)) (by (repeat' (first | (with_reducible exact Below.refl _ _) | (with_reducible refine Below.alloc ?_ ?_ _) | (with_reducible refine Below.drew ?_) | (with_reducible refine Below.setCell ?_ ?_ _) | (with_reducible refine bl_step ?_ (by assumption)) | go_size)))⟩
          case measure => simp [intOf]
end Go.Proofs.YtjodcaeohkjlnaaDoor
