/-
  What a reading builds, in both programs.
-/
import Derived.Test.YtjhigjbfnemdjaaFc
namespace Go.Proofs.Ytjhigjbfnemdjaa
open Go.RowKit
set_option maxRecDepth 100000
set_option linter.unusedVariables false

theorem infoIntB : (Try.prog.info? 3).map (fun i => (i.zero, i.size, i.bytes)) = some (some (.int .i64 0), 1, 8) := by kernel_rfl
theorem fbl_yes {fs : List Fm} {rd : List Int} (h : chok fs rd = true) (h2 : (lns (chs fs rd)).length ≤ 23) : fbOk fs rd = true ∧ fbl fs rd = lns (chs fs rd) := by
  have : fbOk fs rd = true := by unfold fbOk; unfold chok at h; rw [h, decide_eq_true h2]; rfl
  exact ⟨this, by unfold fbl; rw [if_pos this]⟩
theorem fbl_no1 {fs : List Fm} {rd : List Int} (h : chok fs rd = false) : fbOk fs rd = false ∧ fbl fs rd = [] := by
  have : fbOk fs rd = false := by unfold fbOk; unfold chok at h; rw [h]; rfl
  exact ⟨this, by unfold fbl; rw [if_neg (by rw [this]; decide)]⟩
theorem fbl_no2 {fs : List Fm} {rd : List Int} (h2 : 23 < (lns (chs fs rd)).length) : fbOk fs rd = false ∧ fbl fs rd = [] := by
  have : fbOk fs rd = false := by unfold fbOk; rw [decide_eq_false (by omega : ¬ (lns (chs fs rd)).length ≤ 23), Bool.and_false]
  exact ⟨this, by unfold fbl; rw [if_neg (by rw [this]; decide)]⟩
theorem lns_le {fs : List Fm} {rd : List Int} (k : Nat) : (lns (chs fs (rd.take k))).length ≤ (lns (chs fs rd)).length := by
  unfold chs
  rw [List.map_take]
  unfold lns
  conv => rhs; rw [← List.take_append_drop k (rd.map _), List.flatMap_append, List.length_append]
  omega

theorem fbl_len (fs : List Fm) (rd : List Int) : (fbl fs rd).length ≤ 23 := by
  unfold fbl
  split
  · rename_i h
    unfold fbOk at h
    simp only [Bool.and_eq_true, decide_eq_true_eq] at h
    exact h.2
  · simp
/-- a row of integers of a call's own, and whether it may stand -/
def IBuilt2 (w : World) (xs : List Int) (b : Bool) (e : Ending) (w' : World) : Prop :=
  ∃ v, e = .returned (.tuple #[v, .bool b]) ∧ IRow w' w.heap.size w'.heap.size v xs ∧ Below w.heap.size w w'
theorem IBuilt2.none {w w1 : World} (h : Below w.heap.size w w1) : IBuilt2 w [] false (.returned (.tuple #[.slice (some ⟨w1.heap.size, 0, none⟩) 0 0, .bool false])) (w1.alloc (.cells #[] 3)) := by
  refine ⟨_, rfl, ⟨⟨by simp, .inr ⟨w1.heap.size, 0, #[], rfl, h.size, heap_alloc_new w1 _, by simp, by simp [maxLen], by simp, by simp⟩⟩, fun g hg => ?_⟩, h.alloc h.size _⟩
  have : g = w1.heap.size := by simpa [Value.ownBlock] using hg.symm
  simp; omega
/-- the loop's row: from w's border on, over world w1 -/
structure IbInv2 (w wr : World) (v : Value) (xs : List Int) : Prop where
  own : wr.ownsRow w.heap.size 3 1 v xs.length (xs.map (Value.int .i64))
  bl : Below w.heap.size w wr
theorem IbInv2.start {w w1 : World} (h : Below w.heap.size w w1) : IbInv2 w (w1.alloc (.cells #[] 3)) (.slice (some ⟨w1.heap.size, 0, none⟩) 0 0) [] :=
  ⟨⟨by simp, .inr ⟨w1.heap.size, 0, #[], rfl, h.size, heap_alloc_new w1 _, by simp, by simp [maxLen], by simp, by simp⟩⟩, h.alloc h.size _⟩
theorem IbInv2.alloc {w wr : World} {v : Value} {xs : List Int} (h : IbInv2 w wr v xs) (o : Obj) : IbInv2 w (wr.alloc o) v xs := ⟨h.own.alloc o, h.bl.alloc h.bl.size o⟩
theorem IbInv2.below {w wr w1 : World} {v : Value} {xs : List Int} (h : IbInv2 w wr v xs) (hb : Below wr.heap.size wr w1) : IbInv2 w w1 v xs :=
  ⟨(IRow.below (lo := w.heap.size) (hi := wr.heap.size) ⟨h.own, fun g hg => (own_ltb h.own hg).2⟩ hb (.inl (Nat.le_refl _))).1, bl_step h.bl hb⟩
theorem IbInv2.app {w w1 w2 : World} {v v' : Value} {xs ys : List Int} (h : IbInv2 w w1 v xs)
    (hown : w2.ownsRow w.heap.size 3 1 v' (xs.length + ys.length) (xs.map (Value.int .i64) ++ ys.map (Value.int .i64))) (hg : w1.grownBy w2 v.ownBlock) : IbInv2 w w2 v' (xs ++ ys) :=
  ⟨by rw [List.map_append, List.length_append]; exact hown, h.bl.grown hg (by have := h.bl.size; omega) (fun k hk => (own_ltb h.own hk).1)⟩
theorem IbInv2.built {w wr : World} {v : Value} {xs : List Int} (h : IbInv2 w wr v xs) : IBuilt2 w xs true (.returned (.tuple #[v, .bool true])) wr :=
  ⟨v, rfl, ⟨h.own, fun g hg => (own_ltb h.own hg).2⟩, h.bl⟩
theorem IbInv2.sl {w wr : World} {v : Value} {xs : List Int} (h : IbInv2 w wr v xs) : ∃ a c, v = .slice a xs.length c := by
  obtain ⟨⟨_, h0 | ⟨g, cap, cur, rfl, _⟩⟩, _⟩ := h
  · obtain ⟨rfl, h1⟩ := h0; exact ⟨none, 0, by rw [h1]⟩
  · exact ⟨_, cap, rfl⟩
theorem IBuilt2.from_ {w w1 w2 : World} {xs : List Int} {b : Bool} {e : Ending} (h : IBuilt2 w1 xs b e w2) (hb : Below w.heap.size w w1) : IBuilt2 w xs b e w2 := by
  obtain ⟨v, he, hr, hb2⟩ := h
  exact ⟨v, he, hr.lohi hb.size (Nat.le_refl _), bl_step hb hb2⟩
theorem ints_news {w : World} {A off : Nat} {xs : List Int} (hc : ∀ i, i < xs.length → w.cell? ⟨A, off + i, none⟩ = some (.int .i64 (xs.getD i 0))) : ∀ j u, (xs.map (Value.int .i64))[j]? = some u → w.cell? ((⟨A, off, none⟩ : Addr).add j) = some u := by
  intro j u hj
  rw [List.getElem?_map] at hj
  obtain ⟨z, hz, rfl⟩ := Option.map_eq_some_iff.1 hj
  obtain ⟨hl, hz⟩ := List.getElem?_eq_some_iff.1 hz
  rw [Go.WideShapes.add_plain, hc j hl]
  simp [List.getD_eq_getElem?_getD, List.getElem?_eq_getElem hl, hz]
theorem ints_one (xs : List Int) : ∀ u ∈ xs.map (Value.int .i64), u.oneCell' = true := by
  intro u hu
  rw [List.mem_map] at hu
  obtain ⟨z, _, rfl⟩ := hu
  rfl

set_option maxHeartbeats 4000000 in
theorem formulasBuild_any (v u : Value) (fs : List Fm) (rd : List Int) (hrd : rd.length ≤ 1048576) (w : World) (h : FV w v fs) (k : IV w u rd) :
    Calls Try.prog 55 #[v, u] w (IBuilt2 w (fbl fs rd) (fbOk fs rd)) := by
  obtain ⟨i0, hi, hq0, hq1, hq2⟩ := info_parts infoIntB
  by_cases hk : chok fs rd = true
  case neg =>
    rw [Bool.not_eq_true] at hk
    have HC := Lib.hid (chosen_no v u fs rd hrd hk w h k)
    have HE := Lib.hid (fbl_no1 hk)
    rw [HE.out.1, HE.out.2]
    clear hk h k HE
    go_enter Try.func55, Try.ntmps55
    go_wp2_with (fail)
    (go_at_call 77; refine HC.out.mono ?_; rintro e w1 ⟨rfl, hb1⟩)
    have hn0 := IBuilt2.none (hb1.alloc hb1.size (.cells #[] 3))
    rw [World.size_alloc] at hn0
    have HN := Lib.hid hn0
    clear hn0
    go_wp2
    go_rounds 1
    go_ret2
    exact HN.out
  have HC := Lib.hid (chosen_yes v u fs rd hrd hk w h k)
  have HF := Lib.hid (chok_fo hk)
  have hgl : (chs fs rd).length ≤ 1048576 := by rw [chs_len]; exact hrd
  have HY : Hid ((lns (chs fs rd)).length ≤ 23 → fbOk fs rd = true ∧ fbl fs rd = lns (chs fs rd)) := fun h2 => fbl_yes hk h2
  have HNO : Hid (23 < (lns (chs fs rd)).length → fbOk fs rd = false ∧ fbl fs rd = []) := fun h2 => fbl_no2 h2
  clear hk h k
  generalize chs fs rd = gs at *
  generalize fbOk fs rd = ok at *
  generalize fbl fs rd = ys at *
  go_enter Try.func55, Try.ntmps55
  go_wp2_with (fail)
  (go_at_call 77; refine HC.out.mono ?_; rintro e w1 ⟨x, rfl, hx, hb1⟩)
  obtain ⟨a, c, rfl, ha, hc1, hc2⟩ := hx
  unfold maxLen at hc2
  have HA := Lib.hid ha
  have H0 := Lib.hid (IbInv2.start (Below.refl w1.heap.size w1))
  clear ha
  go_wp2
  go_loopw [8, 20] (fun s i wr => ∃ k : Nat, k ≤ gs.length ∧ i = .int .i64 k ∧ IbInv2 w1 wr s (lns (gs.take k))) (fun _ i _ => gs.length - (intOf i).toNat)
  case atStart => exact ⟨0, Nat.zero_le _, rfl, by simpa [lns] using H0.out⟩
  case round =>
    obtain ⟨k, hk, rfl, hinv⟩ := hrel
    have HI := Lib.hid hinv
    have hb := hinv.bl
    clear hinv
    by_cases hlt : k < gs.length
    · obtain ⟨xs, wt, hx⟩ := fs_get hlt
      rcases HA.out with h | ⟨A, off, rfl, hA, hc⟩
      · subst h; simp at hlt
      obtain ⟨p, e1, hu, e2⟩ := hc k _ hx
      have hwl := fo_len (HF.out _ (List.mem_of_getElem? hx))
      have hw2 := lns_bounds (gs := gs.take k) (fun f hf => HF.out f (List.mem_of_mem_take hf))
      have hw3 : (gs.take k).length ≤ 1048576 := by simp; omega
      have HS := Lib.hid (lns_take hx)
      simp only at hwl hu
      obtain ⟨pa, pc, rfl, hpa, hpc1, hpc2⟩ := hu
      rcases hpa with h | ⟨B, o2, rfl, hB, hcB⟩
      · rw [h] at hwl; simp at hwl
      have e1 := (hb.cell (p := ⟨A, off + k * 2, none⟩) hA).trans e1
      have e2 := (hb.cell (p := ⟨A, off + k * 2 + 1, none⟩) hA).trans e2
      have hbs := hb.size
      have hb0 := hb1.size
      have hn : ∀ i, i < xs.length → (wr.alloc (.cells #[.slice (some ⟨B, o2, none⟩) xs.length pc, .int .i64 wt] 59)).cell? ⟨B, o2 + i, none⟩ = some (.int .i64 (xs.getD i 0)) := fun i hi => by
        rw [← hcB i hi]
        exact (hb.alloc hbs _).cell (p := ⟨B, o2 + i, none⟩) hB
      have HNW := Lib.hid (ints_news hn)
      have HI2 := Lib.hid (HI.out.alloc (.cells #[.slice (some ⟨B, o2, none⟩) xs.length pc, .int .i64 wt] 59))
      have hk0 : (0 : Int) ≤ (k : Int) := by omega
      have hk1 : (k : Int) < (gs.length : Int) := by omega
      clear hc hx hcB hn
      generalize lns (gs.take k) = zs at *
      go_wp2_with (at_builtin; refine wpList_append_own _ rfl _ _ 23 rfl w1.heap.size 3 i0 (.int .i64 0) 1 8 Try.underlying23 hi hq0 hq1 hq2 rfl (by decide) _ _ _ rfl HI2.out.own ⟨B, o2, none⟩ xs.length pc (xs.map (Value.int .i64)) rfl (by simp) HNW.out (ints_one xs) (by unfold maxLen; omega) (by omega) (by simp; omega) ?_)
      intro v' w4 hown' hgrow _
      have HX := Lib.hid (HI2.out.app hown' hgrow)
      clear hown' hgrow
      go_wp2
      go_roundw
      case rel => exact ⟨k + 1, by omega, by go_num, by rw [HS.out]; exact HX.out⟩
      case measure => simp [intOf]; omega
    · have hkn : k = gs.length := by omega
      subst hkn
      have e : gs.take gs.length = gs := List.take_length
      rw [e] at HI
      obtain ⟨sa, sc, hsv⟩ := IbInv2.sl HI.out
      subst hsv
      by_cases h23 : (lns gs).length ≤ 23
      · have hy := HY.out h23
        have HB : Hid (IBuilt2 w ys ok (.returned (.tuple #[.slice sa (lns gs).length sc, .bool true])) wr) := by rw [hy.1, hy.2]; exact HI.out.built.from_ hb1
        have t1 : decide (23 < (lns gs).length) = false := decide_eq_false (by omega)
        have t2 : decide (23 < ((lns gs).length : Int)) = false := decide_eq_false (by omega)
        clear hy
        go_wp2
        go_ret2
        exact HB.out
      · have hy := HNO.out (by omega)
        have HB : Hid (IBuilt2 w ys ok (.returned (.tuple #[.slice (some ⟨wr.heap.size, 0, none⟩) 0 0, .bool false])) (wr.alloc (.cells #[] 3))) := by rw [hy.1, hy.2]; exact IBuilt2.none (bl_step hb1 hb)
        have t1 : decide (23 < (lns gs).length) = true := decide_eq_true (by omega)
        have t2 : decide (23 < ((lns gs).length : Int)) = true := decide_eq_true (by omega)
        clear hy
        go_wp2
        go_ret2
        exact HB.out

theorem lns_step {fs : List Fm} {rd : List Int} {k : Nat} {f : Fm} (h : chs fs (rd.take (k + 1)) = chs fs (rd.take k) ++ [f]) : lns (chs fs (rd.take (k + 1))) = lns (chs fs (rd.take k)) ++ f.1 := by rw [h]; exact lns_snoc _ _

set_option maxHeartbeats 4000000 in
theorem sFormulasBuild_any (v u : Value) (fs : List Fm) (rd : List Int) (hrd : rd.length ≤ 1048576) (w : World) (h : FV w v fs) (k : IV w u rd) :
    Calls Try.prog 53 #[v, u] w (IBuilt2 w (fbl fs rd) (fbOk fs rd)) := by
  obtain ⟨i0, hi, hq0, hq1, hq2⟩ := info_parts infoIntB
  have HV := Lib.hid (fun w' (hb : Below w.heap.size w w') => sFormulasValid_any v fs w' (h.below hb))
  obtain ⟨a, c, rfl, ha, hc1, hc2⟩ := h
  obtain ⟨a', c', rfl, ha', hc1', hc2'⟩ := k
  unfold maxLen at hc2 hc2'
  have HA := Lib.hid ha
  have HA' := Lib.hid ha'
  clear ha ha'
  by_cases hv : fv fs = true
  case neg =>
    rw [Bool.not_eq_true] at hv
    rw [hv] at HV
    have hE := fbl_no1 (chok_1 (rd := rd) hv)
    have HE : Hid (∀ w1, Below (w.alloc (.cells #[] 3)).heap.size (w.alloc (.cells #[] 3)) w1 → IBuilt2 w (fbl fs rd) (fbOk fs rd) (.returned (.tuple #[.slice (some ⟨w.heap.size, 0, none⟩) 0 0, .bool false])) w1) := fun w1 hb => by
      rw [hE.1, hE.2]
      obtain ⟨x, e, hr, hb2⟩ := IBuilt2.none (Below.refl w.heap.size w)
      have e2 : Value.slice (some ⟨w.heap.size, 0, none⟩) 0 0 = x := by simpa using e
      subst e2
      exact ⟨_, rfl, (hr.below hb (.inl (Nat.le_refl _))).lohi (Nat.le_refl _) hb.size, bl_step hb2 hb⟩
    clear hv hE
    go_enter Try.func53, Try.ntmps53
    go_wp2_with (fail)
    (go_at_call 47; refine (HV.out _ (by (repeat' (first | (with_reducible exact Below.refl _ _) | (with_reducible refine Below.alloc ?_ ?_ _) | (with_reducible refine Below.drew ?_) | (with_reducible refine Below.setCell ?_ ?_ _) | (with_reducible refine bl_step ?_ (by assumption)) | go_size)))).mono ?_; rintro e w1 ⟨rfl, hb1⟩)
    have HX := Lib.hid (HE.out _ hb1)
    go_wp2
    go_ret2
    exact HX.out
  rw [hv] at HV
  have HVV := Lib.hid hv
  clear hv
  go_enter Try.func53, Try.ntmps53
  have hs0 := IbInv2.start (Below.refl w.heap.size w)
  have HS0 := Lib.hid hs0
  clear hs0
  go_wp2_with (fail)
  (go_at_call 47; refine (HV.out _ (by (repeat' (first | (with_reducible exact Below.refl _ _) | (with_reducible refine Below.alloc ?_ ?_ _) | (with_reducible refine Below.drew ?_) | (with_reducible refine Below.setCell ?_ ?_ _) | (with_reducible refine bl_step ?_ (by assumption)) | go_size)))).mono ?_; rintro e w1 ⟨rfl, hb1⟩)
  have H0 := Lib.hid (HS0.out.below hb1)
  go_wp2
  go_loopw [6, 7] (fun s i wr => ∃ k : Nat, k ≤ rd.length ∧ i = .int .i64 k ∧ rok fs.length (rd.take k) = true ∧ (lns (chs fs (rd.take k))).length ≤ 23 ∧ IbInv2 w wr s (lns (chs fs (rd.take k)))) (fun _ i _ => rd.length - (intOf i).toNat)
  case atStart => exact ⟨0, Nat.zero_le _, rfl, rfl, by simp [chs, lns], by simpa [chs, lns] using H0.out⟩
  case round =>
    obtain ⟨k, hk, rfl, hq, h23, hinv⟩ := hrel
    have HQ := Lib.hid hq
    have HI := Lib.hid hinv
    have hb := hinv.bl
    clear hq hinv
    by_cases hlt : k < rd.length
    · rcases HA'.out with h | ⟨A', off', rfl, hA', hc'⟩
      · subst h; simp at hlt
      have e0 := (hb.cell (p := ⟨A', off' + k, none⟩) hA').trans (hc' k hlt)
      have hk0 : (0 : Int) ≤ (k : Int) := by omega
      have hk1 : (k : Int) < (rd.length : Int) := by omega
      clear hc'
      by_cases hix : idx fs.length (rd.getD k 0) = true
      · obtain ⟨j, hj, hjn⟩ := idx_yes hix
        have hR := rok_take hlt HQ.out hix
        obtain ⟨xs, wt, hx⟩ := fs_get hjn
        have hC := chs_take (fs := fs) hlt hj hx
        rcases HA.out with h | ⟨A, off, rfl, hA, hc⟩
        · subst h; simp at hjn
        obtain ⟨p, e1, hu, e2⟩ := hc j _ hx
        have hwl := fo_len (fv_fo HVV.out hx)
        simp only at hwl hu
        obtain ⟨pa, pc, rfl, hpa, hpc1, hpc2⟩ := hu
        rcases hpa with h | ⟨B, o2, rfl, hB, hcB⟩
        · rw [h] at hwl; simp at hwl
        have e1 := (hb.cell (p := ⟨A, off + j * 2, none⟩) hA).trans e1
        have hL : (decide (0 ≤ rd.getD k 0) && decide (rd.getD k 0 ≤ (fs.length : Int) - 1)) = true := by rw [idx_l6]; exact hix
        rw [hj] at e0 hL
        have HL := Lib.hid (l6In_any (j : Int) 0 ((fs.length : Int) - 1))
        rw [hL] at HL
        have hj0 : (0 : Int) ≤ (j : Int) := by omega
        have hj1 : (j : Int) < (fs.length : Int) := by omega
        have HR := Lib.hid hR
        have hn : ∀ i, i < xs.length → wr.cell? ⟨B, o2 + i, none⟩ = some (.int .i64 (xs.getD i 0)) := fun i hi => by
          rw [← hcB i hi]
          exact hb.cell (p := ⟨B, o2 + i, none⟩) hB
        have HNW := Lib.hid (ints_news hn)
        have hS := lns_step hC
        simp only at hS
        have HS := Lib.hid hS
        have hle := lns_le (fs := fs) (rd := rd) (k + 1)
        rw [hS, List.length_append] at hle
        have hle2 : (lns (chs fs (rd.take (k + 1)))).length = (lns (chs fs (rd.take k))).length + xs.length := by rw [hS, List.length_append]
        have hbs := hb.size
        have HE : Hid (23 < (lns (chs fs (rd.take k))).length + xs.length → fbOk fs rd = false ∧ fbl fs rd = []) := fun h => fbl_no2 (by omega)
        clear hc hix hj hC hR hx hL hcB hn e2 hS hle
        generalize lns (chs fs (rd.take k)) = zs at *
        go_wp2_with (fail)
        (go_at_call 48; refine (HL.out _).mono ?_; rintro e wx ⟨rfl, rfl⟩)
        go_wp2_with (at_builtin; refine wpList_append_own _ rfl _ _ 23 rfl w.heap.size 3 i0 (.int .i64 0) 1 8 Try.underlying23 hi hq0 hq1 hq2 rfl (by decide) _ _ _ rfl HI.out.own ⟨B, o2, none⟩ xs.length pc (xs.map (Value.int .i64)) rfl (by simp) HNW.out (ints_one xs) (by unfold maxLen; omega) (by omega) (by omega) ?_)
        intro v' w4 hown' hgrow _
        have hX := HI.out.app hown' hgrow
        obtain ⟨sa, sc, hsv⟩ := hX.sl
        subst hsv
        have HX := Lib.hid hX
        clear hown' hgrow hX
        have el : (zs ++ xs).length = zs.length + xs.length := List.length_append
        rw [el] at HX ⊢
        by_cases hg : zs.length + xs.length ≤ 23
        · have t1 : decide (24 ≤ ((zs.length + xs.length : Nat) : Int)) = false := decide_eq_false (by omega)
          have t2 : decide (24 ≤ zs.length + xs.length) = false := decide_eq_false (by omega)
          have t3 : decide (24 ≤ (zs.length : Int) + (xs.length : Int)) = false := decide_eq_false (by omega)
          go_wp2
          go_roundw
          case rel => exact ⟨k + 1, by omega, by go_num, HR.out, by rw [hle2]; omega, by rw [HS.out]; exact HX.out⟩
          case measure => simp [intOf]; omega
        · have t1 : decide (24 ≤ ((zs.length + xs.length : Nat) : Int)) = true := decide_eq_true (by omega)
          have t2 : decide (24 ≤ zs.length + xs.length) = true := decide_eq_true (by omega)
          have t3 : decide (24 ≤ (zs.length : Int) + (xs.length : Int)) = true := decide_eq_true (by omega)
          have hy := HE.out (by omega)
          have HB : Hid (IBuilt2 w (fbl fs rd) (fbOk fs rd) (.returned (.tuple #[.slice (some ⟨w4.heap.size, 0, none⟩) 0 0, .bool false])) (w4.alloc (.cells #[] 3))) := by rw [hy.1, hy.2]; exact IBuilt2.none HX.out.bl
          clear hy
          go_wp2
          go_ret2
          exact HB.out
      · rw [Bool.not_eq_true] at hix
        have hE := fbl_no1 (chok_2 (fs := fs) (rok_bad hlt hix))
        have hL : (decide (0 ≤ rd.getD k 0) && decide (rd.getD k 0 ≤ (fs.length : Int) - 1)) = false := by rw [idx_l6]; exact hix
        have HB : Hid (IBuilt2 w (fbl fs rd) (fbOk fs rd) (.returned (.tuple #[.slice (some ⟨wr.heap.size, 0, none⟩) 0 0, .bool false])) (wr.alloc (.cells #[] 3))) := by rw [hE.1, hE.2]; exact IBuilt2.none hb
        clear hix hE
        generalize rd.getD k 0 = d at e0 hL
        have HL := Lib.hid (l6In_any d 0 ((fs.length : Int) - 1))
        rw [hL] at HL
        clear hL
        go_wp2_with (fail)
        (go_at_call 48; refine (HL.out _).mono ?_; rintro e wx ⟨rfl, rfl⟩)
        go_wp2
        go_ret2
        exact HB.out
    · have hkn : k = rd.length := by omega
      subst hkn
      have e : rd.take rd.length = rd := List.take_length
      rw [e] at h23
      have hE := fbl_yes (chok_3 HVV.out HQ.out) h23
      have HB : Hid (∀ s, IbInv2 w wr s (lns (chs fs rd)) → IBuilt2 w (fbl fs rd) (fbOk fs rd) (.returned (.tuple #[s, .bool true])) wr) := fun s hs => by rw [hE.1, hE.2]; exact hs.built
      rw [e] at HI
      have HZ := Lib.hid (HB.out _ HI.out)
      clear hE
      go_wp2
      go_ret2
      exact HZ.out
end Go.Proofs.Ytjhigjbfnemdjaa
