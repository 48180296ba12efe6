/-
  DiscantMove in the program.
-/
import Derived.Test.YticapinlnlpbpaaDoorDm8
import Derived.Test.YticapinlnlpbpaaDoorPm
namespace Go.Proofs.YticapinlnlpbpaaDoor
open Go.RowKit
set_option maxRecDepth 100000
set_option linter.unusedVariables false

theorem bts_get8 {xs : List Vc} {n : Nat} {x : Vc} (h : xs[n]? = some x) : (bts8 xs)[n]? = some x.2 := by simp [bts8, h]

set_option maxHeartbeats 8000000 in
theorem discantMove_any (v : Value) (k : Int) (xs : List Vc) (w : World) (h : VV w v xs) (ht : StepTab w) :
    Calls Tryd.prog 26 #[v, .int .i64 k] w (VBuilt2 w (dmL k xs) (dmOk k xs)) := by
  obtain ⟨i0, hi0, hq0, hq1, hq2⟩ := info_parts infoTone
  obtain ⟨j0, hj0, hr0, hr1, hr2⟩ := info_parts infoVb
  have HV := Lib.hid (partValid8_any v xs w h)
  have HT := Lib.hid ht
  obtain ⟨a, c, rfl, ha, hc1, hc2⟩ := h
  have HA := Lib.hid ha
  clear ht ha
  cases hp : pval xs with
  | false =>
    have hok := dm_no1 (k := k) hp
    rw [dmL_no hok, hok]
    rw [hp] at HV
    clear hok hp
    go_enter Tryd.func26, Tryd.ntmps26
    go_wp2_with (fail)
    (go_at_call 60; refine (HV.out).mono ?_; rintro e w1 ⟨rfl, hb1⟩)
    have HE := Lib.hid (VBuilt2.none_ w w1 hb1)
    clear hb1
    go_wp2
    go_ret2
    exact HE.out
  | true =>
    rw [hp] at HV
    obtain ⟨_, l12, _⟩ := pval_in hp
    have HP := Lib.hid hp
    clear hp
    go_enter Tryd.func26, Tryd.ntmps26
    go_wp2_with (fail)
    (go_at_call 60; refine (HV.out).mono ?_; rintro e w1 ⟨rfl, hb1⟩)
    have HB1 := Lib.hid hb1
    have HS := Lib.hid (TbInv.start w1)
    clear hb1 HV
    go_wp2
    go_loopw [6, 21] (fun q i wr => ∃ n : Nat, n ≤ xs.length ∧ i = .int .i64 (n : Int) ∧ TbInv w1 wr q (tns (xs.take n))) (fun _ i _ => xs.length - (intOf i).toNat)
    case atStart => exact ⟨0, by omega, rfl, HS.out⟩
    case round =>
      obtain ⟨n, hn, rfl, hinv⟩ := hrel
      clear HS
      by_cases hlt : n < xs.length
      · obtain ⟨⟨⟨s, b⟩, m⟩, hx⟩ : ∃ x, xs[n]? = some x := ⟨xs[n], List.getElem?_eq_getElem hlt⟩
        rcases HA.out with h0 | ⟨A, off, rfl, hA, hcz⟩
        · subst h0; simp at hlt
        have hbw := bl_step HB1.out hinv.bl
        have HX := Lib.hid (tns_take hx)
        obtain ⟨e0, e1, e2⟩ := hcz n _ hx
        have d0 := (hbw.cell (p := ⟨A, off + n * 3, none⟩) hA).trans e0
        have d1 := (hbw.cell (p := ⟨A, off + n * 3 + 1, none⟩) hA).trans e1
        have d2 := (hbw.cell (p := ⟨A, off + n * 3 + 2, none⟩) hA).trans e2
        have hlen : (tns (xs.take n)).length = n := by rw [tns_len, List.length_take]; omega
        have hown := hinv.own
        rw [hlen] at hown
        have hk0 : (0 : Int) ≤ (n : Int) := by omega
        have hk1 : (n : Int) < (xs.length : Int) := by omega
        have HN := Lib.hid hinv
        have hws := hinv.bl.size
        have HNB : Hid (((wr.alloc (.cells #[.int .i64 s, .bool b, .int .i64 m] 49)).alloc (.cells #[.int .i64 s, .bool b] 41)).heap[wr.heap.size + 1]? = some (.cells #[.int .i64 s, .bool b] 41 (0, 0))) := by
          have := heap_alloc_new (wr.alloc (.cells #[.int .i64 s, .bool b, .int .i64 m] 49)) (.cells #[.int .i64 s, .bool b] 41)
          show _ = _
          simpa using this
        clear hx hbw hcz hinv e0 e1 e2
        go_wp2_with (at_builtin; refine wpList_append_own _ rfl _ _ 52 rfl w1.heap.size 41 i0 (.agg #[.int .i64 0, .bool false]) 2 16 Tryd.underlying52 hi0 hq0 hq1 hq2 rfl (by decide) _ _ _ rfl ((hown.alloc _).alloc _) ⟨wr.heap.size + 1, 0, none⟩ 1 1 [.int .i64 s, .bool b] rfl rfl (World.news_of_block HNB.out) (by simp [Value.oneCell']) (by unfold maxLen; omega) (by omega) (by simp; omega) ?_)
        intro v' w4 hown' hgrow _
        have HI := Lib.hid (TbInv.app (s := s) (b := b) (HN.out.below ((Below.refl _ _).alloc (Nat.le_refl _) _)) (by rw [hlen]; exact hown') hgrow)
        rw [← HX.out] at HI
        clear hown' hgrow hown HN
        go_wp2
        go_roundw
        case rel => exact ⟨n + 1, by omega, by go_num, HI.out⟩
        case measure => simp [intOf]; omega
      · have hnn : n = xs.length := by omega
        subst hnn
        rw [List.take_length] at hinv
        have hbw := bl_step HB1.out hinv.bl
        have HM := Lib.hid (melodyMove_any w1.heap.size wr.heap.size _ (tns xs) k wr hinv.row (HT.out.below hbw))
        have HBW := Lib.hid hbw
        clear hinv hbw HT HB1
        cases hm : mmB k (tns xs) with
        | false =>
          have hok := dm_no2 (xs := xs) hm
          rw [hm] at HM
          have HE : Hid (∀ w2, Below w.heap.size w w2 → VBuilt2 w (dmL k xs) (dmOk k xs) (.returned (.tuple #[.slice (some ⟨w2.heap.size, 0, none⟩) 0 0, .bool false])) (w2.alloc (.cells #[] 49))) := fun w2 hb => by
            rw [dmL_no hok, hok]; exact VBuilt2.none_ w w2 hb
          clear hok hm
          go_wp2_with (fail)
          (go_at_call 42; refine (HM.out).mono ?_; rintro e w2 ⟨u, rfl, hu, hb2⟩)
          have HF := Lib.hid (HE.out w2 (bl_step HBW.out hb2))
          clear hu hb2 HE
          go_wp2
          go_ret2
          exact HF.out
        | true =>
          have hok := dm_ok HP.out hm
          have HOK := Lib.hid (dmL_yes hok)
          have HO := Lib.hid hok
          rw [hm] at HM
          have hyl : (mmL k (tns xs)).length = xs.length := by rw [mm_len hm, tns_len]
          clear hok hm
          generalize mmL k (tns xs) = ys at HM HOK hyl
          have HYL := Lib.hid hyl
          clear hyl
          go_wp2_with (fail)
          (go_at_call 42; refine (HM.out).mono ?_; rintro e w2 ⟨u, rfl, hu, hb2⟩)
          have HU := Lib.hid hu
          have HB2 := Lib.hid (bl_step HBW.out hb2)
          have HS2 := Lib.hid (VbInv.start w2)
          obtain ⟨ua, uc, rfl⟩ := trow_len8 hu
          rw [HYL.out]
          clear hu hb2 HBW HM
          go_wp2
          go_loopw [11, 43] (fun q i wr => ∃ n : Nat, n ≤ xs.length ∧ i = .int .i64 (n : Int) ∧ VbInv w2 wr q ((ys.zip (bts8 xs)).take n)) (fun _ i _ => xs.length - (intOf i).toNat)
          case atStart => exact ⟨0, by omega, rfl, HS2.out⟩
          case round =>
            obtain ⟨n, hn, rfl, hinv⟩ := hrel
            clear HS2
            by_cases hlt : n < xs.length
            · obtain ⟨⟨⟨s0, b0⟩, m⟩, hx⟩ : ∃ x, xs[n]? = some x := ⟨xs[n], List.getElem?_eq_getElem hlt⟩
              have hy1 : n < ys.length := by have := HYL.out; omega
              obtain ⟨⟨s, b⟩, ht⟩ : ∃ t, ys[n]? = some t := ⟨ys[n], List.getElem?_eq_getElem hy1⟩
              have HX := Lib.hid (zip_take ht (bts_get8 hx))
              rcases HA.out with h0 | ⟨A, off, rfl, hA, hcz⟩
              · subst h0; simp at hlt
              rcases HU.out.form with ⟨hv1, hv2⟩ | ⟨g, cap, hv, hg, hg2, hgs, hcap, hmax, hc⟩
              · subst hv2; simp at hy1
              injection hv with hv1 hv2 hv3
              subst hv1 hv3
              obtain ⟨e0, e1⟩ := hc n _ ht
              obtain ⟨_, _, e2⟩ := hcz n _ hx
              have d0 := (hinv.bl.cell (p := ⟨g, n * 2, none⟩) hgs).trans e0
              have d1 := (hinv.bl.cell (p := ⟨g, n * 2 + 1, none⟩) hgs).trans e1
              have hbw := bl_step HB2.out hinv.bl
              have d2 := (hbw.cell (p := ⟨A, off + n * 3 + 2, none⟩) hA).trans e2
              have hAs : A < wr.heap.size := Nat.lt_of_lt_of_le hA hbw.size
              have hlen : ((ys.zip (bts8 xs)).take n).length = n := by have := HYL.out; rw [List.length_take, List.length_zip, bts_len8]; omega
              have hown := hinv.own
              rw [hlen] at hown
              have hk0 : (0 : Int) ≤ (n : Int) := by omega
              have hk1 : (n : Int) < (xs.length : Int) := by omega
              have HN := Lib.hid hinv
              have hws := hinv.bl.size
              have hA2 : A < w2.heap.size := Nat.lt_of_lt_of_le hA HB2.out.size
              have hlo := fun q (e : u11.ownBlock = some q) => own_ltb hown e
              have agA : u11.ownBlock ≠ some A := fun e => by have := (hlo _ e).1; omega
              have agB : u11.ownBlock ≠ some wr.heap.size := fun e => by have := (hlo _ e).2; omega
              clear ht hx hbw hc hcz hinv hv2 e0 e1 e2 hlo hy1
              go_wp2
              obtain ⟨W, hW⟩ : ∃ W, W = wr.alloc (.cells #[.int .i64 s, .bool b] 41) := ⟨_, rfl⟩
              have f0 : W.cell? ⟨wr.heap.size, 0, none⟩ = some (.int .i64 s) := by rw [hW]; go_simp
              have f1 : W.cell? ⟨wr.heap.size, 1, none⟩ = some (.bool b) := by rw [hW]; go_simp
              have f2 : W.cell? ⟨A, off + n * 3 + 2, none⟩ = some (.int .i64 m) := by rw [hW, World.cell?_alloc_lt _ _ _ hAs]; exact d2
              have hownW : W.ownsRow w2.heap.size 49 3 u11 n (vcs ((ys.zip (bts8 xs)).take n)) := by rw [hW]; exact hown.alloc _
              have fz : wr.heap.size < W.heap.size := by rw [hW]; simp
              have fws : w2.heap.size ≤ W.heap.size := by omega
              have fA : A < W.heap.size := by omega
              have HIW : Hid (VbInv w2 W u11 ((ys.zip (bts8 xs)).take n)) := by rw [hW]; exact HN.out.below ((Below.refl _ _).alloc (Nat.le_refl _) _)
              rw [← hW]
              clear hW d0 d1 d2
              go_region_held3 (fun wx => wx.cell? ⟨wr.heap.size, 0, none⟩ = some (.int .i64 s) ∧ wx.cell? ⟨wr.heap.size, 1, none⟩ = some (.bool b) ∧ wx.cell? ⟨A, off + n * 3 + 2, none⟩ = some (.int .i64 m))
                (first
                  | go_keep
                  | (go_split_ands
                     refine ⟨?_, ?_, ?_⟩
                     · (rw [hgrow.cell_far _ (by simp; omega) (Ne.symm agB)]; assumption)
                     · (rw [hgrow.cell_far _ (by simp; omega) (Ne.symm agB)]; assumption)
                     · (rw [hgrow.cell_far _ (by simp; omega) (Ne.symm agA)]; assumption)))
                ((refine step_append_lies _ (by rfl) _ _ _ (by rfl) w2.heap.size 49 j0 (.agg #[.int .i64 0, .bool false, .int .i64 0]) 3 24 Tryd.underlying26 hj0 hr0 hr1 hr2 rfl (by omega) u11 n _ (by rfl) ((hownW.alloc _).drew) ⟨W.heap.size, 0, none⟩ 1 1 [.int .i64 s, .bool b, .int .i64 m] (by rfl) (by rfl) (World.news_of_block (cs := #[.int .i64 s, .bool b, .int .i64 m]) (t := 49) (fr := (0, 0)) (heap_alloc_new W _)) (by simp [Value.oneCell']) (by omega) (by unfold maxLen; omega) (by omega) (by simp; omega) (W.heap.size + 1) (by simp) ?_; intro gg capg w4 hown' hgrow hat hltg))
              clear f0 f1 f2 hownW fz
              have HI := Lib.hid (VbInv.app (s := s) (b := b) (m := m) (HIW.out.below (Below.refl _ _).drew) (by rw [hlen]; exact hown') hgrow)
              rw [← HX.out] at HI
              clear hown' hgrow hown HN HIW hat hltg
              go_wp2
              go_roundw
              case rel => exact ⟨n + 1, by omega, by go_num, HI.out⟩
              case measure => simp [intOf]; omega
            · have hnn : n = xs.length := by omega
              have hzn : (ys.zip (bts8 xs)).take n = ys.zip (bts8 xs) := List.take_of_length_le (by have := HYL.out; rw [List.length_zip, bts_len8]; omega)
              rw [hzn, ← HOK.out] at hinv
              have HE : Hid (VBuilt2 w (dmL k xs) (dmOk k xs) (.returned (.tuple #[u11, .bool true])) wr) := by rw [HO.out]; exact (hinv.built2 true).from_ HB2.out
              clear hinv hzn
              subst hnn
              go_wp2
              go_ret2
              exact HE.out
end Go.Proofs.YticapinlnlpbpaaDoor
