/-
  PartMake in both programs.
-/
import Derived.Test.YticapinlnlpbpaaDoorVb
import Derived.Test.YticapinlnlpbpaaDoorSp8
import Derived.Deep.AppendLies
import Derived.Deep.RegionHeld3
namespace Go.Proofs.YticapinlnlpbpaaDoor
open Go.RowKit
set_option maxRecDepth 100000
set_option linter.unusedVariables false

theorem trow_len8 {w : World} {lo hi : Nat} {v : Value} {xs : List (Int × Bool)} (h : TRow w lo hi v xs) : ∃ a c, v = .slice a xs.length c := by
  rcases h.form with ⟨rfl, rfl⟩ | ⟨g, cap, rfl, _⟩
  · exact ⟨none, 0, rfl⟩
  · exact ⟨_, cap, rfl⟩
theorem mv_len8 {xs : List (Int × Bool)} (h : mv xs = true) : xs.length ≤ 24 := by
  simp [mv] at h
  omega

set_option maxHeartbeats 8000000 in
theorem sPartMake_any (lo hi : Nat) (v u : Value) (ts : List (Int × Bool)) (zs : List Int) (w : World) (h : TRow w lo hi v ts) (k : IV w u zs) :
    Calls Tryd.prog 59 #[v, u] w (VBuilt2 w (pmL ts zs) (pmOk ts zs)) := by
  obtain ⟨i0, hi0, hq0, hq1, hq2⟩ := info_parts infoVb
  have HM := Lib.hid (fun w' (hb : Below w.heap.size w w') => sMelodyValid_any lo hi v ts w' (h.below (w' := w') hb (.inr (Nat.le_refl _))))
  have HT := Lib.hid h.form
  obtain ⟨a, c, rfl, ha, hc1, hc2⟩ := k
  unfold maxLen at hc2
  have HA := Lib.hid ha
  obtain ⟨av, cv, rfl⟩ := trow_len8 h
  clear ha
  cases hm : mv ts with
  | false =>
    have hok : pmOk ts zs = false := by simp [pmOk, hm]
    rw [pm_no hok, hok]
    rw [hm] at HM
    clear h hm hok
    go_enter Tryd.func59, Tryd.ntmps59
    go_wp2_with (fail)
    (go_at_call 86; refine (HM.out _ ((Below.refl _ _).alloc (Nat.le_refl _) _)).mono ?_; rintro e w1 ⟨rfl, hb1⟩)
    have HE := Lib.hid ((((VbInv.start w).below hb1).built2 false))
    clear hb1
    go_wp2
    go_ret2
    exact HE.out
  | true =>
    rw [hm] at HM
    by_cases hl : ts.length = zs.length
    case neg =>
      have hok : pmOk ts zs = false := by simp [pmOk, hl]
      rw [pm_no hok, hok]
      have g1 : ((ts.length : Int) != (zs.length : Int)) = true := by simp; omega
      have g2 : ((zs.length : Int) != (ts.length : Int)) = true := by simp; omega
      have g3 : ((ts.length : Int) == (zs.length : Int)) = false := by rw [beq_eq_false_iff_ne]; omega
      clear h hm hok
      go_enter Tryd.func59, Tryd.ntmps59
      go_wp2_with (fail)
      (go_at_call 86; refine (HM.out _ ((Below.refl _ _).alloc (Nat.le_refl _) _)).mono ?_; rintro e w1 ⟨rfl, hb1⟩)
      have HE := Lib.hid ((((VbInv.start w).below hb1).built2 false))
      clear hb1
      go_wp2
      go_ret2
      exact HE.out
    case pos =>
      have h24 : ts.length ≤ 24 := mv_len8 hm
      have HZ : Hid (pval (ts.zip zs) = pmOk ts zs) := by show _ = _; simp [pmOk, hm, hl]
      have hzl : (ts.zip zs).length = ts.length := by rw [List.length_zip]; omega
      have HPN := Lib.hid (fun (e : pmOk ts zs = false) => pm_no e)
      have HPY := Lib.hid (fun (e : pmOk ts zs = true) => pm_yes e)
      have g1 : ((ts.length : Int) != (zs.length : Int)) = false := by simp; omega
      have g2 : ((zs.length : Int) != (ts.length : Int)) = false := by simp; omega
      have HLE := Lib.hid hl
      have HZL := Lib.hid hzl
      clear hl hzl
      generalize pmL ts zs = pl at HPN HPY ⊢
      generalize pmOk ts zs = ok at HZ HPN HPY ⊢
      clear h hm
      go_enter Tryd.func59, Tryd.ntmps59
      go_wp2_with (fail)
      (go_at_call 86; refine (HM.out _ ((Below.refl _ _).alloc (Nat.le_refl _) _)).mono ?_; rintro e w1 ⟨rfl, hb1⟩)
      have HB1 := Lib.hid (Below.refl w.heap.size w)
      have HS := Lib.hid ((VbInv.start w).below hb1)
      clear hb1
      go_wp2
      go_loopw [6, 7] (fun q i wr => ∃ n : Nat, n ≤ ts.length ∧ i = .int .i64 (n : Int) ∧ VbInv w wr q ((ts.zip zs).take n)) (fun _ i _ => ts.length - (intOf i).toNat)
      case atStart => exact ⟨0, by omega, rfl, HS.out⟩
      case round =>
        obtain ⟨n, hn, rfl, hinv⟩ := hrel
        by_cases hlt : n < ts.length
        · obtain ⟨⟨s, b⟩, ht⟩ : ∃ t, ts[n]? = some t := ⟨ts[n], List.getElem?_eq_getElem hlt⟩
          have hnz : n < zs.length := by have := HLE.out; omega
          have hz : zs[n]? = some (zs.getD n 0) := by rw [List.getD_eq_getElem?_getD, List.getElem?_eq_getElem hnz]; rfl
          have hbw := bl_step HB1.out hinv.bl
          have HX := Lib.hid (zip_take ht hz)
          rcases HT.out with ⟨hv1, hv2⟩ | ⟨g, cap, hv, hg, hg2, hgs, hcap, hmax, hc⟩
          · subst hv2; simp at hlt
          injection hv with hv1 hv2 hv3
          subst hv1 hv3
          rcases HA.out with h0 | ⟨A, off, rfl, hA, hcz⟩
          · subst h0; simp at hnz
          obtain ⟨e0, e1⟩ := hc n _ ht
          have d0 := (hbw.cell (p := ⟨g, n * 2, none⟩) hgs).trans e0
          have d1 := (hbw.cell (p := ⟨g, n * 2 + 1, none⟩) hgs).trans e1
          have hgr : g < wr.heap.size := Nat.lt_of_lt_of_le hgs hbw.size
          have d2 := (hbw.cell (p := ⟨A, off + n, none⟩) hA).trans (hcz n hnz)
          have hAs : A < wr.heap.size := Nat.lt_of_lt_of_le hA hbw.size
          generalize zs.getD n 0 = m at d2 HX
          have hlen : ((ts.zip zs).take n).length = n := by have := HZL.out; simp only [List.length_take]; omega
          have hown := hinv.own
          rw [hlen] at hown
          have hk0 : (0 : Int) ≤ (n : Int) := by omega
          have hk1 : (n : Int) < (ts.length : Int) := by omega
          have hk2 : (n : Int) < (zs.length : Int) := by omega
          have HN := Lib.hid hinv
          have hws := hinv.bl.size
          have hw1 := HB1.out.size
          have hlo := fun q (e : u6.ownBlock = some q) => own_ltb hown e
          have agA : u6.ownBlock ≠ some A := fun e => by have := (hlo _ e).1; omega
          have agg : u6.ownBlock ≠ some g := fun e => by have := (hlo _ e).1; omega
          have agB : u6.ownBlock ≠ some wr.heap.size := fun e => by have := (hlo _ e).2; omega
          clear ht hz hbw hc hcz hinv hv2 e0 e1 hlo
          go_wp2
          have HIW := HN
          go_region_held3 (fun wx => wx.cell? ⟨g, n * 2, none⟩ = some (.int .i64 s) ∧ wx.cell? ⟨g, n * 2 + 1, none⟩ = some (.bool b) ∧ wx.cell? ⟨A, off + n, none⟩ = some (.int .i64 m))
            (first
              | go_keep
              | (go_split_ands
                 refine ⟨?_, ?_, ?_⟩
                 · (rw [hgrow.cell_far _ (by simp; omega) (Ne.symm agg)]; assumption)
                 · (rw [hgrow.cell_far _ (by simp; omega) (Ne.symm agg)]; assumption)
                 · (rw [hgrow.cell_far _ (by simp; omega) (Ne.symm agA)]; assumption)))
            ((refine step_append_lies _ (by rfl) _ _ _ (by rfl) w.heap.size 49 i0 (.agg #[.int .i64 0, .bool false, .int .i64 0]) 3 24 Tryd.underlying26 hi0 hq0 hq1 hq2 rfl (by omega) u6 n _ (by rfl) ((hown.alloc _).drew) ⟨wr.heap.size, 0, none⟩ 1 1 [.int .i64 s, .bool b, .int .i64 m] (by rfl) (by rfl) (World.news_of_block (cs := #[.int .i64 s, .bool b, .int .i64 m]) (t := 49) (fr := (0, 0)) (heap_alloc_new wr _)) (by simp [Value.oneCell']) (by omega) (by unfold maxLen; omega) (by omega) (by simp; omega) (wr.heap.size + 1) (by simp) ?_; intro gg capg w4 hown' hgrow hat hltg))
          clear d0 d1 d2
          have HI := Lib.hid (VbInv.app (s := s) (b := b) (m := m) (HIW.out.below (Below.refl _ _).drew) (by rw [hlen]; exact hown') hgrow)
          rw [← HX.out] at HI
          clear hown' hgrow hown HN HIW hat hltg
          go_wp2
          go_roundw
          case rel => exact ⟨n + 1, by omega, by go_num, HI.out⟩
          case measure => simp [intOf]; omega
        · have hnn : n = ts.length := by omega
          have hzn : (ts.zip zs).take n = ts.zip zs := List.take_of_length_le (by have := HZL.out; omega)
          rw [hzn] at hinv
          have HV := Lib.hid (sPartValid8_any _ (ts.zip zs) wr hinv.row.view)
          rw [HZ.out] at HV
          obtain ⟨aq, cq, rfl⟩ := hinv.row.sl HZL.out
          have HN := Lib.hid hinv
          clear hinv hzn
          subst hnn
          cases ok with
          | true =>
            go_wp2_with (fail)
            (go_at_call 57; refine (HV.out).mono ?_; rintro e w5 ⟨rfl, hb5⟩)
            have HE := Lib.hid (((HN.out.below hb5).built2 true).from_ HB1.out)
            rw [← HPY.out (by trivial)] at HE
            clear hb5 HN
            go_wp2
            go_ret2
            exact HE.out
          | false =>
            have hbw := bl_step HB1.out HN.out.bl
            have HBW := Lib.hid hbw
            clear hbw
            go_wp2_with (fail)
            (go_at_call 57; refine (HV.out).mono ?_; rintro e w5 ⟨rfl, hb5⟩)
            have HE := Lib.hid (VBuilt2.none_ w w5 (bl_step HBW.out hb5))
            rw [← HPN.out (by trivial)] at HE
            clear hb5 HN
            go_wp2
            go_ret2
            exact HE.out
end Go.Proofs.YticapinlnlpbpaaDoor
