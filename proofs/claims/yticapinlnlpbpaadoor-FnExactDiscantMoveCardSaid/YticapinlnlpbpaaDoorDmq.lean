/-
  DiscantMove in the model.
-/
import Derived.Test.YticapinlnlpbpaaDoorDm8
import Derived.Test.YticapinlnlpbpaaDoorPm
import Derived.Test.YticapinlnlpbpaaDoorMmt
namespace Go.Proofs.YticapinlnlpbpaaDoor
open Go.RowKit
set_option maxRecDepth 100000
set_option linter.unusedVariables false

theorem rows_ne {wr : World} {b b' n n' : Nat} {v u : Value} {xs ys : List Value} (h : wr.ownsRow b 3 1 v n xs) (k : wr.ownsRow b' 41 2 u n' ys) : (v.ownBlock = none ∨ v.ownBlock ≠ u.ownBlock) ∧ (u.ownBlock = none ∨ u.ownBlock ≠ v.ownBlock) := by
  obtain ⟨_, ⟨rfl, _⟩ | ⟨g, cap, cur, rfl, _, hh, _⟩⟩ := h
  · refine ⟨.inl rfl, ?_⟩
    obtain ⟨_, ⟨rfl, _⟩ | ⟨g, cap, cur, rfl, _, hh, _⟩⟩ := k
    · exact .inl rfl
    · right; simp [Value.ownBlock]
  · obtain ⟨_, ⟨rfl, _⟩ | ⟨g', cap', cur', rfl, _, hh', _⟩⟩ := k
    · refine ⟨?_, .inl rfl⟩
      right; simp [Value.ownBlock]
    · have hne : g ≠ g' := fun e => by
        subst e
        rw [hh] at hh'
        injection hh' with h1
        injection h1 with _ h2
        exact absurd h2 (by decide)
      refine ⟨.inr ?_, .inr ?_⟩
      · intro e; simp [Value.ownBlock] at e; exact hne e
      · intro e; simp [Value.ownBlock] at e; exact hne e.symm
theorem IbInv.from_ {w w1 wr : World} {v : Value} {xs : List Int} (h : IbInv w1 wr v xs) (hb : Below w.heap.size w w1) : IbInv w wr v xs := by
  obtain ⟨⟨hl, hr⟩, hbl⟩ := h
  refine ⟨⟨hl, ?_⟩, bl_step hb hbl⟩
  rcases hr with h0 | ⟨g, cap, cur, hv, hg, hr⟩
  · exact .inl h0
  · exact .inr ⟨g, cap, cur, hv, Nat.le_trans hb.size hg, hr⟩
theorem IbInv.kept_ {w wr w2 : World} {v u : Value} {xs : List Int} {o : Obj} (h : IbInv w wr v xs) (hg : (wr.alloc o).grownBy w2 u.ownBlock) (hne : v.ownBlock = none ∨ v.ownBlock ≠ u.ownBlock) (hlt : ∀ k, u.ownBlock = some k → w.heap.size ≤ k) : IbInv w w2 v xs :=
  ⟨(h.own.alloc o).kept hg hne, (h.bl.alloc h.bl.size o).grown hg (by have := h.bl.size; simp; omega) hlt⟩
theorem TbInv.kept_ {w wr w2 : World} {v u : Value} {xs : List (Int × Bool)} {o : Obj} (h : TbInv w wr v xs) (hg : (wr.alloc o).grownBy w2 u.ownBlock) (hne : v.ownBlock = none ∨ v.ownBlock ≠ u.ownBlock) (hlt : ∀ k, u.ownBlock = some k → w.heap.size ≤ k) : TbInv w w2 v xs :=
  ⟨(h.own.alloc o).kept hg hne, (h.bl.alloc h.bl.size o).grown hg (by have := h.bl.size; simp; omega) hlt⟩

set_option maxHeartbeats 8000000 in
theorem sDiscantMove_any (v : Value) (k : Int) (xs : List Vc) (w : World) (h : VV w v xs) :
    Calls Tryd.prog 25 #[v, .int .i64 k] w (VBuilt2 w (dmL k xs) (dmOk k xs)) := by
  obtain ⟨i0, hi0, hq0, hq1, hq2⟩ := info_parts infoTone
  obtain ⟨j0, hj0, hr0, hr1, hr2⟩ := info_parts infoIb
  have HV := Lib.hid (sPartValid8_any v xs w h)
  obtain ⟨a, c, rfl, ha, hc1, hc2⟩ := h
  have HA := Lib.hid ha
  clear ha
  cases hp : pval xs with
  | false =>
    have hok := dm_no1 (k := k) hp
    rw [dmL_no hok, hok]
    rw [hp] at HV
    clear hok hp
    go_enter Tryd.func25, Tryd.ntmps25
    go_wp2_with (fail)
    (go_at_call 57; refine (HV.out).mono ?_; rintro e w1 ⟨rfl, hb1⟩)
    have HE := Lib.hid (VBuilt2.none_ w w1 hb1)
    clear hb1
    go_wp2
    go_ret2
    exact HE.out
  | true =>
    rw [hp] at HV
    obtain ⟨_, l12, _⟩ := pval_in hp
    have HP := Lib.hid hp
    clear hp
    go_enter Tryd.func25, Tryd.ntmps25
    go_wp2_with (fail)
    (go_at_call 57; refine (HV.out).mono ?_; rintro e w1 ⟨rfl, hb1⟩)
    have HB1 := Lib.hid hb1
    have HS : Hid (TbInv w1 ((w1.alloc (.cells #[] 41)).alloc (.cells #[] 3)) (.slice (some ⟨w1.heap.size, 0, none⟩) 0 0) (tns (xs.take 0))) := (TbInv.start w1).below ((Below.refl _ _).alloc (Nat.le_refl _) _)
    have HS2 : Hid (IbInv w1 ((w1.alloc (.cells #[] 41)).alloc (.cells #[] 3)) (.slice (some ⟨w1.heap.size + 1, 0, none⟩) 0 0) (bts8 (xs.take 0))) := by
      have h1 := (IbInv.start (w1.alloc (.cells #[] 41))).from_ ((Below.refl w1.heap.size w1).alloc (Nat.le_refl _) _)
      rw [show (w1.alloc (.cells #[] 41)).heap.size = w1.heap.size + 1 by simp] at h1
      exact h1
    clear hb1 HV
    go_wp2
    go_loopw [6, 7, 8] (fun q r i wr => ∃ n : Nat, n ≤ xs.length ∧ i = .int .i64 (n : Int) ∧ TbInv w1 wr q (tns (xs.take n)) ∧ IbInv w1 wr r (bts8 (xs.take n))) (fun _ _ i _ => xs.length - (intOf i).toNat)
    case atStart => exact ⟨0, by omega, rfl, HS.out, HS2.out⟩
    case round =>
      obtain ⟨n, hn, rfl, hinv, hinw⟩ := hrel
      clear HS HS2
      by_cases hlt : n < xs.length
      · obtain ⟨⟨⟨s, b⟩, m⟩, hx⟩ : ∃ x, xs[n]? = some x := ⟨xs[n], List.getElem?_eq_getElem hlt⟩
        rcases HA.out with h0 | ⟨A, off, rfl, hA, hcz⟩
        · subst h0; simp at hlt
        have hbw := bl_step HB1.out hinv.bl
        have HX := Lib.hid (tns_take hx)
        have HY := Lib.hid (bts_take8 hx)
        obtain ⟨e0, e1, e2⟩ := hcz n _ hx
        have d0 := (hbw.cell (p := ⟨A, off + n * 3, none⟩) hA).trans e0
        have d1 := (hbw.cell (p := ⟨A, off + n * 3 + 1, none⟩) hA).trans e1
        have hlen : (tns (xs.take n)).length = n := by rw [tns_len, List.length_take]; omega
        have hlen2 : (bts8 (xs.take n)).length = n := by rw [bts_len8, List.length_take]; omega
        have hown := hinv.own
        rw [hlen] at hown
        have hk0 : (0 : Int) ≤ (n : Int) := by omega
        have hk1 : (n : Int) < (xs.length : Int) := by omega
        have HN := Lib.hid hinv
        have HM := Lib.hid hinw
        have hws := hinv.bl.size
        have HNB : Hid ((wr.alloc (.cells #[.int .i64 s, .bool b] 41)).heap[wr.heap.size]? = some (.cells #[.int .i64 s, .bool b] 41 (0, 0))) := heap_alloc_new wr (.cells #[.int .i64 s, .bool b] 41)
        have HD := Lib.hid e2
        clear hx hbw hcz hinv hinw e0 e1 e2
        go_wp2_with (at_builtin; refine wpList_append_own _ rfl _ _ 52 rfl w1.heap.size 41 i0 (.agg #[.int .i64 0, .bool false]) 2 16 Tryd.underlying52 hi0 hq0 hq1 hq2 rfl (by decide) _ _ _ rfl (hown.alloc _) ⟨wr.heap.size, 0, none⟩ 1 1 [.int .i64 s, .bool b] rfl rfl (World.news_of_block HNB.out) (by simp [Value.oneCell']) (by unfold maxLen; omega) (by omega) (by simp; omega) ?_)
        intro v' w4 hown' hgrow _
        have hq := TbInv.app (s := s) (b := b) HN.out (by rw [hlen]; exact hown') hgrow
        have hr := HM.out.kept_ hgrow (rows_ne HM.out.own HN.out.own).1 (fun k hk => (own_ltb HN.out.own hk).1)
        rw [← HX.out] at hq
        have HQ := Lib.hid hq
        have HR := Lib.hid hr
        have hown2 := hr.own
        rw [hlen2] at hown2
        have hw4 := hr.bl.size
        have d2 := ((bl_step HB1.out hr.bl).cell (p := ⟨A, off + n * 3 + 2, none⟩) hA).trans HD.out
        have HNC : Hid ((w4.alloc (.cells #[.int .i64 m] 3)).heap[w4.heap.size]? = some (.cells #[.int .i64 m] 3 (0, 0))) := heap_alloc_new w4 (.cells #[.int .i64 m] 3)
        clear hown' hgrow hown HN HM hq hr d0 d1
        go_wp2_with (at_builtin; refine wpList_append_own _ rfl _ _ 24 rfl w1.heap.size 3 j0 (.int .i64 0) 1 8 Tryd.underlying24 hj0 hr0 hr1 hr2 rfl (by decide) _ _ _ rfl (hown2.alloc _) ⟨w4.heap.size, 0, none⟩ 1 1 [.int .i64 m] rfl rfl (World.news_of_block HNC.out) (by simp [Value.oneCell']) (by unfold maxLen; omega) (by omega) (by simp; omega) ?_)
        intro v5 w5 hown5 hgrow5 _
        have hr5 := IbInv.app (z := m) HR.out (by rw [hlen2]; exact hown5) hgrow5
        have hq5 := HQ.out.kept_ hgrow5 (rows_ne HR.out.own HQ.out.own).2 (fun k hk => (own_ltb HR.out.own hk).1)
        rw [← HY.out] at hr5
        have HQ5 := Lib.hid hq5
        have HR5 := Lib.hid hr5
        clear hown5 hgrow5 hown2 hq5 hr5 HQ HR d2
        go_wp2
        go_roundw
        case rel => exact ⟨n + 1, by omega, by go_num, HQ5.out, HR5.out⟩
        case measure => simp [intOf]; omega
      · have hnn : n = xs.length := by omega
        subst hnn
        rw [List.take_length] at hinv hinw
        have HBW := Lib.hid (bl_step HB1.out hinv.bl)
        have HM := Lib.hid (sMelodyMove_any w1.heap.size wr.heap.size _ (tns xs) k wr hinv.row)
        have HI := Lib.hid hinw
        clear hinv hinw HB1
        cases hm : mmB k (tns xs) with
        | false =>
          have hok := dm_no2 (xs := xs) hm
          rw [hm] at HM
          have HE : Hid (∀ w2, Below w.heap.size w w2 → VBuilt2 w (dmL k xs) (dmOk k xs) (.returned (.tuple #[.slice (some ⟨w2.heap.size, 0, none⟩) 0 0, .bool false])) (w2.alloc (.cells #[] 49))) := fun w2 hb => by
            rw [dmL_no hok, hok]; exact VBuilt2.none_ w w2 hb
          clear hok hm
          go_wp2_with (fail)
          (go_at_call 58; refine (HM.out).mono ?_; rintro e w2 ⟨u, rfl, hu, hb2⟩)
          have HF := Lib.hid (HE.out w2 (bl_step HBW.out hb2))
          clear hu hb2 HE
          go_wp2
          go_ret2
          exact HF.out
        | true =>
          have hok := dm_ok HP.out hm
          obtain ⟨hpm, hpl⟩ := dm_pm hok
          have HPM : Hid (∀ lo hi v u w', TRow w' lo hi v (mmL k (tns xs)) → IV w' u (bts8 xs) → Calls Tryd.prog 59 #[v, u] w' (VBuilt2 w' (dmL k xs) (dmOk k xs))) := fun lo hi v u w' h1 h2 => by
            have := sPartMake_any lo hi v u _ _ w' h1 h2
            rw [hpm, hpl, ← hok] at this
            exact this
          rw [hm] at HM
          clear hok hm hpm hpl
          generalize mmL k (tns xs) = ys at HM HPM
          go_wp2_with (fail)
          (go_at_call 58; refine (HM.out).mono ?_; rintro e w2 ⟨u, rfl, hu, hb2⟩)
          have hi2 := (IRow.view (lo := w1.heap.size) (hi := wr.heap.size) ⟨HI.out.own, fun g hg => (own_ltb HI.out.own hg).2⟩).below hb2
          have HP2 := Lib.hid (HPM.out _ _ _ _ _ hu hi2)
          have HB2 := Lib.hid (bl_step HBW.out hb2)
          clear hu hb2 hi2 HM HPM HI
          go_wp2_with (fail)
          (go_at_call 59; refine (HP2.out).mono ?_; rintro e w3 hv3)
          obtain ⟨r, rfl, hr3, hb3⟩ := hv3
          have HE : Hid (VBuilt2 w (dmL k xs) (dmOk k xs) (.returned (.tuple #[r, .bool (dmOk k xs)])) w3) := VBuilt2.from_ ⟨r, rfl, hr3, hb3⟩ HB2.out
          clear hr3 hb3
          go_wp2
          go_ret2
          exact HE.out
end Go.Proofs.YticapinlnlpbpaaDoor
