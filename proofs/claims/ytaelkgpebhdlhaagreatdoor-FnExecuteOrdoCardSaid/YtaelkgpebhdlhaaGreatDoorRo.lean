/-
  The ordo of a rhythmic mode in both programs.
-/
import Derived.Test.YtaelkgpebhdlhaaGreatDoorRh
import Derived.IntWalk
namespace Go.Proofs.YtaelkgpebhdlhaaGreatDoor
open Go.RowKit
set_option maxRecDepth 100000
set_option linter.unusedVariables false

set_option maxHeartbeats 8000000 in
theorem rhythmOrdo_any (m n : Int) (w : World) : Calls Tryz.prog 34 #[.int .i64 m, .int .i64 n] w (Ordo2 w m n) := by
  obtain ⟨i0, hi0, hq0, hq1, hq2⟩ := info_parts infoIb
  by_cases hm : 1 ≤ m ∧ m ≤ 6
  case neg =>
    have HN := Lib.hid (fun w' hs => Ordo2.no (w := w) (w' := w') (m := m) (n := n) (oOk_no1 hm) hs)
    have HF := Lib.hid (rhythmFoot_any m)
    rw [foot_no hm] at HF
    clear hm
    go_enter Tryz.func34, Tryz.ntmps34
    go_wp2_with (fail)
    (go_at_call 79; refine (HF.out _).mono ?_; rintro e w1 ⟨vf, rfl, hf, hb1⟩)
    obtain ⟨af, cf, rfl⟩ := hf.sl rfl
    have HX := Lib.hid (HN.out w1 hb1)
    clear hf hb1 HN
    go_wp2
    go_ret3
    exact HX.out
  by_cases hn : 1 ≤ n ∧ n ≤ 12
  case neg =>
    have HN := Lib.hid (fun w' hs => Ordo2.no (w := w) (w' := w') (m := m) (n := n) (oOk_no2 hn) hs)
    have HF := Lib.hid (rhythmFoot_any m)
    obtain ⟨L, hL⟩ : ∃ L, (foot m).length = L := ⟨_, rfl⟩
    have hL2 := (foot_yes hm).1
    rw [hL] at hL2
    have hz : decide (L = 0) = false := decide_eq_false (by omega)
    have hz2 : ((L : Int) == 0) = false := by rw [beq_eq_false_iff_ne]; omega
    have hz3 : (L == 0) = false := by rw [beq_eq_false_iff_ne]; omega
    by_cases h1 : n < 1
    · go_enter Tryz.func34, Tryz.ntmps34
      go_wp2_with (fail)
      (go_at_call 79; refine (HF.out _).mono ?_; rintro e w1 ⟨vf, rfl, hf, hb1⟩)
      obtain ⟨af, cf, rfl⟩ := hf.sl hL
      have HX := Lib.hid (HN.out w1 hb1)
      clear hf hb1 HN hn hm hL
      go_wp2
      go_ret3
      exact HX.out
    · have h2 : 12 < n := by omega
      go_enter Tryz.func34, Tryz.ntmps34
      go_wp2_with (fail)
      (go_at_call 79; refine (HF.out _).mono ?_; rintro e w1 ⟨vf, rfl, hf, hb1⟩)
      obtain ⟨af, cf, rfl⟩ := hf.sl hL
      have HX := Lib.hid (HN.out w1 hb1)
      clear hf hb1 HN hn hm hL
      go_wp2
      go_ret3
      exact HX.out
  have ho := oOk_yes hm hn
  obtain ⟨nn, rfl⟩ : ∃ k : Nat, n = (k : Int) := ⟨n.toNat, by omega⟩
  have HF := Lib.hid (rhythmFoot_any m)
  obtain ⟨f, hf⟩ : ∃ f, foot m = f := ⟨_, rfl⟩
  have hY := foot_yes hm
  have HE := Lib.hid (fun w1 wr v hs hi => Ordo2.yes (w := w) (w1 := w1) (wr := wr) (v := v) ho hs hi rfl)
  rw [hf] at HF hY HE
  have hbd := hY.2
  have HB := Lib.hid hbd
  have hnn : 1 ≤ nn ∧ nn ≤ 12 := by omega
  have HL := hY.1
  clear hf hm hn ho hY hbd
  obtain ⟨L, hL⟩ : ∃ L, f.length = L := ⟨_, rfl⟩
  have HLen := Lib.hid hL
  rw [hL] at HL
  clear hL
  rcases HL with rfl | rfl
  · go_enter Tryz.func34, Tryz.ntmps34
    go_wp2_with (fail)
    (go_at_call 79; refine (HF.out _).mono ?_; rintro e w1 ⟨vf, rfl, hf, hb1⟩)
    have HR := Lib.hid hf
    obtain ⟨af, cf, rfl⟩ := hf.sl HLen.out
    have HS := Lib.hid (IbInv.start w1)
    have HB1 := Lib.hid hb1
    have n1 : decide ((nn : Int) < 1) = false := decide_eq_false (by omega)
    have n2 : decide ((12 : Int) < (nn : Int)) = false := decide_eq_false (by omega)
    have n3 : decide (12 < nn) = false := decide_eq_false (by omega)
    have n4 : decide (nn < 1) = false := decide_eq_false (by omega)
    clear hf hb1
    go_wp2
    go_loopw [8, 28] (fun v i wr => ∃ k : Nat, k ≤ nn ∧ i = .int .i64 (k : Int) ∧ IbInv w1 wr v (cyc f k)) (fun _ i _ => nn - (intOf i).toNat)
    case atStart => exact ⟨0, by omega, rfl, HS.out⟩
    case round =>
      obtain ⟨k, hk, rfl, hinv⟩ := hrel
      by_cases hlt : k < nn
      · obtain ⟨g, cap, hvf, hc⟩ := foot_cell HR.out (Nat.le_refl _) hinv.bl (k % 2) (by rw [HLen.out]; omega)
        injection hvf with hv1 hv2 hv3
        subst hv1 hv3
        clear hv2
        have hlen := cyc_len f k
        have HX := Lib.hid (cyc_succ f k)
        rw [HLen.out] at HX
        generalize f.getD (k % 2) 0 = z at hc HX
        have hown := hinv.own
        go_wp2_with (at_builtin; refine wpList_append_own _ rfl _ _ 28 rfl w1.heap.size 3 i0 (.int .i64 0) 1 8 Tryz.underlying28 hi0 hq0 hq1 hq2 rfl (by decide) _ _ _ rfl (hown.alloc _) ⟨wr.heap.size, 0, none⟩ 1 1 [.int .i64 z] rfl rfl ?c1 ?c2 ?c3 ?c4 ?c5 ?_)
        case c1 =>
          intro j u hj
          match j, hj with
          | 0, hj => simp at hj; subst hj; simp [Addr.add]
        case c2 => intro u hu; simp at hu; subst hu; rfl
        case c3 => unfold maxLen; omega
        case c4 => omega
        case c5 => have := hinv.bl.size; simp; omega
        intro v' w2 hown' hgrow _
        have hinv2 := hinv.app (z := z) (by rw [hlen]; exact hown') hgrow
        clear hown' hgrow hown hinv
        go_wp2
        go_roundw
        case rel => exact ⟨k + 1, by omega, by go_num, by rw [HX.out]; exact hinv2⟩
        case measure => simp [intOf]; omega
      · have hkn : k = nn := by omega
        subst hkn
        have HI := Lib.hid hinv
        clear hinv hlt hk n1 n2 n3 n4
        go_wp2
        have HK := Lib.hid (fun j => lack_two (n := k) (j := j))
        have HZ := Lib.hid (HE.out w1 wr _ HB1.out HI.out)
        unfold rst at HZ
        rw [HLen.out] at HZ
        go_loopw [10, 11] (fun r i wy => ∃ j : Nat, j ≤ lack 2 k ∧ i = .int .i64 ((k + j : Nat) : Int) ∧ r = .int .i64 (rsm f k j) ∧ wy = wr) (fun _ i _ => k + lack 2 k - (intOf i).toNat)
        case atStart => exact ⟨0, by omega, by simp, rfl, by first | trivial | rfl⟩
        case round =>
          obtain ⟨j, hj, rfl, rfl, rfl⟩ := hrel
          by_cases hjl : j < lack 2 k
          · have m1 := (HK.out j).1 hjl
            have m2 := (HK.out 0).2.2
            obtain ⟨g, cap, hvf, hc⟩ := foot_cell HR.out (Nat.le_refl _) HI.out.bl ((k + j) % 2) (by rw [HLen.out]; omega)
            injection hvf with hv1 hv2 hv3
            subst hv1 hv3
            clear hv2
            have hz := HB.out ((k + j) % 2) (by rw [HLen.out]; omega)
            have hr0 := rsm_le HB.out (by rw [HLen.out]; omega) k j
            have HX : Hid (rsm f k (j + 1) = rsm f k j + f.getD ((k + j) % 2) 0) := by show _ = _; rw [← HLen.out]; rfl
            have HJ := Lib.hid hjl
            generalize f.getD ((k + j) % 2) 0 = z at hc HX hz
            generalize rsm f k j = r0 at hr0 HX
            generalize hq : k + j = q at *
            have m3 : ((q : Int) % 2 != 0) = true := by simp; omega
            have wq : IntKind.i64.wrap ((q : Int) + 1) = (q : Int) + 1 := IntWalk.i64_in _ (by omega)
            have wz : IntKind.i64.wrap (r0 + z) = r0 + z := IntWalk.i64_in _ (by omega)
            clear hjl hj
            go_wp2
            go_roundw
            case rel => exact ⟨j + 1, by have := HJ.out; omega, by (subst hq; rfl), by (rw [HX.out]), by first | trivial | rfl⟩
            case measure => have := HJ.out; subst hq; simp [intOf]; omega
          · have hjj : j = lack 2 k := by omega
            have m1 := (HK.out 0).2.1
            subst hjj
            have m3 : (((k + lack 2 k : Nat) : Int) % 2 != 0) = false := by simp; omega
            generalize rsm f k (lack 2 k) = r0 at HZ ⊢
            generalize k + lack 2 k = q at *
            clear hjl hj
            go_wp2
            go_ret3
            exact HZ.out
  · go_enter Tryz.func34, Tryz.ntmps34
    go_wp2_with (fail)
    (go_at_call 79; refine (HF.out _).mono ?_; rintro e w1 ⟨vf, rfl, hf, hb1⟩)
    have HR := Lib.hid hf
    obtain ⟨af, cf, rfl⟩ := hf.sl HLen.out
    have HS := Lib.hid (IbInv.start w1)
    have HB1 := Lib.hid hb1
    have n1 : decide ((nn : Int) < 1) = false := decide_eq_false (by omega)
    have n2 : decide ((12 : Int) < (nn : Int)) = false := decide_eq_false (by omega)
    have n3 : decide (12 < nn) = false := decide_eq_false (by omega)
    have n4 : decide (nn < 1) = false := decide_eq_false (by omega)
    clear hf hb1
    go_wp2
    go_loopw [8, 28] (fun v i wr => ∃ k : Nat, k ≤ nn ∧ i = .int .i64 (k : Int) ∧ IbInv w1 wr v (cyc f k)) (fun _ i _ => nn - (intOf i).toNat)
    case atStart => exact ⟨0, by omega, rfl, HS.out⟩
    case round =>
      obtain ⟨k, hk, rfl, hinv⟩ := hrel
      by_cases hlt : k < nn
      · obtain ⟨g, cap, hvf, hc⟩ := foot_cell HR.out (Nat.le_refl _) hinv.bl (k % 3) (by rw [HLen.out]; omega)
        injection hvf with hv1 hv2 hv3
        subst hv1 hv3
        clear hv2
        have hlen := cyc_len f k
        have HX := Lib.hid (cyc_succ f k)
        rw [HLen.out] at HX
        generalize f.getD (k % 3) 0 = z at hc HX
        have hown := hinv.own
        go_wp2_with (at_builtin; refine wpList_append_own _ rfl _ _ 28 rfl w1.heap.size 3 i0 (.int .i64 0) 1 8 Tryz.underlying28 hi0 hq0 hq1 hq2 rfl (by decide) _ _ _ rfl (hown.alloc _) ⟨wr.heap.size, 0, none⟩ 1 1 [.int .i64 z] rfl rfl ?c1 ?c2 ?c3 ?c4 ?c5 ?_)
        case c1 =>
          intro j u hj
          match j, hj with
          | 0, hj => simp at hj; subst hj; simp [Addr.add]
        case c2 => intro u hu; simp at hu; subst hu; rfl
        case c3 => unfold maxLen; omega
        case c4 => omega
        case c5 => have := hinv.bl.size; simp; omega
        intro v' w2 hown' hgrow _
        have hinv2 := hinv.app (z := z) (by rw [hlen]; exact hown') hgrow
        clear hown' hgrow hown hinv
        go_wp2
        go_roundw
        case rel => exact ⟨k + 1, by omega, by go_num, by rw [HX.out]; exact hinv2⟩
        case measure => simp [intOf]; omega
      · have hkn : k = nn := by omega
        subst hkn
        have HI := Lib.hid hinv
        clear hinv hlt hk n1 n2 n3 n4
        go_wp2
        have HK := Lib.hid (fun j => lack_three (n := k) (j := j))
        have HZ := Lib.hid (HE.out w1 wr _ HB1.out HI.out)
        unfold rst at HZ
        rw [HLen.out] at HZ
        go_loopw [10, 11] (fun r i wy => ∃ j : Nat, j ≤ lack 3 k ∧ i = .int .i64 ((k + j : Nat) : Int) ∧ r = .int .i64 (rsm f k j) ∧ wy = wr) (fun _ i _ => k + lack 3 k - (intOf i).toNat)
        case atStart => exact ⟨0, by omega, by simp, rfl, by first | trivial | rfl⟩
        case round =>
          obtain ⟨j, hj, rfl, rfl, rfl⟩ := hrel
          by_cases hjl : j < lack 3 k
          · have m1 := (HK.out j).1 hjl
            have m2 := (HK.out 0).2.2
            obtain ⟨g, cap, hvf, hc⟩ := foot_cell HR.out (Nat.le_refl _) HI.out.bl ((k + j) % 3) (by rw [HLen.out]; omega)
            injection hvf with hv1 hv2 hv3
            subst hv1 hv3
            clear hv2
            have hz := HB.out ((k + j) % 3) (by rw [HLen.out]; omega)
            have hr0 := rsm_le HB.out (by rw [HLen.out]; omega) k j
            have HX : Hid (rsm f k (j + 1) = rsm f k j + f.getD ((k + j) % 3) 0) := by show _ = _; rw [← HLen.out]; rfl
            have HJ := Lib.hid hjl
            generalize f.getD ((k + j) % 3) 0 = z at hc HX hz
            generalize rsm f k j = r0 at hr0 HX
            generalize hq : k + j = q at *
            have m3 : ((q : Int) % 3 != 0) = true := by simp; omega
            have wq : IntKind.i64.wrap ((q : Int) + 1) = (q : Int) + 1 := IntWalk.i64_in _ (by omega)
            have wz : IntKind.i64.wrap (r0 + z) = r0 + z := IntWalk.i64_in _ (by omega)
            clear hjl hj
            go_wp2
            go_roundw
            case rel => exact ⟨j + 1, by have := HJ.out; omega, by (subst hq; rfl), by (rw [HX.out]), by first | trivial | rfl⟩
            case measure => have := HJ.out; subst hq; simp [intOf]; omega
          · have hjj : j = lack 3 k := by omega
            have m1 := (HK.out 0).2.1
            subst hjj
            have m3 : (((k + lack 3 k : Nat) : Int) % 3 != 0) = false := by simp; omega
            generalize rsm f k (lack 3 k) = r0 at HZ ⊢
            generalize k + lack 3 k = q at *
            clear hjl hj
            go_wp2
            go_ret3
            exact HZ.out

set_option maxHeartbeats 8000000 in
theorem sRhythmOrdo_any (m n : Int) (w : World) : Calls Tryz.prog 35 #[.int .i64 m, .int .i64 n] w (Ordo2 w m n) := by
  obtain ⟨i0, hi0, hq0, hq1, hq2⟩ := info_parts infoIb
  have HIN := Lib.hid (l6In8 n 1 12)
  by_cases hm : 1 ≤ m ∧ m ≤ 6
  case neg =>
    have HN := Lib.hid (fun w' hs => Ordo2.no (w := w) (w' := w') (m := m) (n := n) (oOk_no1 hm) hs)
    have HF := Lib.hid (sRhythmFoot_any m)
    rw [foot_no hm] at HF
    clear hm
    go_enter Tryz.func35, Tryz.ntmps35
    go_wp2_with (fail)
    (go_at_call 80; refine (HF.out _).mono ?_; rintro e w1 ⟨vf, rfl, hf, hb1⟩)
    obtain ⟨af, cf, rfl⟩ := hf.sl rfl
    have HX := Lib.hid (HN.out w1 hb1)
    clear hf hb1 HN
    go_wp2
    go_ret3
    exact HX.out
  by_cases hn : 1 ≤ n ∧ n ≤ 12
  case neg =>
    have HN := Lib.hid (fun w' hs => Ordo2.no (w := w) (w' := w') (m := m) (n := n) (oOk_no2 hn) hs)
    have HF := Lib.hid (sRhythmFoot_any m)
    obtain ⟨L, hL⟩ : ∃ L, (foot m).length = L := ⟨_, rfl⟩
    have hL2 := (foot_yes hm).1
    rw [hL] at hL2
    have hz : decide (L = 0) = false := decide_eq_false (by omega)
    have hz2 : ((L : Int) == 0) = false := by rw [beq_eq_false_iff_ne]; omega
    have hz3 : (L == 0) = false := by rw [beq_eq_false_iff_ne]; omega
    have e : (decide (1 ≤ n) && decide (n ≤ 12)) = false := by rw [Bool.and_eq_false_iff]; simp; omega
    rw [e] at HIN
    go_enter Tryz.func35, Tryz.ntmps35
    go_wp2_with (fail)
    (go_at_call 80; refine (HF.out _).mono ?_; rintro e w1 ⟨vf, rfl, hf, hb1⟩)
    obtain ⟨af, cf, rfl⟩ := hf.sl hL
    have HX := Lib.hid (HN.out w1 hb1)
    clear hf hb1 HN hn hm hL e
    go_wp2_with (fail)
    (go_at_call 74; refine (HIN.out _).mono ?_; rintro e wx ⟨rfl, rfl⟩)
    go_wp2
    go_ret3
    exact HX.out
  have ho := oOk_yes hm hn
  obtain ⟨nn, rfl⟩ : ∃ k : Nat, n = (k : Int) := ⟨n.toNat, by omega⟩
  have e : (decide (1 ≤ (nn : Int)) && decide ((nn : Int) ≤ 12)) = true := by simp [hn]
  rw [e] at HIN
  clear e
  have HF := Lib.hid (sRhythmFoot_any m)
  obtain ⟨f, hf⟩ : ∃ f, foot m = f := ⟨_, rfl⟩
  have hY := foot_yes hm
  have HE := Lib.hid (fun w1 wr v hs hi => Ordo2.yes (w := w) (w1 := w1) (wr := wr) (v := v) ho hs hi rfl)
  rw [hf] at HF hY HE
  have hbd := hY.2
  have HB := Lib.hid hbd
  have hnn : 1 ≤ nn ∧ nn ≤ 12 := by omega
  have HL := hY.1
  clear hf hm hn ho hY hbd
  obtain ⟨L, hL⟩ : ∃ L, f.length = L := ⟨_, rfl⟩
  have HLen := Lib.hid hL
  rw [hL] at HL
  clear hL
  rcases HL with rfl | rfl
  · go_enter Tryz.func35, Tryz.ntmps35
    go_wp2_with (fail)
    (go_at_call 80; refine (HF.out _).mono ?_; rintro e w1 ⟨vf, rfl, hf, hb1⟩)
    have HR := Lib.hid hf
    obtain ⟨af, cf, rfl⟩ := hf.sl HLen.out
    have HS := Lib.hid (IbInv.start w1)
    have HB1 := Lib.hid hb1
    have n1 : decide ((nn : Int) < 1) = false := decide_eq_false (by omega)
    have n2 : decide ((12 : Int) < (nn : Int)) = false := decide_eq_false (by omega)
    have n3 : decide (12 < nn) = false := decide_eq_false (by omega)
    have n4 : decide (nn < 1) = false := decide_eq_false (by omega)
    clear hf hb1
    go_wp2_with (fail)
    (go_at_call 74; refine (HIN.out _).mono ?_; rintro e wx ⟨rfl, rfl⟩)
    go_wp2
    go_loopw [8, 9] (fun v i wr => ∃ k : Nat, k ≤ nn ∧ i = .int .i64 (k : Int) ∧ IbInv w1 wr v (cyc f k)) (fun _ i _ => nn - (intOf i).toNat)
    case atStart => exact ⟨0, by omega, rfl, HS.out⟩
    case round =>
      obtain ⟨k, hk, rfl, hinv⟩ := hrel
      by_cases hlt : k < nn
      · obtain ⟨g, cap, hvf, hc⟩ := foot_cell HR.out (Nat.le_refl _) hinv.bl (k % 2) (by rw [HLen.out]; omega)
        injection hvf with hv1 hv2 hv3
        subst hv1 hv3
        clear hv2
        have hlen := cyc_len f k
        have HX := Lib.hid (cyc_succ f k)
        rw [HLen.out] at HX
        generalize f.getD (k % 2) 0 = z at hc HX
        have hown := hinv.own
        go_wp2_with (at_builtin; refine wpList_append_own _ rfl _ _ 28 rfl w1.heap.size 3 i0 (.int .i64 0) 1 8 Tryz.underlying28 hi0 hq0 hq1 hq2 rfl (by decide) _ _ _ rfl (hown.alloc _) ⟨wr.heap.size, 0, none⟩ 1 1 [.int .i64 z] rfl rfl ?c1 ?c2 ?c3 ?c4 ?c5 ?_)
        case c1 =>
          intro j u hj
          match j, hj with
          | 0, hj => simp at hj; subst hj; simp [Addr.add]
        case c2 => intro u hu; simp at hu; subst hu; rfl
        case c3 => unfold maxLen; omega
        case c4 => omega
        case c5 => have := hinv.bl.size; simp; omega
        intro v' w2 hown' hgrow _
        have hinv2 := hinv.app (z := z) (by rw [hlen]; exact hown') hgrow
        clear hown' hgrow hown hinv
        go_wp2
        go_roundw
        case rel => exact ⟨k + 1, by omega, by go_num, by rw [HX.out]; exact hinv2⟩
        case measure => simp [intOf]; omega
      · have hkn : k = nn := by omega
        subst hkn
        have HI := Lib.hid hinv
        clear hinv hlt hk n1 n2 n3 n4
        go_wp2
        have HK := Lib.hid (fun j => lack_two (n := k) (j := j))
        have HZ := Lib.hid (HE.out w1 wr _ HB1.out HI.out)
        unfold rst at HZ
        rw [HLen.out] at HZ
        go_loopw [10, 11] (fun r i wy => ∃ j : Nat, j ≤ lack 2 k ∧ i = .int .i64 ((k + j : Nat) : Int) ∧ r = .int .i64 (rsm f k j) ∧ wy = wr) (fun _ i _ => k + lack 2 k - (intOf i).toNat)
        case atStart => exact ⟨0, by omega, by simp, rfl, by first | trivial | rfl⟩
        case round =>
          obtain ⟨j, hj, rfl, rfl, rfl⟩ := hrel
          by_cases hjl : j < lack 2 k
          · have m1 := (HK.out j).1 hjl
            have m2 := (HK.out 0).2.2
            obtain ⟨g, cap, hvf, hc⟩ := foot_cell HR.out (Nat.le_refl _) HI.out.bl ((k + j) % 2) (by rw [HLen.out]; omega)
            injection hvf with hv1 hv2 hv3
            subst hv1 hv3
            clear hv2
            have hz := HB.out ((k + j) % 2) (by rw [HLen.out]; omega)
            have hr0 := rsm_le HB.out (by rw [HLen.out]; omega) k j
            have HX : Hid (rsm f k (j + 1) = rsm f k j + f.getD ((k + j) % 2) 0) := by show _ = _; rw [← HLen.out]; rfl
            have HJ := Lib.hid hjl
            generalize f.getD ((k + j) % 2) 0 = z at hc HX hz
            generalize rsm f k j = r0 at hr0 HX
            generalize hq : k + j = q at *
            have m3 : ((q : Int) % 2 != 0) = true := by simp; omega
            have wq : IntKind.i64.wrap ((q : Int) + 1) = (q : Int) + 1 := IntWalk.i64_in _ (by omega)
            have wz : IntKind.i64.wrap (r0 + z) = r0 + z := IntWalk.i64_in _ (by omega)
            clear hjl hj
            go_wp2
            go_roundw
            case rel => exact ⟨j + 1, by have := HJ.out; omega, by (subst hq; rfl), by (rw [HX.out]), by first | trivial | rfl⟩
            case measure => have := HJ.out; subst hq; simp [intOf]; omega
          · have hjj : j = lack 2 k := by omega
            have m1 := (HK.out 0).2.1
            subst hjj
            have m3 : (((k + lack 2 k : Nat) : Int) % 2 != 0) = false := by simp; omega
            generalize rsm f k (lack 2 k) = r0 at HZ ⊢
            generalize k + lack 2 k = q at *
            clear hjl hj
            go_wp2
            go_ret3
            exact HZ.out
  · go_enter Tryz.func35, Tryz.ntmps35
    go_wp2_with (fail)
    (go_at_call 80; refine (HF.out _).mono ?_; rintro e w1 ⟨vf, rfl, hf, hb1⟩)
    have HR := Lib.hid hf
    obtain ⟨af, cf, rfl⟩ := hf.sl HLen.out
    have HS := Lib.hid (IbInv.start w1)
    have HB1 := Lib.hid hb1
    have n1 : decide ((nn : Int) < 1) = false := decide_eq_false (by omega)
    have n2 : decide ((12 : Int) < (nn : Int)) = false := decide_eq_false (by omega)
    have n3 : decide (12 < nn) = false := decide_eq_false (by omega)
    have n4 : decide (nn < 1) = false := decide_eq_false (by omega)
    clear hf hb1
    go_wp2_with (fail)
    (go_at_call 74; refine (HIN.out _).mono ?_; rintro e wx ⟨rfl, rfl⟩)
    go_wp2
    go_loopw [8, 9] (fun v i wr => ∃ k : Nat, k ≤ nn ∧ i = .int .i64 (k : Int) ∧ IbInv w1 wr v (cyc f k)) (fun _ i _ => nn - (intOf i).toNat)
    case atStart => exact ⟨0, by omega, rfl, HS.out⟩
    case round =>
      obtain ⟨k, hk, rfl, hinv⟩ := hrel
      by_cases hlt : k < nn
      · obtain ⟨g, cap, hvf, hc⟩ := foot_cell HR.out (Nat.le_refl _) hinv.bl (k % 3) (by rw [HLen.out]; omega)
        injection hvf with hv1 hv2 hv3
        subst hv1 hv3
        clear hv2
        have hlen := cyc_len f k
        have HX := Lib.hid (cyc_succ f k)
        rw [HLen.out] at HX
        generalize f.getD (k % 3) 0 = z at hc HX
        have hown := hinv.own
        go_wp2_with (at_builtin; refine wpList_append_own _ rfl _ _ 28 rfl w1.heap.size 3 i0 (.int .i64 0) 1 8 Tryz.underlying28 hi0 hq0 hq1 hq2 rfl (by decide) _ _ _ rfl (hown.alloc _) ⟨wr.heap.size, 0, none⟩ 1 1 [.int .i64 z] rfl rfl ?c1 ?c2 ?c3 ?c4 ?c5 ?_)
        case c1 =>
          intro j u hj
          match j, hj with
          | 0, hj => simp at hj; subst hj; simp [Addr.add]
        case c2 => intro u hu; simp at hu; subst hu; rfl
        case c3 => unfold maxLen; omega
        case c4 => omega
        case c5 => have := hinv.bl.size; simp; omega
        intro v' w2 hown' hgrow _
        have hinv2 := hinv.app (z := z) (by rw [hlen]; exact hown') hgrow
        clear hown' hgrow hown hinv
        go_wp2
        go_roundw
        case rel => exact ⟨k + 1, by omega, by go_num, by rw [HX.out]; exact hinv2⟩
        case measure => simp [intOf]; omega
      · have hkn : k = nn := by omega
        subst hkn
        have HI := Lib.hid hinv
        clear hinv hlt hk n1 n2 n3 n4
        go_wp2
        have HK := Lib.hid (fun j => lack_three (n := k) (j := j))
        have HZ := Lib.hid (HE.out w1 wr _ HB1.out HI.out)
        unfold rst at HZ
        rw [HLen.out] at HZ
        go_loopw [10, 11] (fun r i wy => ∃ j : Nat, j ≤ lack 3 k ∧ i = .int .i64 ((k + j : Nat) : Int) ∧ r = .int .i64 (rsm f k j) ∧ wy = wr) (fun _ i _ => k + lack 3 k - (intOf i).toNat)
        case atStart => exact ⟨0, by omega, by simp, rfl, by first | trivial | rfl⟩
        case round =>
          obtain ⟨j, hj, rfl, rfl, rfl⟩ := hrel
          by_cases hjl : j < lack 3 k
          · have m1 := (HK.out j).1 hjl
            have m2 := (HK.out 0).2.2
            obtain ⟨g, cap, hvf, hc⟩ := foot_cell HR.out (Nat.le_refl _) HI.out.bl ((k + j) % 3) (by rw [HLen.out]; omega)
            injection hvf with hv1 hv2 hv3
            subst hv1 hv3
            clear hv2
            have hz := HB.out ((k + j) % 3) (by rw [HLen.out]; omega)
            have hr0 := rsm_le HB.out (by rw [HLen.out]; omega) k j
            have HX : Hid (rsm f k (j + 1) = rsm f k j + f.getD ((k + j) % 3) 0) := by show _ = _; rw [← HLen.out]; rfl
            have HJ := Lib.hid hjl
            generalize f.getD ((k + j) % 3) 0 = z at hc HX hz
            generalize rsm f k j = r0 at hr0 HX
            generalize hq : k + j = q at *
            have m3 : ((q : Int) % 3 != 0) = true := by simp; omega
            have wq : IntKind.i64.wrap ((q : Int) + 1) = (q : Int) + 1 := IntWalk.i64_in _ (by omega)
            have wz : IntKind.i64.wrap (r0 + z) = r0 + z := IntWalk.i64_in _ (by omega)
            clear hjl hj
            go_wp2
            go_roundw
            case rel => exact ⟨j + 1, by have := HJ.out; omega, by (subst hq; rfl), by (rw [HX.out]), by first | trivial | rfl⟩
            case measure => have := HJ.out; subst hq; simp [intOf]; omega
          · have hjj : j = lack 3 k := by omega
            have m1 := (HK.out 0).2.1
            subst hjj
            have m3 : (((k + lack 3 k : Nat) : Int) % 3 != 0) = false := by simp; omega
            generalize rsm f k (lack 3 k) = r0 at HZ ⊢
            generalize k + lack 3 k = q at *
            clear hjl hj
            go_wp2
            go_ret3
            exact HZ.out
end Go.Proofs.YtaelkgpebhdlhaaGreatDoor
