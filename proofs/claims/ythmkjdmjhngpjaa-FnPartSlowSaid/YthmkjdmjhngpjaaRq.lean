/-
  The beats of an ordo, and the modes of a list of beats, in both programs.
-/
import Derived.Test.YthmkjdmjhngpjaaRo
import Derived.Test.YthmkjdmjhngpjaaIe
namespace Go.Proofs.Ythmkjdmjhngpjaa
open Go.RowKit
set_option maxRecDepth 100000
set_option linter.unusedVariables false

theorem oBts_no {m n : Int} (h : oOk m n = false) : oBts m n = -1 := by simp [oBts, h]
theorem oBts_yes {m n : Int} (h : oOk m n = true) : oBts m n = smL (oLst m n) + oRst m n := by simp [oBts, h]
theorem oBts_in {m n : Int} : -1 ≤ oBts m n ∧ oBts m n ≤ 100 := by
  cases h : oOk m n with
  | false => rw [oBts_no h]; omega
  | true =>
    rw [oBts_yes h]
    have h1 := smL_in (xs := oLst m n) (a := 3) fun z hz => by have := oLst_in hz; omega
    have h2 := oRst_in (m := m) (n := n)
    have h3 := oLst_len (m := m) (n := n)
    omega

set_option maxHeartbeats 4000000 in
theorem rhythmBeats_any (m n : Int) (w : World) : Calls Try.prog 17 #[.int .i64 m, .int .i64 n] w fun e w' => e = .returned (.int .i64 (oBts m n)) ∧ Below w.heap.size w w' := by
  have HO := Lib.hid (rhythmOrdo_any m n w)
  unfold Ordo2 at HO
  cases hok : oOk m n with
  | false =>
    rw [oBts_no hok]
    rw [hok] at HO
    clear hok
    generalize oRst m n = rr at HO
    go_enter Try.func17, Try.ntmps17
    go_wp2_with (fail)
    (go_at_call 11; refine (HO.out).mono ?_; rintro e w1 ⟨vo, rfl, ho, hb1⟩)
    have HB := Lib.hid hb1
    clear ho hb1
    go_wp2
    go_ret
    exact ⟨rfl, HB.out⟩
  | true =>
    rw [oBts_yes hok]
    rw [hok] at HO
    have HC := Lib.hid (fun z (hz : z ∈ oLst m n) => oLst_in hz)
    have h2 := oRst_in (m := m) (n := n)
    have h3 := oLst_len (m := m) (n := n)
    generalize oLst m n = xs at HO HC h3
    clear hok
    have HS := Lib.hid (fun k => smL_in (xs := xs.take k) (a := 3) fun z hz => by have := HC.out z (List.mem_of_mem_take hz); omega)
    generalize oRst m n = rr at HO h2
    go_enter Try.func17, Try.ntmps17
    go_wp2_with (fail)
    (go_at_call 11; refine (HO.out).mono ?_; rintro e w1 ⟨vo, rfl, ho, hb1⟩)
    have HB := Lib.hid hb1
    obtain ⟨a, c, rfl, ha, hc1, hc2⟩ := ho.view
    have HA := Lib.hid ha
    unfold maxLen at hc2
    clear ho hb1 ha
    go_wp2
    go_loop [6, 21] (fun r i => ∃ k : Nat, k ≤ xs.length ∧ i = .int .i64 (k : Int) ∧ r = .int .i64 (smL (xs.take k) + rr)) (fun _ i => xs.length - (intOf i).toNat)
    case atStart => exact ⟨0, by omega, rfl, by simp [smL_nil]⟩
    case round =>
      obtain ⟨k, hk, rfl, rfl⟩ := hrel
      by_cases hlt : k < xs.length
      · rcases HA.out with h0 | ⟨A, off, rfl, hA, hc⟩
        · subst h0; simp at hlt
        have e1 := hc k hlt
        have HX := Lib.hid (smL_take hlt)
        have h1 := HS.out k
        have h4 := HC.out (xs.getD k 0) (by rw [List.getD_eq_getElem?_getD, List.getElem?_eq_getElem hlt]; exact List.getElem_mem hlt)
        have h5 : (xs.take k).length ≤ 100 := by simp; omega
        generalize xs.getD k 0 = z at e1 HX h4
        generalize smL (xs.take k) = s at h1 HX
        have wz : IntKind.i64.wrap (s + rr + z) = s + z + rr := by rw [IntWalk.i64_in _ (by omega)]; omega
        clear hc
        go_wp2
        go_round
        case rel => exact ⟨k + 1, by omega, by go_num, by rw [HX.out]⟩
        case measure => simp [intOf]; omega
      · have hkn : k = xs.length := by omega
        subst hkn
        rw [List.take_length]
        go_wp2
        go_ret
        exact ⟨rfl, HB.out⟩

set_option maxHeartbeats 8000000 in
theorem rhythmModes_any (v : Value) (zs : List Int) (w : World) (h : IV w v zs) : Calls Try.prog 16 #[v] w (IbMade w (rmds zs 6)) := by
  obtain ⟨i0, hi0, hq0, hq1, hq2⟩ := info_parts infoIb
  have HA := Lib.hid h
  obtain ⟨a, c, rfl, ha, hc1, hc2⟩ := h
  unfold maxLen at hc2
  have HS := Lib.hid (IbInv.start w)
  clear ha
  go_enter Try.func16, Try.ntmps16
  go_wp2
  go_loopw [3, 4] (fun v i wr => ∃ k : Nat, k ≤ 6 ∧ i = .int .i64 ((k : Int) + 1) ∧ IbInv w wr v (rmds zs k)) (fun _ i _ => 7 - (intOf i).toNat)
  case atStart => exact ⟨0, by omega, rfl, HS.out⟩
  case round =>
    obtain ⟨k, hk, rfl, hinv⟩ := hrel
    by_cases hlt : k < 6
    · have hlen := rmds_len zs k
      have HM1 := Lib.hid (rmds_miss1 (zs := zs) (k := k))
      have HM2 := Lib.hid (rmds_miss2 (zs := zs) (k := k))
      have HH := Lib.hid (rmds_hit (zs := zs) (k := k))
      go_wp2_with (fail)
      (go_at_call 15; refine (rhythmFoot_any _ _).mono ?_; rintro e w1 ⟨vf, rfl, hf, hb1⟩)
      obtain ⟨L, hL⟩ : ∃ L, (foot ((k : Int) + 1)).length = L := ⟨_, rfl⟩
      have hL2 := (foot_yes (m := (k : Int) + 1) (by omega)).1
      rw [hL] at hL2
      have g1 : decide (0 < L) = true := decide_eq_true (by omega)
      have g2 : decide ((0 : Int) < (L : Int)) = true := decide_eq_true (by omega)
      have g3 : 0 < L := by omega
      obtain ⟨af, cf, rfl⟩ := hf.sl hL
      have hinv1 := hinv.below hb1
      clear hinv hf hb1 hL hL2
      go_wp2_with (fail)
      (go_at_call 11; refine (rhythmOrdo_any _ _ _).mono ?_; rintro e w2 ⟨vo, rfl, ho, hb2⟩)
      have hinv2 := hinv1.below hb2
      have HO := Lib.hid ho.view
      clear hinv1 ho hb2
      generalize oRst ((k : Int) + 1) (zs.length : Int) = rr
      cases hok : oOk ((k : Int) + 1) (zs.length : Int) with
      | false =>
        have HX := Lib.hid (HM1.out hok)
        clear hok HM1 HM2 HH
        go_wp2
        go_roundw
        case rel => exact ⟨k + 1, by omega, by go_num, by rw [HX.out]; exact hinv2⟩
        case measure => simp [intOf]; omega
      | true =>
        have HA2 := Lib.hid (HA.out.below hinv2.bl)
        go_wp2_with (fail)
        (go_at_call 41; refine (slEqualV_any _ _ _ zs _ HO.out HA2.out).mono ?_; rintro e w3 ⟨rfl, hb3⟩)
        have hinv3 := hinv2.below hb3
        clear hinv2 hb3
        by_cases hq : oLst ((k : Int) + 1) (zs.length : Int) = zs
        · have HX := Lib.hid (HH.out hok hq)
          have e1 : ieq (oLst ((k : Int) + 1) (zs.length : Int)) zs = true := by unfold ieq; exact decide_eq_true hq
          have hown := hinv3.own
          rw [e1]
          clear hq hok HM1 HM2 HH e1
          go_wp2_with (at_builtin; refine wpList_append_own _ rfl _ _ 25 rfl w.heap.size 3 i0 (.int .i64 0) 1 8 Try.underlying25 hi0 hq0 hq1 hq2 rfl (by decide) _ _ _ rfl (hown.alloc _) ⟨w3.heap.size, 0, none⟩ 1 1 [.int .i64 ((k : Int) + 1)] rfl rfl ?c1 ?c2 ?c3 ?c4 ?c5 ?_)
          case c1 =>
            intro j u hj
            match j, hj with
            | 0, hj => simp at hj; subst hj; simp [Addr.add]
          case c2 => intro u hu; simp at hu; subst hu; rfl
          case c3 => unfold maxLen; omega
          case c4 => omega
          case c5 => have := hinv3.bl.size; simp; omega
          intro v' w4 hown' hgrow _
          have hinv4 := hinv3.app hown' hgrow
          clear hown' hgrow hown hinv3
          go_wp2
          go_roundw
          case rel => exact ⟨k + 1, by omega, by go_num, by rw [HX.out]; exact hinv4⟩
          case measure => simp [intOf]; omega
        · have HX := Lib.hid (HM2.out hq)
          have e1 : ieq (oLst ((k : Int) + 1) (zs.length : Int)) zs = false := by unfold ieq; exact decide_eq_false hq
          rw [e1]
          clear hq hok HM1 HM2 HH e1
          go_wp2
          go_roundw
          case rel => exact ⟨k + 1, by omega, by go_num, by rw [HX.out]; exact hinv3⟩
          case measure => simp [intOf]; omega
    · have hk6 : k = 6 := by omega
      subst hk6
      have HF := Lib.hid (rhythmFoot_any (((6 : Nat) : Int) + 1))
      rw [foot_no (by omega)] at HF
      go_wp2_with (fail)
      (go_at_call 15; refine (HF.out _).mono ?_; rintro e w1 ⟨vf, rfl, hf, hb1⟩)
      obtain ⟨af, cf, rfl⟩ := hf.sl rfl
      have HE := Lib.hid (hinv.below hb1).built
      clear hinv hf hb1 HF
      go_wp2
      go_ret
      exact HE.out

set_option maxHeartbeats 8000000 in
theorem sRhythmModes_any (v : Value) (zs : List Int) (w : World) (h : IV w v zs) : Calls Try.prog 19 #[v] w (IbMade w (rmds zs 6)) := by
  obtain ⟨i0, hi0, hq0, hq1, hq2⟩ := info_parts infoIb
  have HA := Lib.hid h
  obtain ⟨a, c, rfl, ha, hc1, hc2⟩ := h
  unfold maxLen at hc2
  have HS := Lib.hid (IbInv.start w)
  clear ha
  go_enter Try.func19, Try.ntmps19
  go_wp2
  go_loopw [3, 4] (fun v i wr => ∃ k : Nat, k ≤ 6 ∧ i = .int .i64 ((k : Int) + 1) ∧ IbInv w wr v (rmds zs k)) (fun _ i _ => 7 - (intOf i).toNat)
  case atStart => exact ⟨0, by omega, rfl, HS.out⟩
  case round =>
    obtain ⟨k, hk, rfl, hinv⟩ := hrel
    by_cases hlt : k < 6
    · have hlen := rmds_len zs k
      have HM1 := Lib.hid (rmds_miss1 (zs := zs) (k := k))
      have HM2 := Lib.hid (rmds_miss2 (zs := zs) (k := k))
      have HH := Lib.hid (rmds_hit (zs := zs) (k := k))
      have hinv1 := hinv
      have g1 : (k : Int) + 1 ≤ 6 := by omega
      clear hinv
      go_wp2_with (fail)
      (go_at_call 12; refine (sRhythmOrdo_any _ _ _).mono ?_; rintro e w2 ⟨vo, rfl, ho, hb2⟩)
      have hinv2 := hinv1.below hb2
      have HO := Lib.hid ho.view
      clear hinv1 ho hb2
      generalize oRst ((k : Int) + 1) (zs.length : Int) = rr
      cases hok : oOk ((k : Int) + 1) (zs.length : Int) with
      | false =>
        have HX := Lib.hid (HM1.out hok)
        clear hok HM1 HM2 HH
        go_wp2
        go_roundw
        case rel => exact ⟨k + 1, by omega, by go_num, by rw [HX.out]; exact hinv2⟩
        case measure => simp [intOf]; omega
      | true =>
        have HA2 := Lib.hid (HA.out.below hinv2.bl)
        go_wp2_with (fail)
        (go_at_call 42; refine (l2SameV_any _ _ _ zs _ HO.out HA2.out).mono ?_; rintro e w3 ⟨rfl, hb3⟩)
        have hinv3 := hinv2.below hb3
        clear hinv2 hb3
        by_cases hq : oLst ((k : Int) + 1) (zs.length : Int) = zs
        · have HX := Lib.hid (HH.out hok hq)
          have e1 : ieq (oLst ((k : Int) + 1) (zs.length : Int)) zs = true := by unfold ieq; exact decide_eq_true hq
          have hown := hinv3.own
          rw [e1]
          clear hq hok HM1 HM2 HH e1
          go_wp2_with (at_builtin; refine wpList_append_own _ rfl _ _ 25 rfl w.heap.size 3 i0 (.int .i64 0) 1 8 Try.underlying25 hi0 hq0 hq1 hq2 rfl (by decide) _ _ _ rfl (hown.alloc _) ⟨w3.heap.size, 0, none⟩ 1 1 [.int .i64 ((k : Int) + 1)] rfl rfl ?c1 ?c2 ?c3 ?c4 ?c5 ?_)
          case c1 =>
            intro j u hj
            match j, hj with
            | 0, hj => simp at hj; subst hj; simp [Addr.add]
          case c2 => intro u hu; simp at hu; subst hu; rfl
          case c3 => unfold maxLen; omega
          case c4 => omega
          case c5 => have := hinv3.bl.size; simp; omega
          intro v' w4 hown' hgrow _
          have hinv4 := hinv3.app hown' hgrow
          clear hown' hgrow hown hinv3
          go_wp2
          go_roundw
          case rel => exact ⟨k + 1, by omega, by go_num, by rw [HX.out]; exact hinv4⟩
          case measure => simp [intOf]; omega
        · have HX := Lib.hid (HM2.out hq)
          have e1 : ieq (oLst ((k : Int) + 1) (zs.length : Int)) zs = false := by unfold ieq; exact decide_eq_false hq
          rw [e1]
          clear hq hok HM1 HM2 HH e1
          go_wp2
          go_roundw
          case rel => exact ⟨k + 1, by omega, by go_num, by rw [HX.out]; exact hinv3⟩
          case measure => simp [intOf]; omega
    · have hk6 : k = 6 := by omega
      subst hk6
      have HE := Lib.hid hinv.built
      clear hinv
      go_wp2
      go_ret
      exact HE.out
end Go.Proofs.Ythmkjdmjhngpjaa
