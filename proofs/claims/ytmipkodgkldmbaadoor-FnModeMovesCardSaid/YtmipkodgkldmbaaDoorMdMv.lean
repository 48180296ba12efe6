/-
  The moves of a melody to finals, in both programs.
-/
import Derived.Test.YtmipkodgkldmbaaDoorMdAl
import Derived.Test.YtmipkodgkldmbaaDoorMdMm
import Derived.Test.YtmipkodgkldmbaaDoorMmt
namespace Go.Proofs.YtmipkodgkldmbaaDoor
open Go.RowKit
set_option maxRecDepth 100000
set_option linter.unusedVariables false

/-- the tables that moving into modes reads -/
def MvTab (w : World) : Prop := TenTab w ∧ StepTab w
theorem MvTab.below {w w' : World} (h : MvTab w) (hb : Below w.heap.size w w') : MvTab w' := ⟨h.1.below hb, h.2.below hb⟩

set_option maxHeartbeats 8000000 in
theorem modeMoves_any (lo hi : Nat) (v : Value) (xs : List (Int × Bool)) (w : World) (h : TRow w lo hi v xs) (ht : MvTab w) :
    Calls Tryd.prog 34 #[v] w (IbMade w (mvI xs)) := by
  obtain ⟨i0, hi0, hq0, hq1, hq2⟩ := info_parts infoIb
  have HA := Lib.hid h
  have HT := Lib.hid ht
  have HS := Lib.hid (IbInv.start w)
  clear ht
  obtain ⟨a, cap, rfl, hcap, hmax, hat⟩ := h.argA
  clear h
  by_cases hr : rgOk xs = false
  · have e : mvI xs = [] := by unfold mvI; rw [hr]; rfl
    rw [e]
    have HE := Lib.hid (fun w1 (hb : Below (w.alloc (.cells #[] 3)).heap.size (w.alloc (.cells #[] 3)) w1) => (HS.out.below hb).built)
    have HE0 := Lib.hid HS.out.built
    clear e
    by_cases hx : xs = []
    · subst hx
      clear hat HA
      go_enter Tryd.func34, Tryd.ntmps34
      go_wp2
      go_ret
      exact HE0.out
    · have hl : ((xs.length : Int) == 0) = false := by have := List.length_pos_iff.2 hx; simp; omega
      have hv : mv xs = false := by
        unfold rgOk at hr
        cases hm : mv xs
        · rfl
        · rw [hm] at hr; exfalso; exact hx (by simpa using hr)
      have HV := Lib.hid hv
      clear hat hr hv hx
      go_enter Tryd.func34, Tryd.ntmps34
      go_wp2_with (fail)
      (go_at_call 57; refine (melodyValid_any lo hi _ xs _ (HA.out.below HS.out.bl (.inr (Nat.le_refl _)))).mono ?_; rintro e w1 ⟨rfl, hb1⟩)
      rw [HV.out]
      go_wp2
      go_ret
      exact HE.out _ hb1
  rw [Bool.not_eq_false] at hr
  obtain ⟨hl0, hl1⟩ := rgOk_len hr
  have hv : mv xs = true := by simp [rgOk] at hr; exact hr.1
  have hbd := (mm_lst (mmo_zero hv) hl0).2
  have eI : mvI xs = mvsI xs 4 := by unfold mvI; rw [hr]; rfl
  rw [eI]
  have HV := Lib.hid hv
  have hz : ((xs.length : Int) == 0) = false := by rw [beq_eq_false_iff_ne]; omega
  obtain ⟨A, off, q, hqx, rfl, hAs, e0, e1⟩ := hat.last hl0
  have m1 : IntKind.i64.wrap ((xs.length : Int) - 1) = (q : Int) := by rw [show (xs.length : Int) - 1 = (q : Int) by omega]; exact IntWalk.i64_in _ (by omega)
  have p0 : (0 : Int) ≤ (q : Int) := by omega
  have p1 : (q : Int) < (xs.length : Int) := by omega
  obtain ⟨b0, b1⟩ := hbd
  have HM := Lib.hid (fun (n : Nat) => (⟨fun h => mvsI_hit (xs := xs) (n := n) h, fun h => mvsI_miss (xs := xs) (n := n) h, mmo_len xs ((n : Int) + 4 - (lst xs).1)⟩ : (mmo xs ((n : Int) + 4 - (lst xs).1) = true → mvsI xs (n + 1) = mvsI xs n ++ [(n : Int) + 4 - (lst xs).1]) ∧ (mmo xs ((n : Int) + 4 - (lst xs).1) = false → mvsI xs (n + 1) = mvsI xs n) ∧ mmo xs ((n : Int) + 4 - (lst xs).1) = decide ((0 : Int) < ((allM (mmL ((n : Int) + 4 - (lst xs).1) xs) 8).length : Int))))
  clear hat hr hv eI
  generalize (lst xs).2 = sb at e1
  generalize (lst xs).1 = s at e0 b0 b1 HM
  go_enter Tryd.func34, Tryd.ntmps34
  go_wp2_with (fail)
  (go_at_call 57; refine (melodyValid_any lo hi _ xs _ (HA.out.below HS.out.bl (.inr (Nat.le_refl _)))).mono ?_; rintro e w1 ⟨rfl, hb1⟩)
  rw [HV.out]
  have hI1 := HS.out.below hb1
  have e0 := (hI1.bl.cell (p := ⟨A, off + q * 2, none⟩) hAs).trans e0
  have e1 := (hI1.bl.cell (p := ⟨A, off + q * 2 + 1, none⟩) hAs).trans e1
  have z1 := hI1.bl.size
  have hF8 : mdF 8 = 7 := by decide
  clear hb1
  go_wp2
  go_loopw [3, 5] (fun v i wr => ∃ n : Nat, n ≤ 4 ∧ i = .int .i64 ((n : Int) + 4) ∧ IbInv w wr v (mvsI xs n)) (fun _ i _ => 8 - (intOf i).toNat)
  case atStart => exact ⟨0, by omega, rfl, by first | exact hI1 | exact ⟨hI1.own.drew, hI1.bl.drew⟩⟩
  case round =>
    obtain ⟨n, hn, rfl, hinv⟩ := hrel
    go_wp2_with (fail)
    (go_at_call 20; refine (modeFinal_any 8 _ (HT.out.1.below hinv.bl)).mono ?_; rintro e w2 ⟨rfl, hb2⟩)
    rw [hF8]
    have hI2 := hinv.below hb2
    clear hinv hb2 e0 e1
    by_cases hlt : n < 4
    · have hl : (n : Int) + 4 ≤ 7 := by omega
      have hlen := mvsI_len xs n
      have m2 : IntKind.i64.wrap ((n : Int) + 4 - s) = (n : Int) + 4 - s := IntWalk.i64_in _ (by omega)
      obtain ⟨M1, M2, M3⟩ := HM.out n
      have H1 := Lib.hid M1
      have H2 := Lib.hid M2
      have H3 := Lib.hid M3
      clear M1 M2 M3
      go_wp2_with (fail)
      (go_at_call 36; refine (melodyMove_any lo hi _ xs ((n : Int) + 4 - s) _ (HA.out.below hI2.bl (.inr (Nat.le_refl _))) (HT.out.2.below hI2.bl)).mono ?_; rintro e w3 ⟨u3, rfl, hu3, hb3⟩)
      have hI3 := hI2.below hb3
      clear hI2 hb3
      go_wp2_with (fail)
      (go_at_call 26; refine (modeAll_any _ _ u3 _ _ hu3 (HT.out.1.below hI3.bl)).mono ?_; rintro e w4 ⟨u4, rfl, hu4, hb4⟩)
      have hI4 := hI3.below hb4
      obtain ⟨L, hL⟩ : ∃ L, (allM (mmL ((n : Int) + 4 - s) xs) 8).length = L := ⟨_, rfl⟩
      obtain ⟨aU, cU, rfl⟩ := hu4.sl hL
      have h3 := H3.out
      rw [hL] at h3
      clear hu4 hu3 hI3 hb4 hL
      by_cases hh : mmo xs ((n : Int) + 4 - s) = true
      · have HX := Lib.hid (H1.out hh)
        rw [hh] at h3
        have hp : (0 : Int) < (L : Int) := of_decide_eq_true h3.symm
        have hown := hI4.own
        clear hh h3
        go_wp2_with (at_builtin; refine wpList_append_own _ rfl _ _ 35 rfl w.heap.size 3 i0 (.int .i64 0) 1 8 Tryd.underlying35 hi0 hq0 hq1 hq2 rfl (by decide) _ _ _ rfl (hown.alloc _) ⟨w4.heap.size, 0, none⟩ 1 1 [.int .i64 ((n : Int) + 4 - s)] rfl rfl ?c1 ?c2 ?c3 ?c4 ?c5 ?_)
        case c1 =>
          intro j u hj
          match j, hj with
          | 0, hj => simp at hj; subst hj; simp [Addr.add]
        case c2 => intro u hu; simp at hu; subst hu; rfl
        case c3 => unfold maxLen; omega
        case c4 => omega
        case c5 => have := hI4.bl.size; simp; omega
        intro v' w5 hown' hgrow _
        have hI5 := hI4.app hown' hgrow
        clear hown' hgrow hown hI4
        go_wp2
        go_roundw
        case rel => exact ⟨n + 1, by omega, by go_num, by rw [HX.out]; exact hI5⟩
        case measure => simp [intOf]; omega
      · rw [Bool.not_eq_true] at hh
        have HX := Lib.hid (H2.out hh)
        rw [hh] at h3
        have hp : L = 0 := by have := of_decide_eq_false h3.symm; omega
        subst hp
        clear hh h3
        go_wp2
        go_roundw
        case rel => exact ⟨n + 1, by omega, by go_num, by rw [HX.out]; exact hI4⟩
        case measure => simp [intOf]; omega
    · have hn4 : n = 4 := by omega
      subst hn4
      have HE := Lib.hid hI2.built
      clear hI2
      go_wp2
      go_ret
      exact HE.out

set_option maxHeartbeats 8000000 in
theorem sModeMoves_any (lo hi : Nat) (v : Value) (xs : List (Int × Bool)) (w : World) (h : TRow w lo hi v xs) :
    Calls Tryd.prog 35 #[v] w (IbMade w (mvI xs)) := by
  rw [← mvS_mvI]
  obtain ⟨i0, hi0, hq0, hq1, hq2⟩ := info_parts infoIb
  have HA := Lib.hid h
  have HS := Lib.hid (IbInv.start w)
  have HM := Lib.hid (fun (n : Nat) => (⟨fun h => mvsS_hit (xs := xs) (n := n) h, fun h => mvsS_miss (xs := xs) (n := n) h⟩ : (mmo xs ((n : Int) - 20) = true → mvsS xs (n + 1) = mvsS xs n ++ [(n : Int) - 20]) ∧ (mmo xs ((n : Int) - 20) = false → mvsS xs (n + 1) = mvsS xs n)))
  clear h
  go_enter Tryd.func35, Tryd.ntmps35
  go_wp2
  go_loopw [3, 4] (fun v i wr => ∃ n : Nat, n ≤ 41 ∧ i = .int .i64 ((n : Int) - 20) ∧ IbInv w wr v (mvsS xs n)) (fun _ i _ => (21 - intOf i).toNat)
  case atStart => exact ⟨0, by omega, rfl, HS.out⟩
  case round =>
    obtain ⟨n, hn, rfl, hinv⟩ := hrel
    by_cases hlt : n < 41
    · have hl : (n : Int) - 20 ≤ 20 := by omega
      have hlen := mvsS_len xs n
      go_wp2_with (fail)
      (go_at_call 58; refine (sMelodyMove_any lo hi _ xs ((n : Int) - 20) _ (HA.out.below hinv.bl (.inr (Nat.le_refl _)))).mono ?_; rintro e w3 ⟨u3, rfl, hu3, hb3⟩)
      have hI3 := hinv.below hb3
      clear hinv hb3
      by_cases hB : mmB ((n : Int) - 20) xs = false
      · have HX := Lib.hid ((HM.out n).2 (by simp [mmo, hB]))
        rw [hB]
        clear hB hu3
        go_wp2
        go_roundw
        case rel => exact ⟨n + 1, by omega, by go_num, by rw [HX.out]; exact hI3⟩
        case measure => simp [intOf]; omega
      rw [Bool.not_eq_false] at hB
      have h3 := mmo_len xs ((n : Int) - 20)
      rw [hB]
      clear hB
      go_wp2_with (fail)
      (go_at_call 27; refine (sModeAll_any _ _ u3 _ _ hu3).mono ?_; rintro e w4 ⟨u4, rfl, hu4, hb4⟩)
      have hI4 := hI3.below hb4
      obtain ⟨L, hL⟩ : ∃ L, (allM (mmL ((n : Int) - 20) xs) 8).length = L := ⟨_, rfl⟩
      obtain ⟨aU, cU, rfl⟩ := hu4.sl hL
      rw [hL] at h3
      clear hu4 hu3 hI3 hb4 hL
      by_cases hh : mmo xs ((n : Int) - 20) = true
      · have HX := Lib.hid ((HM.out n).1 hh)
        rw [hh] at h3
        have hp : (0 : Int) < (L : Int) := of_decide_eq_true h3.symm
        have hown := hI4.own
        clear hh h3
        go_wp2_with (at_builtin; refine wpList_append_own _ rfl _ _ 35 rfl w.heap.size 3 i0 (.int .i64 0) 1 8 Tryd.underlying35 hi0 hq0 hq1 hq2 rfl (by decide) _ _ _ rfl (hown.alloc _) ⟨w4.heap.size, 0, none⟩ 1 1 [.int .i64 ((n : Int) - 20)] rfl rfl ?c1 ?c2 ?c3 ?c4 ?c5 ?_)
        case c1 =>
          intro j u hj
          match j, hj with
          | 0, hj => simp at hj; subst hj; simp [Addr.add]
        case c2 => intro u hu; simp at hu; subst hu; rfl
        case c3 => unfold maxLen; omega
        case c4 => omega
        case c5 => have := hI4.bl.size; simp; omega
        intro v' w5 hown' hgrow _
        have hI5 := hI4.app hown' hgrow
        clear hown' hgrow hown hI4
        go_wp2
        go_roundw
        case rel => exact ⟨n + 1, by omega, by go_num, by rw [HX.out]; exact hI5⟩
        case measure => simp [intOf]; omega
      · rw [Bool.not_eq_true] at hh
        have HX := Lib.hid ((HM.out n).2 hh)
        rw [hh] at h3
        have hp : L = 0 := by have := of_decide_eq_false h3.symm; omega
        subst hp
        clear hh h3
        go_wp2
        go_roundw
        case rel => exact ⟨n + 1, by omega, by go_num, by rw [HX.out]; exact hI4⟩
        case measure => simp [intOf]; omega
    · have hn4 : n = 41 := by omega
      subst hn4
      have HE := Lib.hid hinv.built
      clear hinv
      go_wp2
      go_ret
      exact HE.out
end Go.Proofs.YtmipkodgkldmbaaDoor
