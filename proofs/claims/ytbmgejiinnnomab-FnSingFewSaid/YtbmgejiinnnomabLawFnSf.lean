/-
  The law FnSingFew: for every code, the best list has no mutation exactly if one hexachord has all tones, and at least one less than it has different steps.
-/
import Derived.Test.YtbmgejiinnnomabLawFnSb
import Derived.Test.YtbmgejiinnnomabSbf
namespace Go.Proofs.Ytbmgejiinnnomab
open Go.RowKit Go.ChangeShapes Go.WideShapes Go.ChangeAt
set_option maxRecDepth 100000
set_option linter.unusedVariables false

set_option maxHeartbeats 8000000 in
theorem fnSingFew_walk (a : Option Addr) (n cap : Nat) (w : World) (h : CodeAt w a n) (hc : n ≤ cap) (hcap : cap ≤ maxLen) :
    Calls Try.prog 4 #[.slice a n cap] w fun e w' => e = .returned (.bool true) ∧ Below w.heap.size w w' := by
  by_cases hn : 1048576 < n
  · have g : (1048576 : Int) < (n : Int) := by omega
    go_enter Try.func4, Try.ntmps4
    go_wp2
    go_ret
    exact ⟨rfl, Below.refl _ _⟩
  have g : decide ((1048576 : Int) < (n : Int)) = false := by simp; omega
  go_enter Try.func4, Try.ntmps4
  go_wp2_with (fail)
  (go_at_call 7; refine (drawSingBest_any a n cap _ h hc hcap).mono ?_; rintro e w1 ⟨v, xs, rfl, hr1, hx9, hb1⟩)
  clear h hc hcap g hn
  have hle := sbL_len xs
  go_wp2_with (fail)
  (go_at_call 8; refine (singBest_any _ _ v xs _ hr1).mono ?_; rintro e w2 ⟨u, rfl, hu, hb2⟩)
  have hr2 := hr1.below hb2 (.inl (Nat.le_refl _))
  have hbw2 := bl_step hb1 hb2
  clear hr1
  go_wp2_with (fail)
  (go_at_call 9; refine (sSingBest_any _ _ v xs _ hr2).mono ?_; rintro e w3 ⟨u', rfl, hu', hb3⟩)
  have hr3 := hr2.below hb3 (.inl hb2.size)
  have hu3 := hu.below hb3 (.inl (Nat.le_refl _))
  have hbw3 := bl_step hbw2 hb3
  clear hr2 hu
  go_wp2_with (fail)
  (go_at_call 10; refine (sameInts_yes _ _ _ _ u u' (sbL xs) (by omega) _ hu3 hu').mono ?_; rintro e w4 ⟨rfl, hb4⟩)
  have hr4 := hr3.below hb4 (.inl (Nat.le_trans hb2.size hb3.size))
  have hu4 := hu3.below hb4 (.inl hb3.size)
  have hu4' := hu'.below hb4 (.inl (Nat.le_refl _))
  have hbw4 := bl_step hbw3 hb4
  clear hr3 hu3 hu'
  by_cases ho : sbB xs = false
  · rw [ho]
    go_wp2_with (fail)
    (go_at_call 10; refine (sameInts_yes _ _ _ _ u u' (sbL xs) (by omega) _ hu4 hu4').mono ?_; rintro e w5 ⟨rfl, hb5⟩)
    have HE := Lib.hid (bl_step hbw4 hb5)
    clear hr4 hu4 hu4'
    go_wp2
    go_ret
    exact ⟨by first | rfl | simp, HE.out⟩
  rw [Bool.not_eq_false] at ho
  rw [ho]
  obtain ⟨hmv, hgo⟩ : mv xs = true ∧ sgo xs = true := by simpa [sbB] using ho
  rw [(sb_yes hmv hgo).1] at hle hu4 hu4'
  have hsg := sgb_sings hgo
  have hL := sings_len hsg
  have hN := sings_smu hmv hsg
  have hFz := few_zero hgo
  have hDf : (dif (sgb xs) (sgb xs).length : Int) ≤ (chs (sgb xs) : Int) + 1 := by
    rw [← mutTo_chs]
    cases hl : (sgb xs).length with
    | zero => simp [dif, mutTo]
    | succ n => exact dif_le _ n
  have HN := Lib.hid hN
  have HFz := Lib.hid hFz
  have HDf := Lib.hid hDf
  clear hN hsg ho hmv hgo hu4' hFz hDf
  generalize sgb xs = S at hle hu4 hL HN HFz HDf
  obtain ⟨va, vc, rfl, hat⟩ := hr4.at_
  obtain ⟨ua, uc, rfl⟩ := hu4.sl rfl
  have HAt := Lib.hid hat
  have HIu := Lib.hid (IAt.of hu4)
  have HR := Lib.hid hr4
  have HU := Lib.hid hu4
  have HL := Lib.hid hL
  have hw24 : w2.heap.size ≤ w4.heap.size := by have := hb3.size; have := hb4.size; omega
  have hw14 : w1.heap.size ≤ w4.heap.size := by have := hb2.size; omega
  clear hat hr4 hu4 hL hb2 hb3 hb4 hbw2 hbw3
  have HB0 := Lib.hid (Below.refl w4.heap.size w4)
  have H00 : Hid (Value.bool ((xs.length : Int) == 0) = .bool (comm xs 0)) := by
    show Value.bool ((xs.length : Int) == 0) = .bool (comm xs 0)
    have : ((xs.length : Int) == 0) = (xs.length == 0) := by rw [Bool.eq_iff_iff, beq_iff_eq, beq_iff_eq]; omega
    simp [comm, this]
  have HA0 : Hid (∀ k, Value.bool (decide ((0 : Int) < (xs.length : Int))) = .bool (allIn xs k 0)) := fun k => by
    simp [allIn]
  go_wp2
  go_loopg [8, 9] 21 (fun k c z wr => ∃ m : Nat, m + k = 21 ∧ z = .int .i64 (m : Int) ∧ c = .bool (comm xs m) ∧ Below w4.heap.size w4 wr)
  case atStart => exact ⟨0, by omega, rfl, by first | exact H00.out | simpa using H00.out, HB0.out⟩
  case round =>
    obtain ⟨m, hm, rfl, rfl, hb⟩ := hrel
    have HM := Lib.hid hm
    have HB := Lib.hid hb
    clear hm hb
    by_cases hm21 : m < 21
    · have q1 : (m : Int) < 21 := by omega
      have q2 : (m : Int) ≤ 20 := by omega
      go_wp2
      go_loopg [10, 11] xs.length (fun k c z wx => ∃ j : Nat, j + k = xs.length ∧ z = .int .i64 (j : Int) ∧ c = .bool (allIn xs m j) ∧ Below w4.heap.size w4 wx)
      case atStart => exact ⟨0, by omega, rfl, by first | exact HA0.out m | simpa using HA0.out m, HB.out⟩
      case round =>
        obtain ⟨j, hj, rfl, rfl, hbx⟩ := hrel
        have HJ := Lib.hid hj
        have HBx := Lib.hid hbx
        by_cases hlt : j < xs.length
        · obtain ⟨s, b, ht, _⟩ := drop_at hlt
          obtain ⟨g, rfl, hgs, e1, e2⟩ := HAt.out j s b ht
          replace e1 := (hbx.cell (p := ⟨g, j * 2, none⟩) hgs).trans e1
          replace e2 := (hbx.cell (p := ⟨g, j * 2 + 1, none⟩) hgs).trans e2
          have hs := allIn_snoc (k := m) ht
          have p0 : (0 : Int) ≤ (j : Int) := by omega
          have p1 : (j : Int) < (xs.length : Int) := by omega
          clear hj hbx ht
          cases ha : allIn xs m j with
          | false =>
            have HE : Hid (allIn xs m (j + 1) = false) := by rw [hs, ha]; rfl
            clear hs ha
            go_wp2
            have hj := HJ.out
            go_roundg (gk - 1)
            case measure => omega
            case rel => exact ⟨j + 1, by omega, by simp, by rw [HE.out], HBx.out⟩
          | true =>
            have HE : Hid (allIn xs m (j + 1) = decide (0 ≤ hsy m s b)) := by rw [hs, ha]; rfl
            clear hs ha
            go_wp2_with (fail)
            (go_at_call 13; refine (hexSyllable_any m s b _).mono ?_; rintro e w6 ⟨rfl, hb6⟩)
            have HB6 := Lib.hid (bl_step HBx.out hb6)
            clear e1 e2 hb6
            go_wp2
            have hj := HJ.out
            go_roundg (gk - 1)
            case measure => omega
            case rel => exact ⟨j + 1, by omega, by simp, by rw [HE.out], HB6.out⟩
        · have hj0 : j = xs.length := by omega
          subst hj0
          have hs := comm_snoc xs m
          clear hj hbx
          cases hc : comm xs m with
          | false =>
            have HE : Hid (comm xs (m + 1) = allIn xs m xs.length) := by rw [hs, hc]; rfl
            clear hs hc
            go_wp2
            have hm := HM.out
            go_roundg (20 - m)
            case measure => omega
            case rel => exact ⟨m + 1, by omega, by simp, by rw [HE.out], HBx.out⟩
          | true =>
            have HE : Hid (comm xs (m + 1) = true) := by rw [hs, hc]; rfl
            clear hs hc
            go_wp2
            have hm := HM.out
            go_roundg (20 - m)
            case measure => omega
            case rel => exact ⟨m + 1, by omega, by simp, by rw [HE.out], HBx.out⟩
    · have hm0 : m = 21 := by have := HM.out; omega
      subst hm0
      obtain ⟨C, hC⟩ : ∃ C, comm xs 21 = C := ⟨_, rfl⟩
      have HC := Lib.hid hC
      rw [hC]
      clear hC
      go_wp2
      go_loopg [12, 13] S.length (fun k c z wx => ∃ i : Nat, i + k = S.length ∧ z = .int .i64 (i : Int) ∧ c = .int .i64 (dif S i : Int) ∧ Below w4.heap.size w4 wx)
      case atStart => exact ⟨0, by omega, rfl, rfl, HB.out⟩
      case round =>
        obtain ⟨i, hi, rfl, rfl, hbx⟩ := hrel
        have HI := Lib.hid hi
        have HBx := Lib.hid hbx
        clear hbx hi
        by_cases hlt : i < S.length
        · obtain ⟨x, hx⟩ : ∃ x, S[i]? = some x := ⟨_, List.getElem?_eq_getElem hlt⟩
          have hxd : S.getD i 0 = x := by rw [List.getD_eq_getElem?_getD, hx]; rfl
          obtain ⟨g, rfl, hgs, cx⟩ := HIu.out.cell hx
          have p0 : (0 : Int) ≤ (i : Int) := by omega
          have p1 : (i : Int) < (S.length : Int) := by omega
          have HXd := Lib.hid hxd
          clear hx hxd
          go_wp2
          go_loopg [14, 15] i (fun k c z wy => ∃ j : Nat, j + k = i ∧ z = .int .i64 (j : Int) ∧ c = .bool (isnew S i j) ∧ Below w4.heap.size w4 wy)
          case atStart => exact ⟨0, by omega, rfl, rfl, HBx.out⟩
          case round =>
            obtain ⟨j, hj, rfl, rfl, hby⟩ := hrel
            have HJ := Lib.hid hj
            have HBy := Lib.hid hby
            clear hj hby
            by_cases hji : j < i
            · obtain ⟨y, hy⟩ : ∃ y, S[j]? = some y := ⟨_, List.getElem?_eq_getElem (by omega)⟩
              have hyd : S.getD j 0 = y := by rw [List.getD_eq_getElem?_getD, hy]; rfl
              obtain ⟨g2, hg2, hgs2, cy⟩ := HIu.out.cell hy
              cases hg2
              have hs := isnew_snoc S i j
              rw [HXd.out, hyd] at hs
              replace cy := (HBy.out.cell (p := ⟨g, j, none⟩) hgs2).trans cy
              have cx' := (HBy.out.cell (p := ⟨g, i, none⟩) hgs).trans cx
              have r0 : (0 : Int) ≤ (j : Int) := by omega
              have r1 : (j : Int) < (i : Int) := by omega
              have r2 : (j : Int) < (S.length : Int) := by omega
              have HBn := Lib.hid (fun n => bl_drewN5 HBy.out n)
              clear hy hyd
              cases ha : isnew S i j with
              | false =>
                have HE : Hid (isnew S i (j + 1) = false) := by rw [hs, ha]; rfl
                clear hs ha
                go_wp2
                go_quiet (fail)
                go_wp2
                have hj := HJ.out
                go_roundg (gk - 1)
                case measure => omega
                case rel => exact ⟨j + 1, by omega, by simp, by rw [HE.out], HBn.out _⟩
              | true =>
                have HE : Hid (isnew S i (j + 1) = (y != x)) := by rw [hs, ha]; rfl
                clear hs ha
                go_wp2
                go_quiet (fail)
                go_wp2
                have hj := HJ.out
                go_roundg (gk - 1)
                case measure => omega
                case rel => exact ⟨j + 1, by omega, by simp, by rw [HE.out], HBn.out _⟩
            · have hj0 : j = i := by have := HJ.out; omega
              subst hj0
              have hlm := dif_lim S j
              have mw : IntKind.i64.wrap ((dif S j : Int) + 1) = (dif S j : Int) + 1 := IntWalk.i64_in _ (by omega)
              cases ha : isnew S j j with
              | false =>
                have HE : Hid ((dif S j : Int) = (dif S (j + 1) : Int)) := by rw [dif_no ha]; rfl
                clear ha hlm
                go_wp2
                have hi := HI.out
                go_roundg (S.length - j - 1)
                case measure => omega
                case rel => exact ⟨j + 1, by omega, by simp, by rw [HE.out], HBy.out⟩
              | true =>
                have HE : Hid ((dif S j : Int) + 1 = (dif S (j + 1) : Int)) := by rw [dif_yes ha]; rfl
                clear ha hlm
                go_wp2
                have hi := HI.out
                go_roundg (S.length - j - 1)
                case measure => omega
                case rel => exact ⟨j + 1, by omega, by simp, by rw [HE.out], HBy.out⟩
        · have hi0 : i = S.length := by have := HI.out; omega
          subst hi0
          have hlm := dif_lim S S.length
          go_wp2_with (fail)
          (go_at_call 11; refine (singMutations_any _ _ _ _ _ _ xs S _ (HR.out.below HBx.out (.inl hw14)) (HU.out.below HBx.out (.inl hw24))).mono ?_; rintro e w7 ⟨rfl, hb7⟩)
          rw [HN.out]
          have h1 := HFz.out
          rw [HC.out] at h1
          have h2 := HDf.out
          have HE := Lib.hid (bl_step hbw4 (bl_step HBx.out hb7))
          generalize chs S = N at h1 h2
          generalize dif S S.length = D at h2 hlm
          have mw : IntKind.i64.wrap ((D : Int) - 1) = (D : Int) - 1 := IntWalk.i64_in _ (by omega)
          have hge : (D : Int) - 1 ≤ (N : Int) := by omega
          clear hb7 h2 hlm
          subst h1
          go_wp2
          go_ret
          exact ⟨by first | rfl | simp, HE.out⟩

set_option maxRecDepth 100000 in
theorem fnSingFew_lifted (os : Os) (started : os.Started) (H : Type) (enc : TypeId × Value → H) :
    ReturnsInHanded {} Try.checked os 4 .any (Rows.fnSingFewSpec.pre6 enc Try.prog Try.f4 Rows.fnSingFewRow.domain false) (Rows.fnSingFewSpec.post enc Try.prog Try.f4 false true false false) := by
  refine returnsInHanded_of_change (C := Try.checked) own started (by kernel_rfl) Try.func4
    (ChangeSpec.witness6 (enc := enc) (C := Try.checked) false ⟨#[], #[.slice none 0 0], []⟩ 8 (by kernel_rfl) (by kernel_rfl) (by kernel_rfl) (by kernel_rfl)) ?_
  intro W base args ds gs before hval0 hW _ _
  have hval : ∀ (j : Nat) t v, Try.f4.params[j]? = some t → args[j]? = some v → Value.okWide Try.prog W .any base t v := hval0
  have hW' := hW
  obtain ⟨p, q, hA0, hV, rfl, _, _⟩ := hW
  have hA : DataW.TrodAll enc Try.prog W 0 (fun _ => true) true Try.f4.params.toList args.toList ds p := hA0
  rw [Try.params4] at hA hval
  obtain ⟨v0, vs0, d0, ds0, p0, q0, hargs, rfl, rfl, h0, r0⟩ := trodAll_cons hA
  obtain ⟨rfl, rfl, rfl⟩ := trodAll_nil r0
  obtain rfl : args = #[v0] := by cases args; simp_all
  obtain ⟨rfl, rfl⟩ := trodVars_none hV
  obtain ⟨a0, n0, c0, rfl⟩ := okWide_slice Try.underlying22 (hval 0 22 v0 rfl rfl)
  have k0 := h0
  have lt0 : ∀ x ∈ p0, x.block < W.heap.size := by obtain ⟨m, hm⟩ := k0; exact DataW.trod_lt m _ _ _ hm
  have y0 := code_in h0
  clear hA0 hval0
  refine (fnSingFew_walk a0 n0 c0 W y0.1 y0.2.1 y0.2.2).mono fun e W' ⟨he, hb⟩ => ?_
  subst he
  exact ⟨_, rfl, _, _, _, [], _, [], hW', trodAll_cons_mk (shut_bool Try.underlying4 _) trodAll_mk0, trodAll_cons_mk (Below.trod laidOut (by kernel_rfl) (of_decide_eq_true (by kernel_rfl)) k0 hb lt0) (trodAll_mk0), rfl, hb.frame _, fun h => by cases h⟩

theorem fnSingFew_holds : Rows.FnSingFewSaid :=
  OpenClaim.holds_of_wide 4 Try.f4 rfl rfl rfl rfl rfl rfl rfl ⟨rfl, rfl, rfl, rfl, rfl⟩ rfl rfl rfl rfl rfl (by kernel_rfl) Try.func4 (by kernel_rfl)
    (of_decide_eq_true (by kernel_rfl)) (by unfold Func.isWrapper; first | (rw [if_pos (by decide +kernel)]; kernel_rfl) | (rw [if_neg (by decide +kernel)]; exact ⟨rfl, rfl⟩))
    (fun os started H enc _ => fnSingFew_lifted os started H enc)

end Go.Proofs.Ytbmgejiinnnomab
