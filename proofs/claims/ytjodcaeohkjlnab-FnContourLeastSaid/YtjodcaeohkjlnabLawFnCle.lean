/-
  The law FnContourLeast: for every two codes, the lowest steps have the contour, and lists of steps have it just where the greatest step is not below theirs.
-/
import Derived.Test.YtjodcaeohkjlnabCd2
import Derived.Test.YtjodcaeohkjlnabCe
import Derived.Test.YtjodcaeohkjlnabSmI
import Derived.Test.YtjodcaeohkjlnabCof
import Derived.Test.YtjodcaeohkjlnabClm
import Derived.Test.YtjodcaeohkjlnabCnI
import Derived.Test.YtjodcaeohkjlnabDrawC
import Derived.Test.YtjodcaeohkjlnabCode
namespace Go.Proofs.Ytjodcaeohkjlnab
open Go.RowKit Go.ChangeShapes Go.WideShapes Go.ChangeAt
set_option maxRecDepth 100000
set_option linter.unusedVariables false

theorem cle_facts {s : ByteArray} (h : cv s = true) : (cls s).length = s.size + 1 ∧ s.size ≤ 23 ∧ (∀ j, j < s.size + 1 → (cls s).getD j 0 = ((lst s.data.toList j : Nat) : Int) ∧ lst s.data.toList j ≤ 23) ∧
    cofS (fun j => ((lst s.data.toList j : Nat) : Int)) s.size = s ∧ mnf (fun j => ((lst s.data.toList j : Nat) : Int)) (s.size + 1) = 0 ∧
    ∀ m : Nat, m ≤ 20 → s.size ≤ 8 → (0 < cmv s (m : Int) ↔ mxf (fun j => ((lst s.data.toList j : Nat) : Int)) (s.size + 1) ≤ (m : Int)) := by
  obtain ⟨hn, ha⟩ := cv_in h
  have hl : s.data.toList.length = s.size := by simp
  obtain ⟨e1, e2⟩ := lst_ends ha
  have e3 := lst_cof ha
  rw [hl] at e1 e2 e3
  refine ⟨by rw [cls_yes h]; simp, hn, fun j hj => ⟨by rw [cls_yes h]; simp [List.getD_eq_getElem?_getD, hj], ?_⟩, ?_, e1, fun m hm h8 => ?_⟩
  · have := lst_le (l := s.data.toList) (k := j) (by omega)
    omega
  · unfold cofS
    rw [e3]
  · rw [cmv_yes h h8 hm]
    exact e2 m

set_option maxHeartbeats 8000000 in
theorem fnContourLeast_walk (a : Option Addr) (n cap : Nat) (a' : Option Addr) (n' cap' : Nat) (w : World) (h : CodeAt w a n) (hc : n ≤ cap) (hcap : cap ≤ maxLen) (hc' : n' ≤ cap') (hcap' : cap' ≤ maxLen) :
    Calls Try.prog 5 #[.slice a n cap, .slice a' n' cap'] w fun e w' => e = .returned (.bool true) ∧ Below w.heap.size w w' := by
  by_cases hn : 1048576 < n
  · have g : (1048576 : Int) < (n : Int) := by omega
    go_enter Try.func5, Try.ntmps5
    go_wp2
    go_ret
    exact ⟨rfl, Below.refl _ _⟩
  have g : decide ((1048576 : Int) < (n : Int)) = false := by simp; omega
  by_cases hn' : 1048576 < n'
  · have g' : (1048576 : Int) < (n' : Int) := by omega
    go_enter Try.func5, Try.ntmps5
    go_wp2
    go_ret
    exact ⟨rfl, Below.refl _ _⟩
  have g' : decide ((1048576 : Int) < (n' : Int)) = false := by simp; omega
  go_enter Try.func5, Try.ntmps5
  go_wp2_with (fail)
  (go_at_call 25; refine (drawContourLeast_any a n cap _ h hc hcap).mono ?_; rintro e w1 ⟨s, rfl, hs11, hb1⟩)
  clear h hc hcap hc' hcap' g g' hn hn'
  have KI := Lib.hid (fun W => contourLeast_any s (by omega) W)
  have KS := Lib.hid (fun W => sContourLeast_any s (by omega) W)
  go_wp2_with (fail)
  (go_at_call 26; refine (KI.out _).mono ?_; rintro e w2 ⟨u, rfl, hr2, hb2⟩)
  go_wp2_with (fail)
  (go_at_call 27; refine (KS.out _).mono ?_; rintro e w3 ⟨u3, rfl, hr3, hb3⟩)
  have c3 := bl_step hb2 hb3
  have bw3 := bl_step hb1 c3
  by_cases hm : cv s = false
  · rw [hm]
    have hx : (cls s).length ≤ 1000000 := by rw [cls_no hm]; simp
    go_wp2_with (fail)
    (go_at_call 28; refine (sameInts_yes _ _ _ _ u u3 _ hx _ (hr2.below hb3 (.inl (Nat.le_refl _))) hr3).mono ?_; rintro e w4 ⟨rfl, hb4⟩)
    go_wp2_with (fail)
    (go_at_call 28; refine (sameInts_yes _ _ _ _ u u3 _ hx _ (hr2.below (bl_step hb3 hb4) (.inl (Nat.le_refl _))) (hr3.below hb4 (.inl (Nat.le_refl _)))).mono ?_; rintro e w5 ⟨rfl, hb5⟩)
    go_wp2
    go_ret
    exact ⟨rfl, bl_step (bl_step bw3 hb4) hb5⟩
  rw [Bool.not_eq_false] at hm
  obtain ⟨hlen, h23, hF, hcf, hmn, hmx⟩ := cle_facts hm
  rw [hm]
  have hx : (cls s).length ≤ 1000000 := by omega
  go_wp2_with (fail)
  (go_at_call 28; refine (sameInts_yes _ _ _ _ u u3 _ hx _ (hr2.below hb3 (.inl (Nat.le_refl _))) hr3).mono ?_; rintro e w4 ⟨rfl, hb4⟩)
  have d4 := bl_step hb3 hb4
  have bw4 := bl_step bw3 hb4
  have hr4 := hr2.below d4 (.inl (Nat.le_refl _))
  obtain ⟨gb, c, rfl, hg0, hg1, hcm, hcn, hF4⟩ := FR.of_irow hr4 (by omega)
  rw [hlen] at hF4 ⊢
  have hgs := hF4.lt
  have HF4 : Hid (FR w4 gb (s.size + 1) c (fun p => ((lst s.data.toList p : Nat) : Int))) := hF4.congr fun p hp => ((hF p hp).1).symm
  have HBD : Hid (∀ p, p < s.size + 1 → 0 ≤ ((lst s.data.toList p : Nat) : Int) ∧ ((lst s.data.toList p : Nat) : Int) ≤ 23) := fun p hp => by have := (hF p hp).2; omega
  have HKC : Hid (∀ W, Below w4.heap.size w4 W → Calls Try.prog 29 #[.slice (some ⟨gb, 0, none⟩) (s.size + 1) c] W fun e w' => e = .returned (.string s) ∧ Below W.heap.size W w') := by
    intro W hW
    have K := contourOf_fr gb (s.size + 1) c _ W (HF4.out.below hW) (by omega)
    rw [Nat.add_sub_cancel, hcf] at K
    exact K
  have HKM := Lib.hid (fun m W => contourMany_any s m W)
  have HCM := Lib.hid hmx
  have HMN := Lib.hid hmn
  have hc0 := hF4.cell (p := 0) (by omega)
  rw [(hF 0 (by omega)).1] at hc0
  clear hr2 hr3 hr4 hF hF4 d4 c3 KI KS hm hx hcf hmn hmx hlen
  obtain ⟨f, hf⟩ : ∃ f : Nat → Int, (fun p => ((lst s.data.toList p : Nat) : Int)) = f := ⟨_, rfl⟩
  have hf' : ∀ p, ((lst s.data.toList p : Nat) : Int) = f p := fun p => by rw [← hf]
  have HBD2 : Hid (∀ p, p < s.size + 1 → 0 ≤ f p ∧ f p ≤ 23) := fun p hp => by have := HBD.out p hp; rw [hf'] at this; exact this
  rw [hf] at HF4 HMN HCM
  rw [hf'] at hc0
  clear HBD hf hf'
  have hsz : IntKind.i64.wrap ((s.size : Int) + 1) = (s.size : Int) + 1 := IntWalk.i64_in _ (by omega)
  have hz0 : (0 : Int) < (s.size : Int) + 1 := by omega
  obtain ⟨m, hm, hm9⟩ : ∃ m : Nat, (n' : Int).tmod 10 = (m : Int) ∧ m ≤ 9 := ⟨n' % 10, by rw [Int.tmod_eq_emod_of_nonneg (by omega)]; rfl, by omega⟩
  have hmw : IntKind.i64.wrap (m : Int) = (m : Int) := IntWalk.i64_in _ (by omega)
  go_wp2
  go_loopw [10, 11, 12] (fun lo hi i wr => ∃ k : Nat, k ≤ s.size + 1 ∧ i = .int .i64 k ∧ lo = .int .i64 (mnf f k) ∧ hi = .int .i64 (mxf f k) ∧ Below w4.heap.size w4 wr) (fun _ _ i _ => s.size + 1 - (intOf i).toNat)
  case atStart => exact ⟨0, Nat.zero_le _, rfl, rfl, rfl, by first | exact Below.refl _ _ | exact ⟨rfl, rfl, rfl, Nat.le_refl _, fun _ _ _ => rfl⟩⟩
  case round =>
    obtain ⟨k, hk, rfl, rfl, rfl, hb⟩ := hrel
    by_cases hlt : k < s.size + 1
    · have e0 := (HF4.out.below hb).cell (p := k) hlt
      have hk0 : (0 : Int) ≤ (k : Int) := by omega
      have hk1 : (k : Int) < (s.size : Int) + 1 := by omega
      have M1 : Hid (mnf f (k + 1) = if f k < mnf f k then f k else mnf f k) := rfl
      have M2 : Hid (mxf f (k + 1) = if mxf f k < f k then f k else mxf f k) := rfl
      generalize mnf f k = lo at M1
      generalize mxf f k = hi at M2
      generalize f k = x at e0 M1 M2
      go_wp2
      go_roundw
      case rel => exact ⟨k + 1, by omega, by go_num, by rw [M1.out]; first | rfl | (simp; done) | (simp; split <;> omega), by rw [M2.out]; first | rfl | (simp; done) | (simp; split <;> omega), hb⟩
      case measure => simp [intOf]; omega
    · have hke : k = s.size + 1 := by omega
      subst hke
      rw [HMN.out]
      have hss : (s.toList == s.toList) = true := by simp
      have HC := Lib.hid (fun h8 => HCM.out m (by omega) h8)
      generalize mxf f (s.size + 1) = H at HC ⊢
      go_wp2_with (fail)
      (go_at_call 29; refine (HKC.out _ hb).mono ?_; rintro e w5 ⟨rfl, hb5⟩)
      have bw5 := bl_step (bl_step bw4 hb) hb5
      by_cases h8 : 8 < s.size
      · have g8 : (8 : Int) < (s.size : Int) := by omega
        go_wp2
        go_ret
        exact ⟨rfl, bw5⟩
      have g8 : decide ((8 : Int) < (s.size : Int)) = false := by simp; omega
      have hq := HC.out (by omega)
      have KM := Lib.hid (fun W => HKM.out (m : Int) W)
      generalize cmv s (m : Int) = z at hq KM
      by_cases hp : 0 < z
      · have hH : H ≤ (m : Int) := hq.1 hp
        clear hq h8
        go_wp2_with (fail)
        (go_at_call 22; refine (KM.out _).mono ?_; rintro e w6 ⟨rfl, hb6⟩)
        go_wp2
        go_ret
        exact ⟨rfl, bl_step bw5 hb6⟩
      · have hH : decide (H ≤ (m : Int)) = false := by rw [decide_eq_false_iff_not]; exact fun e => hp (hq.2 e)
        have hp' : decide (0 < z) = false := by simp; omega
        clear hq h8
        go_wp2_with (fail)
        (go_at_call 22; refine (KM.out _).mono ?_; rintro e w6 ⟨rfl, hb6⟩)
        go_wp2
        go_ret
        exact ⟨rfl, bl_step bw5 hb6⟩

set_option maxRecDepth 100000 in
theorem fnContourLeast_lifted (os : Os) (started : os.Started) (H : Type) (enc : TypeId × Value → H) :
    ReturnsInHanded {} Try.checked os 5 .any (Rows.fnContourLeastSpec.pre6 enc Try.prog Try.f5 Rows.fnContourLeastRow.domain false) (Rows.fnContourLeastSpec.post enc Try.prog Try.f5 false true false false) := by
  refine returnsInHanded_of_change (C := Try.checked) own started (by kernel_rfl) Try.func5
    (ChangeSpec.witness6 (enc := enc) (C := Try.checked) false ⟨#[], #[.slice none 0 0, .slice none 0 0], []⟩ 8 (by kernel_rfl) (by kernel_rfl) (by kernel_rfl) (by kernel_rfl)) ?_
  intro W base args ds gs before hval0 hW _ _
  have hval : ∀ (j : Nat) t v, Try.f5.params[j]? = some t → args[j]? = some v → Value.okWide Try.prog W .any base t v := hval0
  have hW' := hW
  obtain ⟨p, q, hA0, hV, rfl, _, _⟩ := hW
  have hA : DataW.TrodAll enc Try.prog W 0 (fun _ => true) true Try.f5.params.toList args.toList ds p := hA0
  rw [Try.params5] at hA hval
  obtain ⟨v0, vs0, d0, ds0, p0, q0, hargs, rfl, rfl, h0, r0⟩ := trodAll_cons hA
  obtain ⟨v1, vs1, d1, ds1, p1, q1, rfl, rfl, rfl, h1, r1⟩ := trodAll_cons r0
  obtain ⟨rfl, rfl, rfl⟩ := trodAll_nil r1
  obtain rfl : args = #[v0, v1] := by cases args; simp_all
  obtain ⟨rfl, rfl⟩ := trodVars_none hV
  obtain ⟨a0, n0, c0, rfl⟩ := okWide_slice Try.underlying22 (hval 0 22 v0 rfl rfl)
  have k0 := h0
  have lt0 : ∀ x ∈ p0, x.block < W.heap.size := by obtain ⟨m, hm⟩ := k0; exact DataW.trod_lt m _ _ _ hm
  have y0 := code_in h0
  obtain ⟨a1, n1, c1, rfl⟩ := okWide_slice Try.underlying22 (hval 1 22 v1 rfl rfl)
  have k1 := h1
  have lt1 : ∀ x ∈ p1, x.block < W.heap.size := by obtain ⟨m, hm⟩ := k1; exact DataW.trod_lt m _ _ _ hm
  have y1 := code_in h1
  clear hA0 hval0
  refine (fnContourLeast_walk a0 n0 c0 a1 n1 c1 W y0.1 y0.2.1 y0.2.2 y1.2.1 y1.2.2).mono fun e W' ⟨he, hb⟩ => ?_
  subst he
  exact ⟨_, rfl, _, _, _, [], _, [], hW', trodAll_cons_mk (shut_bool Try.underlying4 _) trodAll_mk0, trodAll_cons_mk (Below.trod laidOut (by kernel_rfl) (of_decide_eq_true (by kernel_rfl)) k0 hb lt0) (trodAll_cons_mk (Below.trod laidOut (by kernel_rfl) (of_decide_eq_true (by kernel_rfl)) k1 hb lt1) (trodAll_mk0)), rfl, hb.frame _, fun h => by cases h⟩

theorem fnContourLeast_holds : Rows.FnContourLeastSaid :=
  OpenClaim.holds_of_wide 5 Try.f5 rfl rfl rfl rfl rfl rfl rfl ⟨rfl, rfl, rfl, rfl, rfl⟩ rfl rfl rfl rfl rfl (by kernel_rfl) Try.func5 (by kernel_rfl)
    (of_decide_eq_true (by kernel_rfl)) (by unfold Func.isWrapper; first | (rw [if_pos (by decide +kernel)]; kernel_rfl) | (rw [if_neg (by decide +kernel)]; exact ⟨rfl, rfl⟩))
    (fun os started H enc _ => fnContourLeast_lifted os started H enc)

end Go.Proofs.Ytjodcaeohkjlnab
