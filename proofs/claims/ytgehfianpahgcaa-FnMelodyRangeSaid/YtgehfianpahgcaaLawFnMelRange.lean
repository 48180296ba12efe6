/-
  The law FnMelodyRange: for every code, the ends are ends, and those of the melody turned.
-/
import Derived.Test.YtgehfianpahgcaaCode
import Derived.Test.YtgehfianpahgcaaDrawM2
namespace Go.Proofs.Ytgehfianpahgcaa
open Go.RowKit Go.ChangeShapes Go.WideShapes Go.ChangeAt
set_option maxRecDepth 100000
set_option linter.unusedVariables false

set_option maxHeartbeats 4000000 in
theorem fnMelodyRange_walk (a : Option Addr) (n cap : Nat) (w : World) (h : CodeAt w a n) (hc : n ≤ cap) (hcap : cap ≤ maxLen) :
    Calls Try.prog 4 #[.slice a n cap] w fun e w' => e = .returned (.bool true) ∧ Below w.heap.size w w' := by
  by_cases hn : 1048576 < n
  · have g : (1048576 : Int) < (n : Int) := by omega
    go_enter Try.func4, Try.ntmps4
    go_wp2
    go_ret
    exact ⟨rfl, Below.refl _ _⟩
  have g : decide ((1048576 : Int) < (n : Int)) = false := by simp; omega
  go_enter Try.func4, Try.ntmps4
  go_wp2_with (fail)
  (go_at_call 12; refine (drawMelodyRange_any a n cap _ h hc hcap).mono ?_; rintro e w1 ⟨v, xs, rfl, hr1, hx9, hb1⟩)
  clear h hc hcap g hn
  go_wp2_with (fail)
  (go_at_call 13; refine (melodyRange_any _ _ v xs _ hr1).mono ?_; rintro e w2 ⟨rfl, hb2⟩)
  have hr2 := hr1.below hb2 (.inl (Nat.le_refl _))
  have hbw2 := bl_step hb1 hb2
  clear hr1
  go_wp2_with (fail)
  (go_at_call 14; refine (sMelodyRange_any _ _ v xs _ hr2).mono ?_; rintro e w3 ⟨rfl, hb3⟩)
  have hr3 := hr2.below hb3 (.inl hb2.size)
  have hbw3 := bl_step hbw2 hb3
  clear hr2
  by_cases ho : rgOk xs = false
  · rw [ho]
    clear hr3
    generalize rgL xs = L
    generalize rgH xs = H
    go_wp2
    go_ret
    exact ⟨by first | rfl | simp, by first | exact hbw3 | exact bl_drewN' hbw3 _⟩
  rw [Bool.not_eq_false] at ho
  obtain ⟨hm, hne, hin, ⟨t1, m1, q1⟩, ⟨t2, m2, q2⟩⟩ := rg_facts ho
  have a1 : anyS (rgL xs) xs = true := anyS_yes m1 q1
  have a2 : anyS (rgH xs) xs = true := anyS_yes m2 q2
  obtain ⟨r1, r2⟩ := rg_rev ho
  have r3 := rgOk_rev ho
  rcases hr3.form with ⟨_, hz⟩ | ⟨gb, cp, rfl, hg, hg2, hgs, hcap, hmax, hc⟩
  · exact absurd hz hne
  have KB := Lib.hid (fun W (hW : TRow W w.heap.size w1.heap.size (.slice (some ⟨gb, 0, none⟩) xs.length cp) xs) => melodyBack_any _ _ _ xs W hW)
  rw [mvl_yes hm, hm] at KB
  have KR := Lib.hid (fun lo hi u W (hW : TRow W lo hi u xs.reverse) => melodyRange_any lo hi u xs.reverse W hW)
  unfold Rng at KR
  rw [r1, r2, r3] at KR
  have HC := Lib.hid hc
  have HI := Lib.hid (fun i t (hi : xs[i]? = some t) => hin t (List.mem_of_getElem? hi))
  have HR := Lib.hid hr3
  have A1 := Lib.hid a1
  have A2 := Lib.hid a2
  have hx8 : xs.length < 9223372036854775807 := by omega
  rw [ho]
  clear hr3 hc hin m1 q1 m2 q2 a1 a2 r1 r2 r3 ho hm hne
  generalize rgL xs = L at KR HI A1
  generalize rgH xs = H at KR HI A2
  go_wp2
  go_loopw [10, 11, 12] (fun x y i wr => ∃ k : Nat, k ≤ xs.length ∧ i = .int .i64 k ∧ x = .bool (anyS L (xs.take k)) ∧ y = .bool (anyS H (xs.take k)) ∧ Below w3.heap.size w3 wr) (fun _ _ i _ => xs.length - (intOf i).toNat)
  case atStart => exact ⟨0, Nat.zero_le _, rfl, rfl, rfl, by first | exact Below.refl _ _ | exact bl_drewN' (Below.refl _ _) _⟩
  case round =>
    obtain ⟨k, hk, rfl, rfl, rfl, hb⟩ := hrel
    by_cases hlt : k < xs.length
    · have ht : xs[k]? = some xs[k] := List.getElem?_eq_getElem hlt
      have HX : Hid (anyS L (xs.take (k + 1)) = (anyS L (xs.take k) || xs[k].1 == L)) := anyS_snoc ht
      have HY : Hid (anyS H (xs.take (k + 1)) = (anyS H (xs.take k) || xs[k].1 == H)) := anyS_snoc ht
      have e1 := (hb.cell (p := ⟨gb, k * 2, none⟩) hgs).trans (HC.out k _ ht).1
      obtain ⟨i1, i2⟩ := HI.out k _ ht
      have hk0 : (0 : Int) ≤ (k : Int) := by omega
      have hk1 : (k : Int) < (xs.length : Int) := by omega
      clear ht
      generalize xs[k].1 = s at e1 HX HY i1 i2
      have d1 : decide (s < L) = false := by simpa using i1
      have d2 : decide (H < s) = false := by simpa using i2
      clear i1 i2
      generalize anyS L (xs.take k) = x at HX
      generalize anyS H (xs.take k) = y at HY
      cases x <;> cases y
      all_goals
        go_wp2
        all_goals
          go_roundw
          case rel => exact ⟨k + 1, by omega, by go_num, by rw [HX.out]; simp, by rw [HY.out]; simp, hb⟩
          case measure => simp [intOf]; omega
    · have hk0 : k = xs.length := by omega
      subst hk0
      have hgl : Below w.heap.size w wr := bl_step hbw3 hb
      rw [List.take_length, A1.out, A2.out]
      go_wp2_with (fail)
      (go_at_call 15; refine (KB.out _ (HR.out.below hb (.inl (by have := hb2.size; have := hb3.size; omega)))).mono ?_; rintro e w4 ⟨u, rfl, hr4, hb4⟩)
      have hbw4 := bl_step hgl hb4
      go_wp2_with (fail)
      (go_at_call 13; refine (KR.out _ _ u _ hr4).mono ?_; rintro e w5 ⟨rfl, hb5⟩)
      have hbw5 := bl_step hbw4 hb5
      clear hr4
      go_wp2
      go_ret
      exact ⟨by first | rfl | simp, by first | exact hbw5 | exact bl_drewN' hbw5 _⟩

set_option maxRecDepth 100000 in
theorem fnMelodyRange_lifted (os : Os) (started : os.Started) (H : Type) (enc : TypeId × Value → H) :
    ReturnsInHanded {} Try.checked os 4 .any (Rows.fnMelodyRangeSpec.pre6 enc Try.prog Try.f4 Rows.fnMelodyRangeRow.domain false) (Rows.fnMelodyRangeSpec.post enc Try.prog Try.f4 false true false false) := by
  refine returnsInHanded_of_change (C := Try.checked) own started (by kernel_rfl) Try.func4
    (ChangeSpec.witness6 (enc := enc) (C := Try.checked) false ⟨#[], #[.slice none 0 0], []⟩ 8 (by kernel_rfl) (by kernel_rfl) (by kernel_rfl) (by kernel_rfl)) ?_
  intro W base args ds gs before hval0 hW _ _
  have hval : ∀ (j : Nat) t v, Try.f4.params[j]? = some t → args[j]? = some v → Value.okWide Try.prog W .any base t v := hval0
  have hW' := hW
  obtain ⟨p, q, hA0, hV, rfl, _, _⟩ := hW
  have hA : DataW.TrodAll enc Try.prog W 0 (fun _ => true) true Try.f4.params.toList args.toList ds p := hA0
  rw [Try.params4] at hA hval
  obtain ⟨v0, vs0, d0, ds0, p0, q0, hargs, rfl, rfl, h0, r0⟩ := trodAll_cons hA
  obtain ⟨rfl, rfl, rfl⟩ := trodAll_nil r0
  obtain rfl : args = #[v0] := by cases args; simp_all
  obtain ⟨rfl, rfl⟩ := trodVars_none hV
  obtain ⟨a0, n0, c0, rfl⟩ := okWide_slice Try.underlying28 (hval 0 28 v0 rfl rfl)
  have k0 := h0
  have lt0 : ∀ x ∈ p0, x.block < W.heap.size := by obtain ⟨m, hm⟩ := k0; exact DataW.trod_lt m _ _ _ hm
  have y0 := code_in h0
  clear hA0 hval0
  refine (fnMelodyRange_walk a0 n0 c0 W y0.1 y0.2.1 y0.2.2).mono fun e W' ⟨he, hb⟩ => ?_
  subst he
  exact ⟨_, rfl, _, _, _, [], _, [], hW', trodAll_cons_mk (shut_bool Try.underlying4 _) trodAll_mk0, trodAll_cons_mk (Below.trod laidOut (by kernel_rfl) (of_decide_eq_true (by kernel_rfl)) k0 hb lt0) (trodAll_mk0), rfl, hb.frame _, fun h => by cases h⟩

theorem fnMelodyRange_holds : Rows.FnMelodyRangeSaid :=
  OpenClaim.holds_of_wide 4 Try.f4 rfl rfl rfl rfl rfl rfl rfl ⟨rfl, rfl, rfl, rfl, rfl⟩ rfl rfl rfl rfl rfl (by kernel_rfl) Try.func4 (by kernel_rfl)
    (of_decide_eq_true (by kernel_rfl)) (by unfold Func.isWrapper; first | (rw [if_pos (by decide +kernel)]; kernel_rfl) | (rw [if_neg (by decide +kernel)]; exact ⟨rfl, rfl⟩))
    (fun os started H enc _ => fnMelodyRange_lifted os started H enc)

end Go.Proofs.Ytgehfianpahgcaa
