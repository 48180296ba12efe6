/-
  The law FnSingMany: for every code, as many lists sing the melody as the product of the numbers of hexachords says, and one is the best exactly if there is any.
-/
import Derived.Test.YtbmgejiinnnomabCode
import Derived.Test.YtbmgejiinnnomabDrawM
import Derived.Test.YtbmgejiinnnomabSing2
import Derived.Test.YtbmgejiinnnomabSg7
namespace Go.Proofs.Ytbmgejiinnnomab
open Go.RowKit Go.ChangeShapes Go.WideShapes Go.ChangeAt
set_option maxRecDepth 100000
set_option linter.unusedVariables false

def DrewSm (most : Nat) (w : World) (e : Ending) (w' : World) : Prop :=
  ∃ v xs, e = .returned v ∧ TRow w' w.heap.size w'.heap.size v xs ∧ xs.length ≤ most ∧ Below w.heap.size w w'
theorem drewSm {B A q most : Nat} {w w1 w2 : World} {v : Value} {xs : List (Int × Bool)} (h : DmInv w1 w2 B A q v xs) (hl : xs.length ≤ most) (hb : Below w.heap.size w w1) (hB : w.heap.size ≤ B) : DrewSm most w (.returned v) w2 :=
  ⟨v, xs, rfl, ⟨tmono h.own hb.size, fun g hg => (h.own.lt g hg).2⟩, hl, below_gb hb h.gb hB⟩
theorem drawSingMany_any (a : Option Addr) (n cap : Nat) (w : World) (h : CodeAt w a n) (hc : n ≤ cap) (hcap : cap ≤ maxLen) :
    Calls Try.prog 14 #[.slice a n cap] w (DrewSm 10 w) := by
  go_enter Try.func14, Try.ntmps14
  go_wp2_with (fail)
  (go_at_call 25; refine (open_any a n cap _ h hc hcap).mono ?_; rintro e w1 ⟨A, rfl, hr1, hb1, hs1⟩)
  go_wp2_with (fail)
  (go_at_call 24; refine (l91Melody_any w.heap.size A 0 10 (by omega) (by omega) _ hr1).mono ?_; rintro e w2 ⟨v, xs, rfl, hI, hl⟩)
  have HE := Lib.hid (drewSm hI hl hb1 (Nat.le_refl _))
  clear hI hr1
  go_wp2
  go_ret
  exact HE.out

set_option maxHeartbeats 8000000 in
theorem fnSingMany_walk (a : Option Addr) (n cap : Nat) (w : World) (h : CodeAt w a n) (hc : n ≤ cap) (hcap : cap ≤ maxLen) :
    Calls Try.prog 5 #[.slice a n cap] w fun e w' => e = .returned (.bool true) ∧ Below w.heap.size w w' := by
  by_cases hn : 1048576 < n
  · have g : (1048576 : Int) < (n : Int) := by omega
    go_enter Try.func5, Try.ntmps5
    go_wp2
    go_ret
    exact ⟨rfl, Below.refl _ _⟩
  have g : decide ((1048576 : Int) < (n : Int)) = false := by simp; omega
  go_enter Try.func5, Try.ntmps5
  go_wp2_with (fail)
  (go_at_call 14; refine (drawSingMany_any a n cap _ h hc hcap).mono ?_; rintro e w1 ⟨v, xs, rfl, hr1, hx9, hb1⟩)
  clear h hc hcap g hn
  go_wp2_with (fail)
  (go_at_call 15; refine (singMany_any _ _ v xs _ hr1).mono ?_; rintro e w2 ⟨rfl, hb2⟩)
  have hr2 := hr1.below hb2 (.inl (Nat.le_refl _))
  have hbw2 := bl_step hb1 hb2
  clear hr1
  go_wp2_with (fail)
  (go_at_call 16; refine (sSingMany_any _ _ v xs _ hr2).mono ?_; rintro e w3 ⟨rfl, hb3⟩)
  have hr3 := hr2.below hb3 (.inl hb2.size)
  have hbw3 := bl_step hbw2 hb3
  clear hr2
  by_cases ho : mv xs = false
  · rw [sangM_no ho]
    clear hr3
    go_wp2
    go_ret
    exact ⟨by first | rfl | simp, hbw3⟩
  rw [Bool.not_eq_false] at ho
  rw [sangM_yes ho]
  have HAv : Hid (allv xs = true) := by simp [mv] at ho; exact ho.2
  have hbd := manyOf_bd HAv.out xs.length
  rw [List.take_length] at hbd
  have dneg : decide (manyOf xs < 0) = false := by simp; exact hbd.1
  have HMa := Lib.hid hbd
  obtain ⟨va, vc, rfl, hat⟩ := hr3.at_
  have HC := Lib.hid hat
  have HR := Lib.hid hr3
  have HO := Lib.hid ho
  clear hr3 hat ho hbd
  go_wp2
  go_loopg [6, 7] xs.length (fun k x i wr => ∃ j : Nat, j + k = xs.length ∧ i = .int .i64 (j : Int) ∧ x = .int .i64 (manyOf (xs.take j)) ∧ Below w3.heap.size w3 wr)
  case atStart => exact ⟨0, by omega, rfl, by simp [manyOf], Below.refl _ _⟩
  case round =>
    obtain ⟨j, hj, rfl, rfl, hb⟩ := hrel
    have HJ := Lib.hid hj
    have HB := Lib.hid hb
    by_cases hlt : j < xs.length
    · obtain ⟨s, b, ht, _⟩ := drop_at hlt
      have HX : Hid (manyOf (xs.take (j + 1)) = manyOf (xs.take j) * ic (s, b)) := manyOf_snoc ht
      obtain ⟨m0, m1⟩ := manyOf_bd HAv.out j
      have m2 := pow3_le (by omega : j ≤ 24)
      have hvt := List.all_eq_true.1 HAv.out _ (List.mem_of_getElem? ht)
      obtain ⟨i0, i1⟩ := ic_bd hvt
      have m3 : manyOf (xs.take j) * ic (s, b) ≤ 282429536481 * 3 := Int.mul_le_mul (by omega) i1 i0 (by decide)
      have m4 : 0 ≤ manyOf (xs.take j) * ic (s, b) := Int.mul_nonneg m0 i0
      have HW : Hid (IntKind.i64.wrap (manyOf (xs.take j) * ic (s, b)) = manyOf (xs.take j) * ic (s, b)) := IntWalk.i64_in _ (by omega)
      obtain ⟨g, rfl, hgs, e1, e2⟩ := HC.out j s b ht
      replace e1 := (hb.cell (p := ⟨g, j * 2, none⟩) hgs).trans e1
      replace e2 := (hb.cell (p := ⟨g, j * 2 + 1, none⟩) hgs).trans e2
      clear ht m0 m1 m2 i0 i1 m3 m4 hvt hb hj
      generalize manyOf (xs.take j) = x at HX HW
      have hic : ((rall s b 7).length : Int) = ic (s, b) := by rw [← hall_rall]; rfl
      have HIC := Lib.hid hic
      have hk0 : (0 : Int) ≤ (j : Int) := by omega
      have hk1 : (j : Int) < (xs.length : Int) := by omega
      clear hic
      go_wp2_with (fail)
      (go_at_call 12; refine (hexAll_any s b _).mono ?_; rintro e w4 ⟨u, rfl, hru, hb4⟩)
      obtain ⟨ua, uc, rfl⟩ := hru.len
      have hW := HW.out
      rw [← HIC.out] at hW
      have HB4 := Lib.hid (bl_step HB.out hb4)
      clear hru e1 e2 hb4
      go_wp2
      have hj := HJ.out
      go_roundg (gk - 1)
      case measure => omega
      case rel => exact ⟨j + 1, by omega, by simp, by rw [HX.out, ← HIC.out], HB4.out⟩
    · have hj0 : j = xs.length := by omega
      subst hj0
      rw [List.take_length]
      clear hb hj
      go_wp2_with (fail)
      (go_at_call 8; refine (singBest_any _ _ _ xs _ (HR.out.below HB.out (.inr (Nat.le_refl _)))).mono ?_; rintro e w5 ⟨u, rfl, hu, hb5⟩)
      have hbw5 := bl_step (bl_step hbw3 HB.out) hb5
      have hsb : sbB xs = sgo xs := by simp [sbB, HO.out]
      rw [hsb]
      have hgz : (decide (0 < manyOf xs) == sgo xs) = true := by
        have h1 := HMa.out.1
        cases hg : sgo xs with
        | true =>
          have h2 : ¬ manyOf xs = 0 := fun e => by rw [(manyOf_zero xs).1 e] at hg; cases hg
          have h3 : 0 < manyOf xs := by omega
          simp [h3]
        | false => rw [(manyOf_zero xs).2 hg]; rfl
      clear hu hb5 hsb
      generalize sgo xs = ok at hgz
      generalize manyOf xs = mm at hgz dneg
      have hT : ∀ W : World, TRow (W.alloc (.cells #[] 32)) W.heap.size (W.heap.size + 1) (.slice (some ⟨W.heap.size, 0, none⟩) 0 0) [] := fun W =>
        ⟨⟨rfl, .inr ⟨W.heap.size, 0, #[], rfl, Nat.le_refl _, heap_alloc_new W _, by simp, by simp [maxLen], by simp, rfl⟩⟩, fun g hg => by
          have : g = W.heap.size := by simpa [Value.ownBlock] using hg.symm
          omega⟩
      have HT := Lib.hid hT
      have hs0 : sangM [] = 1 := rfl
      have HS0 := Lib.hid hs0
      have HBW := Lib.hid hbw5
      clear hT hs0 hbw5 hbw3
      cases ok with
      | true =>
        have hp : (0 : Int) < mm := by simpa using hgz
        clear hgz
        go_wp2_with (fail)
        (go_at_call 15; refine (singMany_any _ _ _ [] _ (HT.out _)).mono ?_; rintro e w6 ⟨rfl, hb6⟩)
        rw [HS0.out]
        have HE := Lib.hid (bl_step HBW.out (bl_step ((Below.refl _ _).alloc (Nat.le_refl _) _) hb6))
        clear hb6
        go_wp2
        go_ret
        exact ⟨by first | rfl | simp, HE.out⟩
      | false =>
        have hp : ¬ (0 : Int) < mm := by simpa using hgz
        have hp2 : decide ((0 : Int) < mm) = false := by simpa using hgz
        clear hgz
        go_wp2_with (fail)
        (go_at_call 15; refine (singMany_any _ _ _ [] _ (HT.out _)).mono ?_; rintro e w6 ⟨rfl, hb6⟩)
        rw [HS0.out]
        have HE := Lib.hid (bl_step HBW.out (bl_step ((Below.refl _ _).alloc (Nat.le_refl _) _) hb6))
        clear hb6
        go_wp2
        go_ret
        exact ⟨by first | rfl | simp, HE.out⟩

set_option maxRecDepth 100000 in
theorem fnSingMany_lifted (os : Os) (started : os.Started) (H : Type) (enc : TypeId × Value → H) :
    ReturnsInHanded {} Try.checked os 5 .any (Rows.fnSingManySpec.pre6 enc Try.prog Try.f5 Rows.fnSingManyRow.domain false) (Rows.fnSingManySpec.post enc Try.prog Try.f5 false true false false) := by
  refine returnsInHanded_of_change (C := Try.checked) own started (by kernel_rfl) Try.func5
    (ChangeSpec.witness6 (enc := enc) (C := Try.checked) false ⟨#[], #[.slice none 0 0], []⟩ 8 (by kernel_rfl) (by kernel_rfl) (by kernel_rfl) (by kernel_rfl)) ?_
  intro W base args ds gs before hval0 hW _ _
  have hval : ∀ (j : Nat) t v, Try.f5.params[j]? = some t → args[j]? = some v → Value.okWide Try.prog W .any base t v := hval0
  have hW' := hW
  obtain ⟨p, q, hA0, hV, rfl, _, _⟩ := hW
  have hA : DataW.TrodAll enc Try.prog W 0 (fun _ => true) true Try.f5.params.toList args.toList ds p := hA0
  rw [Try.params5] at hA hval
  obtain ⟨v0, vs0, d0, ds0, p0, q0, hargs, rfl, rfl, h0, r0⟩ := trodAll_cons hA
  obtain ⟨rfl, rfl, rfl⟩ := trodAll_nil r0
  obtain rfl : args = #[v0] := by cases args; simp_all
  obtain ⟨rfl, rfl⟩ := trodVars_none hV
  obtain ⟨a0, n0, c0, rfl⟩ := okWide_slice Try.underlying22 (hval 0 22 v0 rfl rfl)
  have k0 := h0
  have lt0 : ∀ x ∈ p0, x.block < W.heap.size := by obtain ⟨m, hm⟩ := k0; exact DataW.trod_lt m _ _ _ hm
  have y0 := code_in h0
  clear hA0 hval0
  refine (fnSingMany_walk a0 n0 c0 W y0.1 y0.2.1 y0.2.2).mono fun e W' ⟨he, hb⟩ => ?_
  subst he
  exact ⟨_, rfl, _, _, _, [], _, [], hW', trodAll_cons_mk (shut_bool Try.underlying4 _) trodAll_mk0, trodAll_cons_mk (Below.trod laidOut (by kernel_rfl) (of_decide_eq_true (by kernel_rfl)) k0 hb lt0) (trodAll_mk0), rfl, hb.frame _, fun h => by cases h⟩

theorem fnSingMany_holds : Rows.FnSingManySaid :=
  OpenClaim.holds_of_wide 5 Try.f5 rfl rfl rfl rfl rfl rfl rfl ⟨rfl, rfl, rfl, rfl, rfl⟩ rfl rfl rfl rfl rfl (by kernel_rfl) Try.func5 (by kernel_rfl)
    (of_decide_eq_true (by kernel_rfl)) (by unfold Func.isWrapper; first | (rw [if_pos (by decide +kernel)]; kernel_rfl) | (rw [if_neg (by decide +kernel)]; exact ⟨rfl, rfl⟩))
    (fun os started H enc _ => fnSingMany_lifted os started H enc)

end Go.Proofs.Ytbmgejiinnnomab
