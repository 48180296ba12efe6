/-
  The law FnContourLower: for every code, no step of the lowest steps can be lower.
-/
import Derived.Test.YtjodcaeohkjlnabCd2
import Derived.Test.YtjodcaeohkjlnabCe
import Derived.Test.YtjodcaeohkjlnabSmI
import Derived.Test.YtjodcaeohkjlnabCof
import Derived.Test.YtjodcaeohkjlnabDrawC
import Derived.Test.YtjodcaeohkjlnabCode
namespace Go.Proofs.Ytjodcaeohkjlnab
open Go.RowKit Go.ChangeShapes Go.WideShapes Go.ChangeAt
set_option maxRecDepth 100000
set_option linter.unusedVariables false

/-- the lowest steps of a contour: how many, how high, and that none can be lower -/
theorem cls_facts {s : ByteArray} (h : cv s = true) : (cls s).length = s.size + 1 ∧ s.size ≤ 23 ∧ ∀ j, j < s.size + 1 → (cls s).getD j 0 = ((lst s.data.toList j : Nat) : Int) ∧ lst s.data.toList j ≤ 23 := by
  have hn := (cv_in h).1
  have hl : s.data.toList.length = s.size := by simp
  refine ⟨by rw [cls_yes h]; simp, hn, fun j hj => ?_⟩
  refine ⟨by rw [cls_yes h]; simp [List.getD_eq_getElem?_getD, hj], ?_⟩
  have := lst_le (l := s.data.toList) (k := j) (by omega)
  omega
theorem cofS_ne {s : ByteArray} {f : Nat → Int} (h : ¬ cofl f s.data.toList.length = s.data.toList) : ((cofS f s.size).toList == s.toList) = false := by
  have hl : s.data.toList.length = s.size := by simp
  rw [ByteArray.toList_eq, ByteArray.toList_eq, beq_eq_false_iff_ne]
  intro e
  apply h
  rw [hl]
  exact e
theorem lower_ne {s : ByteArray} {i : Nat} (hi : i ≤ s.size) (hp : 0 < lst s.data.toList i) : ((cofS (fun j => if j = i then ((lst s.data.toList j : Nat) : Int) - 1 else ((lst s.data.toList j : Nat) : Int)) s.size).toList == s.toList) = false := by
  have hl : s.data.toList.length = s.size := by simp
  exact cofS_ne (lower_no (by rw [hl]; exact hi) hp)
/-- a row that a call has copied, as numbers place by place -/
theorem own_fr {w : World} {base N : Nat} {v : Value} {f : Nat → Int} (h : w.ownsRow base 3 1 v N ((List.range N).map fun p => Value.int .i64 (f p))) (hN : 1 ≤ N) : ∃ B c, v = .slice (some ⟨B, 0, none⟩) N c ∧ FR w B N c f ∧ base ≤ B := by
  obtain ⟨hl, h1 | ⟨g, cap, cur, hv, hg, hh, hn, hm, hsz, htk⟩⟩ := h
  · omega
  · refine ⟨g, cap, hv, ⟨cur, hh, ⟨by omega, hn⟩, fun p hp => ?_⟩, hg⟩
    have e : (cur.toList.take (N * 1))[p]? = ((List.range N).map fun p => Value.int .i64 (f p))[p]? := by rw [htk]
    rw [List.getElem?_take_of_lt (by omega), Array.getElem?_toList] at e
    rw [e]
    simp [hp]
theorem row_cells {w : World} {B N c : Nat} {f : Nat → Int} (h : FR w B N c f) : ∀ j u, ((List.range N).map fun p => Value.int .i64 (f p))[j]? = some u → w.cell? ((⟨B, 0, none⟩ : Addr).add j) = some u := by
  intro j u hj
  have hjN : j < N := by
    have := (List.getElem?_eq_some_iff.1 hj).1
    simpa using this
  have hu : u = .int .i64 (f j) := by
    simp [hjN] at hj
    exact hj.symm
  subst hu
  rw [Go.WideShapes.add_plain, Nat.zero_add]
  exact h.cell hjN
theorem row_one {N : Nat} {f : Nat → Int} : ∀ u ∈ ((List.range N).map fun p => Value.int .i64 (f p)), u.oneCell' = true := by
  intro u hu
  obtain ⟨p, _, rfl⟩ := List.mem_map.1 hu
  rfl
theorem cofl_congr {f g : Nat → Int} {n : Nat} (h : ∀ i, i ≤ n → f i = g i) : cofl f n = cofl g n := by
  unfold cofl
  refine List.map_congr_left fun i hi => ?_
  have := List.mem_range.1 hi
  rw [h i (by omega), h (i + 1) (by omega)]

set_option maxHeartbeats 8000000 in
theorem fnContourLower_walk (a : Option Addr) (n cap : Nat) (w : World) (h : CodeAt w a n) (hc : n ≤ cap) (hcap : cap ≤ maxLen) :
    Calls Try.prog 6 #[.slice a n cap] w fun e w' => e = .returned (.bool true) ∧ Below w.heap.size w w' := by
  by_cases hn : 1048576 < n
  · have g : (1048576 : Int) < (n : Int) := by omega
    go_enter Try.func6, Try.ntmps6
    go_wp2
    go_ret
    exact ⟨rfl, Below.refl _ _⟩
  have g : decide ((1048576 : Int) < (n : Int)) = false := by simp; omega
  go_enter Try.func6, Try.ntmps6
  go_wp2_with (fail)
  (go_at_call 25; refine (drawContourLeast_any a n cap _ h hc hcap).mono ?_; rintro e w1 ⟨s, rfl, hs11, hb1⟩)
  clear h hc hcap g hn
  have KI := Lib.hid (fun W => contourLeast_any s (by omega) W)
  have KS := Lib.hid (fun W => sContourLeast_any s (by omega) W)
  go_wp2_with (fail)
  (go_at_call 26; refine (KI.out _).mono ?_; rintro e w2 ⟨u, rfl, hr2, hb2⟩)
  go_wp2_with (fail)
  (go_at_call 27; refine (KS.out _).mono ?_; rintro e w3 ⟨u3, rfl, hr3, hb3⟩)
  have c3 := bl_step hb2 hb3
  have bw3 := bl_step hb1 c3
  by_cases hm : cv s = false
  · rw [hm]
    have hx : (cls s).length ≤ 1000000 := by rw [cls_no hm]; simp
    go_wp2_with (fail)
    (go_at_call 28; refine (sameInts_yes _ _ _ _ u u3 _ hx _ (hr2.below hb3 (.inl (Nat.le_refl _))) hr3).mono ?_; rintro e w4 ⟨rfl, hb4⟩)
    go_wp2_with (fail)
    (go_at_call 28; refine (sameInts_yes _ _ _ _ u u3 _ hx _ (hr2.below (bl_step hb3 hb4) (.inl (Nat.le_refl _))) (hr3.below hb4 (.inl (Nat.le_refl _)))).mono ?_; rintro e w5 ⟨rfl, hb5⟩)
    go_wp2
    go_ret
    exact ⟨rfl, bl_step (bl_step bw3 hb4) hb5⟩
  rw [Bool.not_eq_false] at hm
  obtain ⟨hlen, h23, hF⟩ := cls_facts hm
  have HF := Lib.hid hF
  have HLW := Lib.hid (fun i hi hp => lower_ne (s := s) (i := i) hi hp)
  rw [hm]
  have hx : (cls s).length ≤ 1000000 := by omega
  go_wp2_with (fail)
  (go_at_call 28; refine (sameInts_yes _ _ _ _ u u3 _ hx _ (hr2.below hb3 (.inl (Nat.le_refl _))) hr3).mono ?_; rintro e w4 ⟨rfl, hb4⟩)
  have d4 := bl_step hb3 hb4
  have bw4 := bl_step bw3 hb4
  have hr4 := hr2.below d4 (.inl (Nat.le_refl _))
  obtain ⟨g, c, rfl, hg0, hg1, hcm, hcn, hF4⟩ := FR.of_irow hr4 (by omega)
  rw [hlen] at hF4 ⊢
  have hgs := hF4.lt
  have HF4 : Hid (FR w4 g (s.size + 1) c (fun p => ((lst s.data.toList p : Nat) : Int))) := hF4.congr fun p hp => ((HF.out p hp).1).symm
  clear hr2 hr3 hr4 hF hF4 d4 c3 KI KS hm hx
  obtain ⟨i0, hi, hq0, hq1, hq2⟩ := info_parts infoIntC
  have hsz : IntKind.i64.wrap ((s.size : Int) + 1) = (s.size : Int) + 1 := IntWalk.i64_in _ (by omega)
  go_wp2
  go_loopw [8] (fun i wr => ∃ k : Nat, k ≤ s.size + 1 ∧ i = .int .i64 k ∧ Below w4.heap.size w4 wr) (fun i _ => s.size + 1 - (intOf i).toNat)
  case atStart => exact ⟨0, Nat.zero_le _, rfl, by first | exact Below.refl _ _ | exact ⟨rfl, rfl, rfl, Nat.le_refl _, fun _ _ _ => rfl⟩⟩
  case round =>
    obtain ⟨k, hk, rfl, hb⟩ := hrel
    by_cases hlt : k < s.size + 1
    · have HFr := Lib.hid (HF4.out.below hb)
      have hgr : g < wr.heap.size := HFr.out.lt
      obtain ⟨_, p2⟩ := HF.out k hlt
      have hk0 : (0 : Int) ≤ (k : Int) := by omega
      have hk1 : (k : Int) < (s.size : Int) + 1 := by omega
      have HL0 := Lib.hid (HLW.out k (by omega))
      have hown0 : (wr.alloc (.cells #[] 3)).ownsRow wr.heap.size 3 1 (.slice (some ⟨wr.heap.size, 0, none⟩) 0 0) 0 [] := ⟨rfl, .inr ⟨wr.heap.size, 0, #[], rfl, Nat.le_refl _, heap_alloc_new wr _, by simp, by simp [maxLen], by simp, by simp⟩⟩
      have HBA : Hid (Below wr.heap.size wr (wr.alloc (.cells #[] 3))) := (Below.refl _ _).alloc (Nat.le_refl _) _
      have HCE := Lib.hid (row_cells (HFr.out.below HBA.out))
      obtain ⟨row, hrow⟩ : ∃ row : List Value, row = (List.range (s.size + 1)).map fun p => Value.int .i64 ((lst s.data.toList p : Nat) : Int) := ⟨_, rfl⟩
      have HRO : Hid (∀ u ∈ row, u.oneCell' = true) := by show ∀ u ∈ row, u.oneCell' = true; rw [hrow]; exact row_one
      have hrl : row.length = s.size + 1 := by rw [hrow]; simp
      have HRW := Lib.hid hrow
      rw [← hrow] at HCE
      clear hrow
      go_wp2_with (at_builtin; refine wpList_append_own _ rfl _ _ 30 rfl wr.heap.size 3 i0 (.int .i64 0) 1 8 Try.underlying30 hi hq0 hq1 hq2 rfl (by decide) _ 0 [] rfl hown0 ⟨g, 0, none⟩ (s.size + 1) c row rfl (by rw [hrl]; omega) HCE.out HRO.out (by unfold maxLen; omega) (by omega) (by simp) ?_)
      intro v' w5 hown' hgrow _
      have hown5 : w5.ownsRow wr.heap.size 3 1 v' (s.size + 1) ((List.range (s.size + 1)).map fun p => Value.int .i64 ((lst s.data.toList p : Nat) : Int)) := by
        have hh := hown'
        (try rw [Nat.zero_add] at hh)
        (try rw [List.nil_append] at hh)
        rw [HRW.out] at hh
        exact hh
      have hb5 : Below wr.heap.size wr w5 := HBA.out.grown hgrow (by simp) (fun k hk => (hown0.lt k hk).1)
      obtain ⟨B, c', rfl, hF5, hB5⟩ := own_fr hown5 (by omega)
      have hBlt := hF5.lt
      have c0 := hF5.cell (p := k) hlt
      have cf := hF5.free
      have e0 := (HFr.out.below hb5).cell (p := k) hlt
      have hne : g ≠ B := by omega
      have HS : Hid (FR (w5.setCell ⟨B, k, none⟩ (.int .i64 (((lst s.data.toList k : Nat) : Int) - 1))) B (s.size + 1) c' (fun j => if j = k then ((lst s.data.toList j : Nat) : Int) - 1 else ((lst s.data.toList j : Nat) : Int))) := by
        refine (hF5.set hlt _).congr fun p hp => ?_
        by_cases h : p = k
        · subst h; simp
        · simp [h]
      have HBS : Hid (Below w4.heap.size w4 (w5.setCell ⟨B, k, none⟩ (.int .i64 (((lst s.data.toList k : Nat) : Int) - 1)))) := (bl_step hb hb5).setCell (by have := hb.size; show w4.heap.size ≤ B; omega) _
      have e1 : (w5.setCell ⟨B, k, none⟩ (.int .i64 (((lst s.data.toList k : Nat) : Int) - 1))).cell? ⟨g, k, none⟩ = some (.int .i64 ((lst s.data.toList k : Nat) : Int)) := by
        rw [World.cell?_setCell_other _ _ _ _ (fun e => hne (by first | exact congrArg Addr.block e | exact (congrArg Addr.block e).symm))]
        exact e0
      generalize (fun j => if j = k then ((lst s.data.toList j : Nat) : Int) - 1 else ((lst s.data.toList j : Nat) : Int)) = F at HS HL0
      have HKO := Lib.hid (contourOf_fr B (s.size + 1) c' F _ HS.out (by omega))
      rw [Nat.add_sub_cancel] at HKO
      generalize lst s.data.toList k = q at c0 e0 e1 p2 HL0 HBS HKO HS
      have m1 : IntKind.i64.wrap ((q : Int) - 1) = (q : Int) - 1 := IntWalk.i64_in _ (by omega)
      clear hown' hown5 hgrow hown0 hF5 hb5 hrl e0
      by_cases hq : 0 < q
      · have g0 : (0 : Int) < (q : Int) := by omega
        have t1 := HL0.out hq
        go_wp2_with (fail)
        (go_at_call 29; refine HKO.out.mono ?_; rintro e w6 ⟨rfl, hb6⟩)
        have HB6 := Lib.hid (bl_step HBS.out hb6)
        generalize cofS F s.size = o at t1 ⊢
        clear c0 cf e1 hb6
        go_wp2
        go_roundw
        case rel => exact ⟨k + 1, by omega, by go_num, HB6.out⟩
        case measure => simp [intOf]; omega
      · have g0 : decide ((0 : Int) < (q : Int)) = false := by simp; omega
        have g1 : decide (0 < q) = false := by simp; omega
        clear hq
        go_wp2
        go_roundw
        case rel => exact ⟨k + 1, by omega, by go_num, HBS.out⟩
        case measure => simp [intOf]; omega
    · have hke : k = s.size + 1 := by omega
      subst hke
      go_wp2
      go_ret
      exact ⟨rfl, bl_step bw4 hb⟩

set_option maxRecDepth 100000 in
theorem fnContourLower_lifted (os : Os) (started : os.Started) (H : Type) (enc : TypeId × Value → H) :
    ReturnsInHanded {} Try.checked os 6 .any (Rows.fnContourLowerSpec.pre6 enc Try.prog Try.f6 Rows.fnContourLowerRow.domain false) (Rows.fnContourLowerSpec.post enc Try.prog Try.f6 false true false false) := by
  refine returnsInHanded_of_change (C := Try.checked) own started (by kernel_rfl) Try.func6
    (ChangeSpec.witness6 (enc := enc) (C := Try.checked) false ⟨#[], #[.slice none 0 0], []⟩ 8 (by kernel_rfl) (by kernel_rfl) (by kernel_rfl) (by kernel_rfl)) ?_
  intro W base args ds gs before hval0 hW _ _
  have hval : ∀ (j : Nat) t v, Try.f6.params[j]? = some t → args[j]? = some v → Value.okWide Try.prog W .any base t v := hval0
  have hW' := hW
  obtain ⟨p, q, hA0, hV, rfl, _, _⟩ := hW
  have hA : DataW.TrodAll enc Try.prog W 0 (fun _ => true) true Try.f6.params.toList args.toList ds p := hA0
  rw [Try.params6] at hA hval
  obtain ⟨v0, vs0, d0, ds0, p0, q0, hargs, rfl, rfl, h0, r0⟩ := trodAll_cons hA
  obtain ⟨rfl, rfl, rfl⟩ := trodAll_nil r0
  obtain rfl : args = #[v0] := by cases args; simp_all
  obtain ⟨rfl, rfl⟩ := trodVars_none hV
  obtain ⟨a0, n0, c0, rfl⟩ := okWide_slice Try.underlying22 (hval 0 22 v0 rfl rfl)
  have k0 := h0
  have lt0 : ∀ x ∈ p0, x.block < W.heap.size := by obtain ⟨m, hm⟩ := k0; exact DataW.trod_lt m _ _ _ hm
  have y0 := code_in h0
  clear hA0 hval0
  refine (fnContourLower_walk a0 n0 c0 W y0.1 y0.2.1 y0.2.2).mono fun e W' ⟨he, hb⟩ => ?_
  subst he
  exact ⟨_, rfl, _, _, _, [], _, [], hW', trodAll_cons_mk (shut_bool Try.underlying4 _) trodAll_mk0, trodAll_cons_mk (Below.trod laidOut (by kernel_rfl) (of_decide_eq_true (by kernel_rfl)) k0 hb lt0) (trodAll_mk0), rfl, hb.frame _, fun h => by cases h⟩

theorem fnContourLower_holds : Rows.FnContourLowerSaid :=
  OpenClaim.holds_of_wide 6 Try.f6 rfl rfl rfl rfl rfl rfl rfl ⟨rfl, rfl, rfl, rfl, rfl⟩ rfl rfl rfl rfl rfl (by kernel_rfl) Try.func6 (by kernel_rfl)
    (of_decide_eq_true (by kernel_rfl)) (by unfold Func.isWrapper; first | (rw [if_pos (by decide +kernel)]; kernel_rfl) | (rw [if_neg (by decide +kernel)]; exact ⟨rfl, rfl⟩))
    (fun os started H enc _ => fnContourLower_lifted os started H enc)

end Go.Proofs.Ytjodcaeohkjlnab
