/-
  The law FnModeAll: for every code, a melody has at most two modes.
-/
import Derived.Test.YtmipkodgkldmbaaDoorMdTab
import Derived.Test.YtmipkodgkldmbaaDoorLaid1
import Derived.Test.YtmipkodgkldmbaaDoorDrawMd
import Derived.Test.YtmipkodgkldmbaaDoorCode
import Derived.Test.YtmipkodgkldmbaaDoorSmI
import Derived.Test.YtmipkodgkldmbaaDoorLawMdI
namespace Go.Proofs.YtmipkodgkldmbaaDoor
open Go.RowKit Go.ChangeShapes Go.WideShapes Go.ChangeAt
set_option maxRecDepth 100000
set_option linter.unusedVariables false

/-- how many modes below j a melody is in -/
def atM (xs : List (Int × Bool)) (j : Nat) : Nat := (allM xs (min (j - 1) 8)).length
theorem atM_miss {xs : List (Int × Bool)} {j : Nat} (h : inM xs (j : Int) = false) : atM xs (j + 1) = atM xs j := by
  unfold atM
  by_cases h0 : j = 0
  · subst h0; rfl
  by_cases h9 : 9 ≤ j
  · rw [show min (j + 1 - 1) 8 = 8 by omega, show min (j - 1) 8 = 8 by omega]
  · obtain ⟨i, rfl⟩ : ∃ i, j = i + 1 := ⟨j - 1, by omega⟩
    rw [show min (i + 1 + 1 - 1) 8 = i + 1 by omega, show min (i + 1 - 1) 8 = i by omega, allM_miss (by rw [← h]; congr 1)]
theorem atM_hit {xs : List (Int × Bool)} {j : Nat} (h : inM xs (j : Int) = true) : atM xs (j + 1) = atM xs j + 1 ∧ atM xs j < (allM xs 8).length ∧ (allM xs 8).getD (atM xs j) 0 = (j : Int) := by
  obtain ⟨a, b⟩ := mdv_in (inM_last h).1
  obtain ⟨i, rfl⟩ : ∃ i, j = i + 1 := ⟨j - 1, by omega⟩
  have h' : inM xs ((i : Int) + 1) = true := by rw [← h]; congr 1
  have e := allM_at (by omega) h'
  unfold atM
  rw [show min (i + 1 + 1 - 1) 8 = i + 1 by omega, show min (i + 1 - 1) 8 = i by omega, allM_hit h']
  refine ⟨by simp, ?_, ?_⟩
  · rcases Nat.lt_or_ge (allM xs i).length (allM xs 8).length with g | g
    · exact g
    · rw [List.getElem?_eq_none g] at e; cases e
  · rw [List.getD_eq_getElem?_getD, e]; rfl
theorem atM_end (xs : List (Int × Bool)) : atM xs 10 = (allM xs 8).length := rfl
theorem atM_le (xs : List (Int × Bool)) (j : Nat) : atM xs j ≤ 8 := by unfold atM; have := allM_len xs (min (j - 1) 8); omega

set_option maxHeartbeats 8000000 in
theorem fnModeAll_walk (a : Option Addr) (n cap : Nat) (w : World) (h : CodeAt w a n) (hc : n ≤ cap) (hcap : cap ≤ maxLen) (ht : TenTab w) :
    Calls Tryd.prog 5 #[.slice a n cap] w fun e w' => e = .returned (.bool true) ∧ Below w.heap.size w w' := by
  have HT := Lib.hid ht
  clear ht
  by_cases hn : 1048576 < n
  · have g : (1048576 : Int) < (n : Int) := by omega
    go_enter Tryd.func5, Tryd.ntmps5
    go_wp2
    go_ret
    exact ⟨rfl, Below.refl _ _⟩
  have g : decide ((1048576 : Int) < (n : Int)) = false := by simp; omega
  go_enter Tryd.func5, Tryd.ntmps5
  go_wp2_with (fail)
  (go_at_call 25; refine (drawModeAll_any a n cap _ h hc hcap).mono ?_; rintro e w1 ⟨v, xs, rfl, hr1, hx9, hb1⟩)
  clear h hc hcap g hn
  have hlen := allM_len xs 8
  have HL := Lib.hid (show (allM xs 8).length ≤ 1000000 by omega)
  have h2 := allM_two xs
  have HA := Lib.hid (fun (j : Nat) (h : inM xs (j : Int) = true) => atM_hit h)
  have HM := Lib.hid (fun (j : Nat) (h : inM xs (j : Int) = false) => atM_miss h)
  have HE := Lib.hid (atM_end xs)
  have HB := Lib.hid (atM_le xs)
  go_wp2_with (fail)
  (go_at_call 26; refine (modeAll_any _ _ v xs _ hr1 (HT.out.below hb1)).mono ?_; rintro e w2 ⟨u, rfl, hu2, hb2⟩)
  go_wp2_with (fail)
  (go_at_call 27; refine (sModeAll_any _ _ v xs _ (hr1.below hb2 (.inl (Nat.le_refl _)))).mono ?_; rintro e w3 ⟨u3, rfl, hu3, hb3⟩)
  have c3 := bl_step hb2 hb3
  have bw3 := bl_step hb1 c3
  have hu2 := hu2.below hb3 (.inl (Nat.le_refl _))
  generalize allM xs 8 = ys at hu2 hu3 h2 HA HM HE HL hlen
  go_wp2_with (fail)
  (go_at_call 28; refine (sameInts_yes _ _ _ _ u u3 ys HL.out _ hu2 hu3).mono ?_; rintro e w4 ⟨rfl, hb4⟩)
  have c4 := bl_step c3 hb4
  have bw4 := bl_step bw3 hb4
  have hu4 := hu2.below hb4 (.inl hb3.size)
  have hu34 := hu3.below hb4 (.inl (Nat.le_refl _))
  have z4 := hb4.size
  clear hu2 hu3
  by_cases hy : ys = []
  · subst hy
    obtain ⟨aU, cU, rfl, fU⟩ := hu4.flat' (n := 0) rfl
    clear fU h2 HA HM HE HB hr1
    go_wp2_with (fail)
    (go_at_call 28; refine (sameInts_yes _ _ _ _ _ u3 [] HL.out _ hu4 hu34).mono ?_; rintro e w5 ⟨rfl, hb5⟩)
    go_wp2
    go_ret
    exact ⟨rfl, bl_step bw4 hb5⟩
  obtain ⟨L, hL⟩ : ∃ L, ys.length = L := ⟨_, rfl⟩
  have hLp : 0 < L := by rw [← hL]; exact List.length_pos_iff.2 hy
  obtain ⟨aU, cU, rfl, fU⟩ := hu4.flat' hL
  obtain ⟨gU, rfl, sU, eU⟩ := fU hLp
  have EU := Lib.hid eU
  have h2' : (L = 1) ∨ (L = 2 ∧ mdv (ys.getD 0 0) = true ∧ ys.getD 1 0 = mdP (ys.getD 0 0)) := by
    rcases h2 with rfl | ⟨k, rfl, hk⟩ | ⟨k, rfl, hk⟩
    · exact absurd rfl hy
    · left; rw [← hL]; rfl
    · right; rw [← hL]; exact ⟨rfl, hk, rfl⟩
  have H2 := Lib.hid h2'
  have HR := Lib.hid (hr1.below c4 (.inl (Nat.le_refl _)))
  have HLL := Lib.hid hL
  have hL0 : ((L : Int) == 0) = false := by simp; omega
  have HLp := Lib.hid hLp
  clear h2 h2' eU fU hu4 hu34 hy hr1 hLp hL
  go_wp2
  go_loopw [6, 7] (fun i j wr => ∃ m : Nat, m ≤ 10 ∧ j = .int .i64 m ∧ i = .int .i64 (atM xs m) ∧ Below w4.heap.size w4 wr) (fun _ j _ => 10 - (intOf j).toNat)
  case atStart => exact ⟨0, by omega, rfl, rfl, by first | exact Below.refl _ _ | exact ⟨rfl, rfl, rfl, Nat.le_refl _, fun _ _ _ => rfl⟩⟩
  case round =>
    obtain ⟨m, hm, rfl, rfl, hb⟩ := hrel
    by_cases hlt : m < 10
    · have hm9 : (m : Int) ≤ 9 := by omega
      go_wp2_with (fail)
      (go_at_call 23; refine (modeIn_any _ _ v xs (m : Int) _ (HR.out.below hb (.inr (Nat.le_refl _))) (HT.out.below (bl_step bw4 hb))).mono ?_; rintro e w5 ⟨rfl, hb5⟩)
      have hb5' := bl_step hb hb5
      by_cases hh : inM xs (m : Int) = true
      · obtain ⟨q1, q2, q3⟩ := HA.out m hh
        have Q1 := Lib.hid q1
        rw [HLL.out] at q2
        have e1 := (hb5'.cell (p := ⟨gU, atM xs m, none⟩) sU).trans (EU.out _ q2)
        rw [q3] at e1
        rw [hh]
        have q8 := HB.out m
        clear q1 q3 hh
        generalize atM xs m = i at e1 q2 Q1 q8
        have i0 : (0 : Int) ≤ (i : Int) := by omega
        have i1 : (i : Int) < (L : Int) := by omega
        have i2 : decide ((L : Int) ≤ (i : Int)) = false := by simp; omega
        go_wp2
        go_roundw
        case rel => exact ⟨m + 1, by omega, by go_num, by rw [Q1.out]; go_num, hb5'⟩
        case measure => simp [intOf]; omega
      · rw [Bool.not_eq_true] at hh
        have Q1 := Lib.hid (HM.out m hh)
        rw [hh]
        clear hh
        go_wp2
        go_roundw
        case rel => exact ⟨m + 1, by omega, by go_num, by rw [Q1.out], hb5'⟩
        case measure => simp [intOf]; omega
    · have hm10 : m = 10 := by omega
      subst hm10
      rw [HE.out, HLL.out]
      have e0 := (hb.cell (p := ⟨gU, 0, none⟩) sU).trans (EU.out 0 HLp.out)
      have bwr := bl_step bw4 hb
      rcases H2.out with rfl | ⟨rfl, hv, hp⟩
      · go_wp2
        go_quiet (fail)
        all_goals go_wp2
        go_ret
        exact ⟨rfl, by first | exact bwr | exact bl_drewN' bwr _ | (repeat' (first | (with_reducible assumption) | (with_reducible exact Below.refl _ _) | (with_reducible refine Below.alloc ?_ ?_ _) | (with_reducible refine Below.drew ?_) | (with_reducible refine bl_drewN ?_ _) | (with_reducible refine Below.setCell ?_ ?_ _) | (with_reducible refine bl_step ?_ (by assumption)) | go_size))⟩
      · have e1 := (hb.cell (p := ⟨gU, 1, none⟩) sU).trans (EU.out 1 (by omega))
        rw [hp] at e1
        have sUr : gU < wr.heap.size := Nat.lt_of_lt_of_le sU hb.size
        have KP := Lib.hid (fun W ht => modePair_any (ys.getD 0 0) W ht)
        clear hv hp
        generalize mdP (ys.getD 0 0) = p at e1 KP
        generalize ys.getD 0 0 = k at e0 KP
        go_wp2
        first | (go_region_held3 (fun wx => wx.cell? ⟨gU, 0, none⟩ = some (.int .i64 k) ∧ wx.cell? ⟨gU, 1, none⟩ = some (.int .i64 p)) (go_keep)
          (first | (go_at_call 19; refine (KP.out _ (HT.out.below (by (repeat' (first | (with_reducible assumption) | (with_reducible exact Below.refl _ _) | (with_reducible refine Below.alloc ?_ ?_ _) | (with_reducible refine Below.drew ?_) | (with_reducible refine bl_drewN ?_ _) | (with_reducible refine Below.setCell ?_ ?_ _) | (with_reducible refine bl_step ?_ (by assumption)) | go_size))))).mono ?_; rintro e w5 ⟨rfl, hb5⟩; have f0 := (hb5.cell (p := ⟨gU, 0, none⟩) sUr).trans e0; have f1 := (hb5.cell (p := ⟨gU, 1, none⟩) sUr).trans e1))) | fail "region"
        all_goals go_wp2
        go_ret
        exact ⟨rfl, bl_step bwr.drew hb5⟩

noncomputable def fnModeAll_world (os : Os) : World := { World.holding Tryd.prog os ⟨#[], #[], []⟩ with heap := ((World.holding Tryd.prog os ⟨#[], #[], []⟩).heap.modify 0 fun | .cells _ t frozen => .cells #[.int .i64 8, .int .i64 6, .int .i64 10, .int .i64 8, .int .i64 10, .int .i64 8, .int .i64 11, .int .i64 10] t frozen | o => o) }
theorem fnModeAll_met (os : Os) : laidMet Tryd.prog Rows.fnModeAllRow.laid ((fnModeAll_world os).forCall (fun _ _ => 0) ⟨#[], #[.slice none 0 0], []⟩).memory :=
  laidMet_of_run' 8 (by kernel_rfl) (by kernel_rfl)
theorem fnModeAll_reads (os : Os) {H : Type} (enc : TypeId × Value → H) : ∃ places, DataW.whole enc Tryd.prog ((fnModeAll_world os).forCall (fun _ _ => 0) ⟨#[], #[.slice none 0 0], []⟩).memory Tryd.f5.params.toList Rows.fnModeAllSpec.vars false (#[.slice none 0 0] : Array Value).toList 8 = some ([.nil], [Rows.laid_loop_example_neumes_impl_modeTenors], places) :=
  ⟨((DataW.whole enc Tryd.prog ((fnModeAll_world os).forCall (fun _ _ => 0) ⟨#[], #[.slice none 0 0], []⟩).memory Tryd.f5.params.toList Rows.fnModeAllSpec.vars false (#[.slice none 0 0] : Array Value).toList 8).getD ([], [], [])).2.2, by kernel_rfl⟩
set_option maxRecDepth 100000 in
theorem fnModeAll_lifted (os : Os) (started : os.Started) (H : Type) (enc : TypeId × Value → H) (F : Stop.Interp) :
    ReturnsInHanded {} Tryd.checked os 5 .any ((OpenSpec.ofChange Rows.fnModeAllSpec).preRow enc Tryd.prog Tryd.f5 Rows.fnModeAllRow.domain false Rows.fnModeAllRow.laid) (((OpenSpec.ofChange Rows.fnModeAllSpec).at F).post enc Tryd.prog Tryd.f5 false true false false) := by
  obtain ⟨places, hx⟩ := fnModeAll_reads os enc
  refine returnsInHanded_of_row (C := Tryd.checked) (s := OpenSpec.ofChange Rows.fnModeAllSpec) own started (by kernel_rfl) Tryd.func5
    (witness_row_at (enc := enc) (C := Tryd.checked) false (fnModeAll_world os) #[.slice none 0 0] rfl (by kernel_rfl) (by kernel_rfl) (by kernel_rfl)
      (OpenSpec.preRow_of_cond 8 hx (by kernel_rfl) (fun k hk => by cases hk) (by kernel_rfl) (fnModeAll_met os))) ?_
  intro W base args ds gs before hval0 hW _ _ _ hL _ _
  have hval : ∀ (j : Nat) t v, Tryd.f5.params[j]? = some t → args[j]? = some v → Value.okWide Tryd.prog W .any base t v := hval0
  have hW' := hW
  obtain ⟨p, q, hA0, hV, rfl, _, _⟩ := hW
  have hA : DataW.TrodAll enc Tryd.prog W 0 (fun _ => true) true Tryd.f5.params.toList args.toList ds p := hA0
  rw [Tryd.params5] at hA hval
  obtain ⟨v0, vs0, d0, ds0, p0, q0, hargs, rfl, rfl, h0, r0⟩ := trodAll_cons hA
  obtain ⟨rfl, rfl, rfl⟩ := trodAll_nil r0
  obtain rfl : args = #[v0] := by cases args; simp_all
  obtain ⟨g0, rfl⟩ := vars1 hV
  obtain ⟨a0, n0, c0, rfl⟩ := okWide_slice Tryd.underlying22 (hval 0 22 v0 rfl rfl)
  have k0 := h0
  have lt0 : ∀ x ∈ p0, x.block < W.heap.size := by obtain ⟨m, hm⟩ := k0; exact DataW.trod_lt m _ _ _ hm
  have y0 := code_in h0
  clear hA0 hval0
  refine (fnModeAll_walk a0 n0 c0 W y0.1 y0.2.1 y0.2.2 (tenTab_at hL (.head _))).mono fun e W' ⟨he, hb⟩ => ?_
  subst he
  exact ⟨_, rfl, _, _, _, [], _, _, hW', trodAll_cons_mk (shut_bool Tryd.underlying4 _) trodAll_mk0, trodAll_cons_mk (Below.trod laidOut (by kernel_rfl) (of_decide_eq_true (by kernel_rfl)) k0 hb lt0) (trodAll_mk0), hb.trodVars laidOut (by kernel_rfl) hV, hb.frame _, fun h => by cases h⟩

theorem fnModeAll_holds : Rows.FnModeAllSaid :=
  OpenClaim.holds_of_cond 5 Tryd.f5 rfl rfl rfl rfl rfl rfl rfl ⟨rfl, rfl, rfl, rfl, rfl⟩ rfl rfl rfl rfl rfl (by kernel_rfl) Tryd.func5 (by kernel_rfl)
    (of_decide_eq_true (by kernel_rfl)) (by unfold Func.isWrapper; first | (rw [if_pos (by decide +kernel)]; kernel_rfl) | (rw [if_neg (by decide +kernel)]; exact ⟨rfl, rfl⟩))
    (fun os started H enc _ F => by rw [OpenClaim.pre_eq_preRow]; exact fnModeAll_lifted os started H enc F)
theorem fnModeAll_plain (f : FuncId) (fn : Func) (hf : Tryd.pinned.checked.prog.funcNamed "loop.example/neumes/laws.FnModeAll" = some f) (hfn : Tryd.pinned.checked.prog.funcs[f]? = some fn) :
    false = Tryd.pinned.checked.prog.looks [] ∧ ∀ (j : Nat) t, fn.params[j]? = some t → Tryd.pinned.checked.prog.wantsStandIn t = false := by
  obtain rfl : f = 5 := Option.some.inj ((show Tryd.prog.funcNamed "loop.example/neumes/laws.FnModeAll" = some 5 by kernel_rfl).symm.trans hf) |>.symm
  obtain rfl : fn = Tryd.f5 := (Option.some.inj (Tryd.func5.symm.trans hfn)).symm
  refine ⟨by kernel_rfl, fun j t ht => ?_⟩
  rw [Tryd.params5] at ht
  have hm := Array.mem_of_getElem? ht
  simp only [List.mem_toArray, List.mem_cons, List.not_mem_nil, or_false] at hm
  subst hm
  exact (show Tryd.prog.wantsStandIn _ = false by kernel_rfl)
/-- the card -/
theorem fnModeAll_card : Rows.FnModeAllCardSaid :=
  Claim7.holds_tied_plain_at .later [] _ _ _ _ fnModeAll_holds (fun _ h => by cases h) (by kernel_rfl) (fun _ h => by cases h) fnModeAll_row_tie rfl ⟨rfl, rfl⟩ (by kernel_rfl) rfl fnModeAll_plain (by kernel_rfl)

end Go.Proofs.YtmipkodgkldmbaaDoor
