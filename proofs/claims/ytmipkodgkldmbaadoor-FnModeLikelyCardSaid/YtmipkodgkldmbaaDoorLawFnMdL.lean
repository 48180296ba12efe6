/-
  The law FnModeLikely: for every code, the likely mode has most tones at its tenor.
-/
import Derived.Test.YtmipkodgkldmbaaDoorMdTab
import Derived.Test.YtmipkodgkldmbaaDoorLaid1
import Derived.Test.YtmipkodgkldmbaaDoorDrawMd
import Derived.Test.YtmipkodgkldmbaaDoorCode
import Derived.Test.YtmipkodgkldmbaaDoorMdLk
namespace Go.Proofs.YtmipkodgkldmbaaDoor
open Go.RowKit Go.ChangeShapes Go.WideShapes Go.ChangeAt
set_option maxRecDepth 100000
set_option linter.unusedVariables false

theorem modeLikely_row (lo hi : Nat) (v : Value) (xs : List (Int × Bool)) (w : World) (h : TRow w lo hi v xs) (ht : TenTab w) :
    Calls Tryd.prog 30 #[v] w fun e w' => e = .returned (.tuple #[.int .i64 (lkM xs), .bool (lkB xs)]) ∧ Below w.heap.size w w' := by
  obtain ⟨a, c, rfl, hc, hm, ha⟩ := h.argA
  exact modeLikely_at a c xs w ha hc hm ht

set_option maxHeartbeats 4000000 in
theorem atTenor_at (k : Int) (a : Option Addr) (cap : Nat) (xs : List (Int × Bool)) (w : World) (h : ArgT w a xs) (hcap : xs.length ≤ cap) (hmax : cap ≤ maxLen) (htt : TenTab w) :
    Calls Tryd.prog 32 #[.slice a xs.length cap, .int .i64 k] w fun e w' => e = .returned (.int .i64 (tnM xs k)) ∧ Below w.heap.size w w' := by
  unfold maxLen at hmax
  by_cases hx : xs.length = 0
  · have hxe : xs = [] := List.eq_nil_of_length_eq_zero hx
    subst hxe
    clear h htt
    go_enter Tryd.func32, Tryd.ntmps32
    go_wp2
    go_rounds 1
    go_ret
    exact ⟨rfl, by (repeat' (first | (with_reducible assumption) | (with_reducible exact Below.refl _ _) | (with_reducible refine Below.alloc ?_ ?_ _) | (with_reducible refine Below.drew ?_) | (with_reducible refine bl_drewN ?_ _) | (with_reducible refine Below.setCell ?_ ?_ _) | (with_reducible refine bl_step ?_ (by assumption)) | go_size))⟩
  rcases h with rfl | ⟨g, off, rfl, hgs, hc⟩
  · simp at hx
  have HC := Lib.hid hc
  have HN := Lib.hid (fun (j : Nat) (t : Int × Bool) (ht : xs[j]? = some t) => (⟨fun e => tnM_hit (k := k) ht e, fun e => tnM_miss (k := k) ht e, tnM_bd (xs.take j) k⟩ : (t.1 = mdT k → tnM (xs.take (j + 1)) k = tnM (xs.take j) k + 1) ∧ (t.1 ≠ mdT k → tnM (xs.take (j + 1)) k = tnM (xs.take j) k) ∧ 0 ≤ tnM (xs.take j) k ∧ tnM (xs.take j) k ≤ (xs.take j).length))
  have HTT := Lib.hid htt
  have KT := Lib.hid (fun W h => modeTenor_any k W h)
  clear hc hx htt
  go_enter Tryd.func32, Tryd.ntmps32
  go_wp2
  go_loopw [5, 6] (fun m i wr => ∃ j : Nat, j ≤ xs.length ∧ i = .int .i64 j ∧ m = .int .i64 (tnM (xs.take j) k) ∧ Below w.heap.size w wr) (fun _ i _ => xs.length - (intOf i).toNat)
  case atStart => exact ⟨0, Nat.zero_le _, rfl, rfl, Below.refl _ _⟩
  case round =>
    obtain ⟨j, hj, rfl, rfl, hb⟩ := hrel
    by_cases hlt : j < xs.length
    · have ht : xs[j]? = some xs[j] := List.getElem?_eq_getElem hlt
      obtain ⟨e1, e2⟩ := HC.out j _ ht
      obtain ⟨n1, n2, n3, n4⟩ := HN.out j _ ht
      rw [List.length_take] at n4
      have hgw : g < wr.heap.size := Nat.lt_of_lt_of_le hgs hb.size
      have e1 := (hb.cell (p := ⟨g, off + j * 2, none⟩) hgs).trans e1
      have e2 := (hb.cell (p := ⟨g, off + j * 2 + 1, none⟩) hgs).trans e2
      have hk0 : (0 : Int) ≤ (j : Int) := by omega
      have hk1 : (j : Int) < (xs.length : Int) := by omega
      have N1 := Lib.hid n1
      have N2 := Lib.hid n2
      clear n1 n2 ht
      generalize xs[j] = t at e1 e2 N1 N2
      obtain ⟨s, b⟩ := t
      generalize tnM (xs.take j) k = m at n3 n4 N1 N2
      have m1 : IntKind.i64.wrap (m + 1) = m + 1 := IntWalk.i64_in _ (by omega)
      have hcase : ((s == mdT k) = true ∧ tnM (xs.take (j + 1)) k = m + 1) ∨ ((s == mdT k) = false ∧ tnM (xs.take (j + 1)) k = m) := by
        by_cases hs : s = mdT k
        · exact .inl ⟨by simpa using hs, N1.out hs⟩
        · exact .inr ⟨by simpa using hs, N2.out hs⟩
      clear N1 N2
      rcases hcase with ⟨g1, hX⟩ | ⟨g1, hX⟩
      all_goals
        have HX := Lib.hid hX
        clear hX
        go_wp2
        go_region_held3 (fun wx => wx.cell? ⟨g, off + j * 2, none⟩ = some (.int .i64 s) ∧ wx.cell? ⟨g, off + j * 2 + 1, none⟩ = some (.bool b)) (go_keep)
          (first | (go_at_call 21; refine (KT.out _ (HTT.out.below hb.drew)).mono ?_; rintro e w3 ⟨rfl, hb3⟩; have f0 := (hb3.cell (p := ⟨g, off + j * 2, none⟩) hgw).trans e1; have f1 := (hb3.cell (p := ⟨g, off + j * 2 + 1, none⟩) hgw).trans e2))
        have hbw := bl_step hb.drew hb3
        clear e1 e2 f0 f1 hb3
        go_wp2
        go_roundw
        case rel => exact ⟨j + 1, by omega, by go_num, by rw [HX.out], hbw⟩
        case measure => simp [intOf]; omega
    · have hj0 : j = xs.length := by omega
      subst hj0
      rw [List.take_length]
      go_wp2
      go_ret
      exact ⟨rfl, hb⟩

/-- is it one of the first i? -/
def fdM (B : Int) (ys : List Int) (i : Nat) : Bool := (ys.take i).contains B
theorem fdM_next {B : Int} {ys : List Int} {i : Nat} (h : i < ys.length) : fdM B ys (i + 1) = (fdM B ys i || (ys.getD i 0 == B)) := by
  have e : ys[i]? = some (ys.getD i 0) := by rw [List.getD_eq_getElem?_getD, List.getElem?_eq_getElem h]; rfl
  unfold fdM
  rw [List.take_add_one, e]
  generalize ys.getD i 0 = z
  rw [Bool.eq_iff_iff, Bool.or_eq_true, List.contains_iff_mem, List.contains_iff_mem, List.mem_append]
  simp
  exact or_congr Iff.rfl ⟨fun g => g.symm, fun g => g.symm⟩
theorem fdM_end {B : Int} {ys : List Int} (h : B ∈ ys) : fdM B ys ys.length = true := by
  unfold fdM; rw [List.take_length, List.contains_iff_mem]; exact h
theorem lk_facts {xs : List (Int × Bool)} (h : lkB xs = true) : allM xs 8 ≠ [] ∧ lkM xs ∈ allM xs 8 ∧ ∀ i, i < (allM xs 8).length → tnM xs ((allM xs 8).getD i 0) ≤ tnM xs (lkM xs) ∧ (tnM xs ((allM xs 8).getD i 0) = tnM xs (lkM xs) → lkM xs ≤ (allM xs 8).getD i 0) := by
  have hne : allM xs 8 ≠ [] := by intro e; rw [(lkM_no e).1] at h; cases h
  obtain ⟨a, b, c⟩ := lkS_full (xs := xs) hne
  refine ⟨hne, b, fun i hi => ?_⟩
  have hm := lkS_max (xs := xs) (allM_sorted xs 8) (allM xs 8).length (Nat.le_refl _)
  rw [List.take_length] at hm
  have e : (allM xs 8).getD i 0 = (allM xs 8)[i] := by rw [List.getD_eq_getElem?_getD, List.getElem?_eq_getElem hi]; rfl
  have := hm _ (List.getElem_mem hi)
  rw [a] at this
  rw [e]
  exact this

set_option maxHeartbeats 4000000 in
theorem fnModeLikely_walk (a : Option Addr) (n cap : Nat) (w : World) (h : CodeAt w a n) (hc : n ≤ cap) (hcap : cap ≤ maxLen) (ht : TenTab w) :
    Calls Tryd.prog 6 #[.slice a n cap] w fun e w' => e = .returned (.bool true) ∧ Below w.heap.size w w' := by
  have HT := Lib.hid ht
  clear ht
  by_cases hn : 1048576 < n
  · have g : (1048576 : Int) < (n : Int) := by omega
    go_enter Tryd.func6, Tryd.ntmps6
    go_wp2
    go_ret
    exact ⟨rfl, Below.refl _ _⟩
  have g : decide ((1048576 : Int) < (n : Int)) = false := by simp; omega
  go_enter Tryd.func6, Tryd.ntmps6
  go_wp2_with (fail)
  (go_at_call 29; refine (drawModeLikely_any a n cap _ h hc hcap).mono ?_; rintro e w1 ⟨v, xs, rfl, hr1, hx9, hb1⟩)
  clear h hc hcap g hn
  go_wp2_with (fail)
  (go_at_call 30; refine (modeLikely_row _ _ v xs _ hr1 (HT.out.below hb1)).mono ?_; rintro e w2 ⟨rfl, hb2⟩)
  go_wp2_with (fail)
  (go_at_call 31; refine (sModeLikely_any _ _ v xs _ (hr1.below hb2 (.inl (Nat.le_refl _)))).mono ?_; rintro e w3 ⟨rfl, hb3⟩)
  have c3 := bl_step hb2 hb3
  have bw3 := bl_step hb1 c3
  have hr3 := hr1.below c3 (.inl (Nat.le_refl _))
  have hlen := allM_len xs 8
  have hf := lk_facts (xs := xs)
  cases hB : lkB xs
  · clear hf
    go_wp2
    go_ret
    exact ⟨rfl, bw3⟩
  obtain ⟨hne, hmem, hmax⟩ := hf hB
  clear hf hB
  go_wp2_with (fail)
  (go_at_call 26; refine (modeAll_any _ _ v xs _ hr3 (HT.out.below bw3)).mono ?_; rintro e w4 ⟨u, rfl, hu4, hb4⟩)
  have bw4 := bl_step bw3 hb4
  have hr4 := hr3.below hb4 (.inl (by have := c3.size; omega))
  obtain ⟨aM, cM, rfl, hcM, hmM, hatM⟩ := hr4.argA
  have HA := Lib.hid hatM
  generalize allM xs 8 = ys at hu4 hne hmem hmax hlen
  generalize lkM xs = B at hmem hmax
  obtain ⟨L, hL⟩ : ∃ L, ys.length = L := ⟨_, rfl⟩
  have hLp : 0 < L := by rw [← hL]; exact List.length_pos_iff.2 hne
  have HMX := Lib.hid (fun (i : Nat) (hi : i < L) => hmax i (by omega))
  have HFN := Lib.hid (fun (i : Nat) (hi : i < L) => fdM_next (B := B) (ys := ys) (i := i) (by omega))
  have HFE : Hid (fdM B ys L = true) := by rw [← hL]; exact Lib.hid (fdM_end hmem)
  obtain ⟨aU, cU, rfl, fU⟩ := hu4.flatc hL
  obtain ⟨gU, rfl, sU, eU⟩ := fU hLp
  have EU := Lib.hid eU
  have KT := Lib.hid (fun k W h ht => atTenor_at k aM cM xs W h hcM hmM ht)
  have hL8 : L ≤ 8 := by omega
  clear hu4 fU eU hne hmem hmax hL hlen hr1 hr3 hr4 hatM
  go_wp2
  go_loopw [9, 10] (fun x i wr => ∃ j : Nat, j ≤ L ∧ i = .int .i64 j ∧ x = .bool (fdM B ys j) ∧ Below w4.heap.size w4 wr) (fun _ i _ => L - (intOf i).toNat)
  case atStart => exact ⟨0, Nat.zero_le _, rfl, rfl, Below.refl _ _⟩
  case round =>
    obtain ⟨j, hj, rfl, rfl, hb⟩ := hrel
    by_cases hlt : j < L
    · have e1 := (hb.cell (p := ⟨gU, j, none⟩) sU).trans (EU.out j hlt)
      obtain ⟨m1, m2⟩ := HMX.out j hlt
      have hN := HFN.out j hlt
      have EJ := Lib.hid (EU.out j hlt)
      have j0 : (0 : Int) ≤ (j : Int) := by omega
      have j1 : (j : Int) < (L : Int) := by omega
      have bw := bl_step bw4 hb
      generalize ys.getD j 0 = k at e1 hN EJ m1 m2
      have HX := Lib.hid hN
      have hcs : (decide (tnM xs B < tnM xs k) = false ∧ (tnM xs k == tnM xs B) = false) ∨ (decide (tnM xs B < tnM xs k) = false ∧ (tnM xs k == tnM xs B) = true ∧ decide (k < B) = false) := by
        have d1 : decide (tnM xs B < tnM xs k) = false := by simpa using m1
        by_cases he : tnM xs k = tnM xs B
        · exact .inr ⟨d1, by simpa using he, by simpa using m2 he⟩
        · exact .inl ⟨d1, by simpa using he⟩
      clear hN m1 m2
      generalize fdM B ys j = fd at HX
      have KK := Lib.hid (fun W h ht => KT.out k W h ht)
      have KB := Lib.hid (fun W h ht => KT.out B W h ht)
      generalize tnM xs k = x at hcs KK
      generalize tnM xs B = y at hcs KB
      cases fd
      all_goals
        go_wp2_with (fail)
        (go_at_call 32; refine (KK.out _ (HA.out.below hb) (HT.out.below bw)).mono ?_; rintro e w5 ⟨rfl, hb5⟩)
        have bw5 := bl_step bw hb5
        have hb5' := bl_step hb hb5
        go_wp2_with (fail)
        (go_at_call 32; refine (KB.out _ (HA.out.below hb5') (HT.out.below bw5)).mono ?_; rintro e w6 ⟨rfl, hb6⟩)
        have hb6' := bl_step hb5' hb6
        clear e1
        have e1 := (hb6'.cell (p := ⟨gU, j, none⟩) sU).trans EJ.out
        rcases hcs with ⟨d1, d2⟩ | ⟨d1, d2, d3⟩
        all_goals
          go_wp2
          go_roundw
          case rel => exact ⟨j + 1, by omega, by go_num, by rw [HX.out]; first | done | rfl | simp, hb6'⟩
          case measure => simp [intOf]; omega
    · have hjL : j = L := by omega
      subst hjL
      rw [HFE.out]
      have bw := bl_step bw4 hb
      go_wp2
      go_ret
      exact ⟨rfl, bw⟩

noncomputable def fnModeLikely_world (os : Os) : World := { World.holding Tryd.prog os ⟨#[], #[], []⟩ with heap := ((World.holding Tryd.prog os ⟨#[], #[], []⟩).heap.modify 0 fun | .cells _ t frozen => .cells #[.int .i64 8, .int .i64 6, .int .i64 10, .int .i64 8, .int .i64 10, .int .i64 8, .int .i64 11, .int .i64 10] t frozen | o => o) }
theorem fnModeLikely_met (os : Os) : laidMet Tryd.prog Rows.fnModeLikelyRow.laid ((fnModeLikely_world os).forCall (fun _ _ => 0) ⟨#[], #[.slice none 0 0], []⟩).memory :=
  laidMet_of_run' 8 (by kernel_rfl) (by kernel_rfl)
theorem fnModeLikely_reads (os : Os) {H : Type} (enc : TypeId × Value → H) : ∃ places, DataW.whole enc Tryd.prog ((fnModeLikely_world os).forCall (fun _ _ => 0) ⟨#[], #[.slice none 0 0], []⟩).memory Tryd.f6.params.toList Rows.fnModeLikelySpec.vars false (#[.slice none 0 0] : Array Value).toList 8 = some ([.nil], [Rows.laid_loop_example_neumes_impl_modeTenors], places) :=
  ⟨((DataW.whole enc Tryd.prog ((fnModeLikely_world os).forCall (fun _ _ => 0) ⟨#[], #[.slice none 0 0], []⟩).memory Tryd.f6.params.toList Rows.fnModeLikelySpec.vars false (#[.slice none 0 0] : Array Value).toList 8).getD ([], [], [])).2.2, by kernel_rfl⟩
set_option maxRecDepth 100000 in
theorem fnModeLikely_lifted (os : Os) (started : os.Started) (H : Type) (enc : TypeId × Value → H) (F : Stop.Interp) :
    ReturnsInHanded {} Tryd.checked os 6 .any ((OpenSpec.ofChange Rows.fnModeLikelySpec).preRow enc Tryd.prog Tryd.f6 Rows.fnModeLikelyRow.domain false Rows.fnModeLikelyRow.laid) (((OpenSpec.ofChange Rows.fnModeLikelySpec).at F).post enc Tryd.prog Tryd.f6 false true false false) := by
  obtain ⟨places, hx⟩ := fnModeLikely_reads os enc
  refine returnsInHanded_of_row (C := Tryd.checked) (s := OpenSpec.ofChange Rows.fnModeLikelySpec) own started (by kernel_rfl) Tryd.func6
    (witness_row_at (enc := enc) (C := Tryd.checked) false (fnModeLikely_world os) #[.slice none 0 0] rfl (by kernel_rfl) (by kernel_rfl) (by kernel_rfl)
      (OpenSpec.preRow_of_cond 8 hx (by kernel_rfl) (fun k hk => by cases hk) (by kernel_rfl) (fnModeLikely_met os))) ?_
  intro W base args ds gs before hval0 hW _ _ _ hL _ _
  have hval : ∀ (j : Nat) t v, Tryd.f6.params[j]? = some t → args[j]? = some v → Value.okWide Tryd.prog W .any base t v := hval0
  have hW' := hW
  obtain ⟨p, q, hA0, hV, rfl, _, _⟩ := hW
  have hA : DataW.TrodAll enc Tryd.prog W 0 (fun _ => true) true Tryd.f6.params.toList args.toList ds p := hA0
  rw [Tryd.params6] at hA hval
  obtain ⟨v0, vs0, d0, ds0, p0, q0, hargs, rfl, rfl, h0, r0⟩ := trodAll_cons hA
  obtain ⟨rfl, rfl, rfl⟩ := trodAll_nil r0
  obtain rfl : args = #[v0] := by cases args; simp_all
  obtain ⟨g0, rfl⟩ := vars1 hV
  obtain ⟨a0, n0, c0, rfl⟩ := okWide_slice Tryd.underlying22 (hval 0 22 v0 rfl rfl)
  have k0 := h0
  have lt0 : ∀ x ∈ p0, x.block < W.heap.size := by obtain ⟨m, hm⟩ := k0; exact DataW.trod_lt m _ _ _ hm
  have y0 := code_in h0
  clear hA0 hval0
  refine (fnModeLikely_walk a0 n0 c0 W y0.1 y0.2.1 y0.2.2 (tenTab_at hL (.head _))).mono fun e W' ⟨he, hb⟩ => ?_
  subst he
  exact ⟨_, rfl, _, _, _, [], _, _, hW', trodAll_cons_mk (shut_bool Tryd.underlying4 _) trodAll_mk0, trodAll_cons_mk (Below.trod laidOut (by kernel_rfl) (of_decide_eq_true (by kernel_rfl)) k0 hb lt0) (trodAll_mk0), hb.trodVars laidOut (by kernel_rfl) hV, hb.frame _, fun h => by cases h⟩

theorem fnModeLikely_holds : Rows.FnModeLikelySaid :=
  OpenClaim.holds_of_cond 6 Tryd.f6 rfl rfl rfl rfl rfl rfl rfl ⟨rfl, rfl, rfl, rfl, rfl⟩ rfl rfl rfl rfl rfl (by kernel_rfl) Tryd.func6 (by kernel_rfl)
    (of_decide_eq_true (by kernel_rfl)) (by unfold Func.isWrapper; first | (rw [if_pos (by decide +kernel)]; kernel_rfl) | (rw [if_neg (by decide +kernel)]; exact ⟨rfl, rfl⟩))
    (fun os started H enc _ F => by rw [OpenClaim.pre_eq_preRow]; exact fnModeLikely_lifted os started H enc F)
theorem fnModeLikely_plain (f : FuncId) (fn : Func) (hf : Tryd.pinned.checked.prog.funcNamed "loop.example/neumes/laws.FnModeLikely" = some f) (hfn : Tryd.pinned.checked.prog.funcs[f]? = some fn) :
    false = Tryd.pinned.checked.prog.looks [] ∧ ∀ (j : Nat) t, fn.params[j]? = some t → Tryd.pinned.checked.prog.wantsStandIn t = false := by
  obtain rfl : f = 6 := Option.some.inj ((show Tryd.prog.funcNamed "loop.example/neumes/laws.FnModeLikely" = some 6 by kernel_rfl).symm.trans hf) |>.symm
  obtain rfl : fn = Tryd.f6 := (Option.some.inj (Tryd.func6.symm.trans hfn)).symm
  refine ⟨by kernel_rfl, fun j t ht => ?_⟩
  rw [Tryd.params6] at ht
  have hm := Array.mem_of_getElem? ht
  simp only [List.mem_toArray, List.mem_cons, List.not_mem_nil, or_false] at hm
  subst hm
  exact (show Tryd.prog.wantsStandIn _ = false by kernel_rfl)
/-- the card -/
theorem fnModeLikely_card : Rows.FnModeLikelyCardSaid :=
  Claim7.holds_tied_plain_at .later [] _ _ _ _ fnModeLikely_holds (fun _ h => by cases h) (by kernel_rfl) (fun _ h => by cases h) fnModeLikely_row_tie rfl ⟨rfl, rfl⟩ (by kernel_rfl) rfl fnModeLikely_plain (by kernel_rfl)

end Go.Proofs.YtmipkodgkldmbaaDoor
