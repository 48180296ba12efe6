/-
  The law FnStemBest: for every code, no stem has fewer changes.
-/
import Derived.Test.YtbeiedaldinhaaaDoorSmv
import Derived.Test.YtbeiedaldinhaaaDoorSch
import Derived.Test.YtbeiedaldinhaaaDoorBm8
import Derived.Test.YtbeiedaldinhaaaDoorStb
import Derived.Test.YtbeiedaldinhaaaDoorDbf
import Derived.Test.YtbeiedaldinhaaaDoorOpen
import Derived.Deep.RegionWith
import Derived.ChangeMaps5
import Derived.Deep.DeepRowAt
import Derived.Deep.DeepHandedRow
import Derived.OpenVars
import Derived.SevenTiedAt
import Derived.Test.YtbeiedaldinhaaaDoorCards
import Derived.Test.YtbeiedaldinhaaaDoorTie
namespace Go.Proofs.YtbeiedaldinhaaaDoor
open Go.RowKit Go.ChangeShapes Go.WideShapes Go.ChangeAt
set_option maxRecDepth 100000
set_option linter.unusedVariables false

theorem IRow.flat' {w : World} {lo hi n : Nat} {v : Value} {xs : List Int} (h : IRow w lo hi v xs) (hn : xs.length = n) : ∃ a cap, v = .slice a n cap ∧ (0 < n → ∃ g, a = some ⟨g, 0, none⟩ ∧ g < w.heap.size ∧ ∀ i, i < n → w.cell? ⟨g, i, none⟩ = some (.int .i64 (xs.getD i 0))) := by
  rcases h.form with ⟨rfl, rfl⟩ | ⟨g, cap, cur, rfl, _, _, hg, _, _, _, _, _, hc, _⟩
  · subst hn; exact ⟨none, 0, rfl, fun h => by simp at h⟩
  · subst hn; exact ⟨_, cap, rfl, fun _ => ⟨g, rfl, hg, hc⟩⟩

theorem sameInts_yes (lo hi lo' hi' : Nat) (v u : Value) (xs : List Int) (hx : xs.length ≤ 1000000) (w : World) (h : IRow w lo hi v xs) (k : IRow w lo' hi' u xs) :
    Calls Tryd.prog 26 #[v, u] w fun e w' => e = .returned (.bool true) ∧ Below w.heap.size w w' := by
  obtain ⟨n, hn⟩ : ∃ n, xs.length = n := ⟨_, rfl⟩
  obtain ⟨a, ca, rfl, fa⟩ := h.flat' hn
  obtain ⟨b, cb, rfl, fb⟩ := k.flat' hn
  rw [hn] at hx
  have FA := Lib.hid fa
  have FB := Lib.hid fb
  clear h k fa fb hn
  go_enter Tryd.func26, Tryd.ntmps26
  go_wp2
  go_loopw [5] (fun i wr => ∃ k : Nat, k ≤ n ∧ i = .int .i64 k ∧ Below w.heap.size w wr) (fun i _ => n - (intOf i).toNat)
  case atStart => exact ⟨0, Nat.zero_le _, rfl, Below.refl _ _⟩
  case round =>
    obtain ⟨k, hk, rfl, hb⟩ := hrel
    by_cases hlt : k < n
    · obtain ⟨g, rfl, sA, eA⟩ := FA.out (by omega)
      obtain ⟨g', rfl, sB, eB⟩ := FB.out (by omega)
      have e1 := (hb.cell (p := ⟨g, k, none⟩) sA).trans (eA k hlt)
      have e2 := (hb.cell (p := ⟨g', k, none⟩) sB).trans (eB k hlt)
      have hk0 : (0 : Int) ≤ (k : Int) := by omega
      have hk1 : (k : Int) < (n : Int) := by omega
      clear eA eB
      generalize xs.getD k 0 = z at e1 e2
      go_wp2
      go_quiet (fail)
      all_goals
        go_wp2
        go_roundw
        case rel => exact ⟨k + 1, by omega, by go_num, by first | exact hb | exact hb.drew | exact ⟨hb.os, hb.tape, hb.output, hb.size, hb.block⟩⟩
        case measure => simp [intOf]; omega
    · go_wp2
      go_ret
      exact ⟨rfl, hb⟩

set_option maxHeartbeats 2000000 in
theorem drawStemBest_any (a : Option Addr) (n cap : Nat) (w : World) (h : CodeAt w a n) (hc : n ≤ cap) (hcap : cap ≤ maxLen) :
    Calls Tryd.prog 29 #[.slice a n cap] w (BksOnly w) := by
  have HO := Lib.hid (open_any a n cap w h hc hcap)
  clear h
  go_enter Tryd.func29, Tryd.ntmps29
  go_wp2_with (fail)
  (go_at_call 34; refine (HO.out).mono ?_; rintro e w1 ⟨A, rfl, hr1, hb1, hz1⟩)
  go_wp2_with (fail)
  (go_at_call 49; refine (l92Books_any w.heap.size A 0 false (by omega) _ hr1).mono ?_; rintro e w2 ⟨v, ss, rfl, hI, hl, hs⟩)
  have HX := Lib.hid (show BksOnly w (.returned v) w2 from ⟨v, ss, rfl, hI.view, hs, hl, gb_below hb1 hI.gr⟩)
  clear hI hb1 hr1 hs
  go_wp2
  go_ret
  exact HX.out

set_option maxHeartbeats 8000000 in
theorem fnStemBest_walk (a : Option Addr) (n cap : Nat) (w : World) (h : CodeAt w a n) (hc : n ≤ cap) (hcap : cap ≤ maxLen) :
    Calls Tryd.prog 8 #[.slice a n cap] w fun e w' => e = .returned (.bool true) ∧ Below w.heap.size w w' := by
  have HD := Lib.hid (drawStemBest_any a n cap w h hc hcap)
  clear h
  unfold maxLen at hcap
  by_cases hn : 1048576 < n
  · have g : (1048576 : Int) < (n : Int) := by omega
    go_enter Tryd.func8, Tryd.ntmps8
    go_wp2
    go_ret
    exact ⟨rfl, Below.refl _ _⟩
  have g : decide ((1048576 : Int) < (n : Int)) = false := by simp; omega
  go_enter Tryd.func8, Tryd.ntmps8
  go_wp2_with (fail)
  (go_at_call 29; refine (HD.out).mono ?_; rintro e w1 ⟨v, ss, rfl, hsv, hsz, hl5, hb1⟩)
  have hsz2 : ∀ s ∈ ss, s.size ≤ 4611686018427387904 := fun s hs => by have := hsz s hs; omega
  obtain ⟨ad, c, rfl, had, hc1, hc2⟩ := hsv
  have HSV : Hid (SV w1 (.slice ad ss.length c) ss) := ⟨ad, c, rfl, had, hc1, hc2⟩
  have HB1 := Lib.hid hb1
  clear hb1 had hc1 hc2
  go_wp2_with (fail)
  (go_at_call 13; refine (stemBest_any _ ss _ HSV.out hsz2).mono ?_; rintro e w2 ⟨u, rfl, hu2, hb2⟩)
  have HB2 := Lib.hid hb2
  go_wp2_with (fail)
  (go_at_call 30; refine (sStemBest_any _ ss _ (HSV.out.below HB2.out) hsz2).mono ?_; rintro e w3 ⟨u3, rfl, hu3, hb3⟩)
  have HB3 := Lib.hid (bl_step HB2.out hb3)
  have hu2 := hu2.below hb3 (.inl (Nat.le_refl _))
  have HL := Lib.hid (show (sbst ss).length ≤ 1000000 by have := sbst_len ss; omega)
  have HZ := Lib.hid hb3.size
  clear hb2 hb3
  by_cases hv : bval ss = true
  case neg =>
    have hv' : bval ss = false := by simpa using hv
    clear hv
    go_wp2_with (fail)
    (go_at_call 26; refine (sameInts_yes _ _ _ _ u u3 _ HL.out _ hu2 hu3).mono ?_; rintro e w4 ⟨rfl, hb4⟩)
    have HB4 := Lib.hid (bl_step HB3.out hb4)
    have hu2 := hu2.below hb4 (.inl HZ.out)
    have hu3 := hu3.below hb4 (.inl (Nat.le_refl _))
    clear hb4
    go_wp2_with (fail)
    (go_at_call 26; refine (sameInts_yes _ _ _ _ u u3 _ HL.out _ hu2 hu3).mono ?_; rintro e w5 ⟨rfl, hb5⟩)
    have HB5 := Lib.hid (bl_step HB4.out hb5)
    clear hb5 hu2 hu3
    go_wp2
    go_ret
    exact ⟨rfl, bl_step HB1.out HB5.out⟩
  go_wp2_with (fail)
  (go_at_call 26; refine (sameInts_yes _ _ _ _ u u3 _ HL.out _ hu2 hu3).mono ?_; rintro e w4 ⟨rfl, hb4⟩)
  have HB4 := Lib.hid (bl_step HB3.out hb4)
  have hiv := (hu2.below hb4 (.inl HZ.out)).view
  have HS := Lib.hid (fun (i k : Nat) (h0 : 0 < i) (hi : i < ss.length) (hk : k < i) => best_step hv h0 hi hk)
  have hpos := sch_best_pos hv
  have hlen := sbst_get hv
  have hone := (bkIn_parts (bval_in hv).1).1
  have H0 := Lib.hid (fun (i : Nat) (h0 : 0 < i) (hi : i < ss.length) => (svl_in (svl_sbst hv)).2.2.2.2 i (by omega) h0)
  clear hu2 hu3 hb4 HL
  generalize sbst ss = st at hiv HS hpos hlen H0
  obtain ⟨au, cu, rfl, hau, hq1, hq2⟩ := hiv
  have HIV : Hid (IV w4 (.slice au st.length cu) st) := ⟨au, cu, rfl, hau, hq1, hq2⟩
  obtain ⟨A0, off, hau, hA0, hcl⟩ : ∃ A off, au = some ⟨A, off, none⟩ ∧ A < w4.heap.size ∧ ∀ i, i < st.length → w4.cell? ⟨A, off + i, none⟩ = some (.int .i64 (st.getD i 0)) := by
    rcases hau with h | h
    · rw [h] at hlen; simp at hlen; omega
    · exact h
  subst hau
  have HLEN := Lib.hid hlen
  have HCL := Lib.hid hcl
  clear hcl hq1 hq2 hlen
  go_wp2_with (fail)
  (go_at_call 11; refine (stemChanges_any _ _ ss st _ (HSV.out.below HB4.out) HIV.out hsz2).mono ?_; rintro e w5 ⟨rfl, hb5⟩)
  have HC : Hid (∀ W, Below w5.heap.size w5 W → Below w4.heap.size w4 W) := fun W h => bl_step hb5 h
  generalize sch ss st = N at HS hpos
  clear hb5
  go_wp2
  go_loopw [9] (fun i wr => ∃ m : Nat, 1 ≤ m ∧ m ≤ ss.length ∧ i = .int .i64 (m : Int) ∧ Below w5.heap.size w5 wr) (fun i _ => ss.length - (intOf i).toNat)
  case atStart => exact ⟨1, Nat.le_refl _, hone, rfl, Below.refl _ _⟩
  case round =>
    obtain ⟨m, hm1, hm, rfl, hb⟩ := hrel
    have HBo := Lib.hid hb
    clear hb
    by_cases hlt : m < ss.length
    · obtain ⟨z0, z1⟩ := H0.out m (by omega) hlt
      obtain ⟨z, hz⟩ : ∃ z, st.getD m 0 = z := ⟨_, rfl⟩
      have c1 := HCL.out m (by have := HLEN.out; omega)
      have HSM := Lib.hid (fun (k : Nat) (hk : k < m) => HS.out m k (by omega) hlt hk)
      rw [hz] at z0 z1 c1 HSM
      have C1 := Lib.hid c1
      clear hz c1
      obtain ⟨wo, hwo⟩ : ∃ wo, wo = wr := ⟨_, rfl⟩
      subst hwo
      go_wp2
      go_loopw [10] (fun k wx => ∃ j : Nat, j ≤ m ∧ k = .int .i64 (j : Int) ∧ Below w5.heap.size w5 wx) (fun k _ => m - (intOf k).toNat)
      case atStart => exact ⟨0, Nat.zero_le _, rfl, HBo.out⟩
      case round =>
        obtain ⟨j, hj, rfl, hb⟩ := hrel
        have HBx := Lib.hid hb
        clear hb
        by_cases hjm : j < m
        · obtain ⟨t0, t1, t2⟩ := HSM.out j hjm
          go_wp2_with (fail)
          (go_at_call 24; refine (stemMove_any _ _ ss st (m : Int) (j : Int) (wf_small (by omega) (by omega)) (wf_small (by omega) (by omega)) _ ((HSV.out.below HB4.out).below (HC.out _ HBx.out)) (HIV.out.below (HC.out _ HBx.out)) hsz2).mono ?_; rintro e w6 ⟨x, rfl, hx6, hb6⟩)
          have HB6 := Lib.hid (bl_step HBx.out hb6)
          clear hb6
          go_wp2_with (fail)
          (go_at_call 11; refine (stemChanges_any _ _ ss _ _ ((HSV.out.below HB4.out).below (HC.out _ HB6.out)) hx6.view hsz2).mono ?_; rintro e w7 ⟨rfl, hb7⟩)
          have HB7 := Lib.hid (bl_step HB6.out hb7)
          clear hb7 hx6
          have f1 := ((HC.out _ HB7.out).cell (p := ⟨A0, off + m, none⟩) hA0).trans C1.out
          generalize sch ss (smv ss st (m : Int) (j : Int)) = Y at t1 t2
          have d1 : decide (Y < N) = false := decide_eq_false (by omega)
          have m0 : (0 : Int) ≤ (m : Int) := by omega
          have m2 : (m : Int) < (st.length : Int) := by have := HLEN.out; omega
          by_cases hy : Y = N
          · have t3 := t2 hy
            have y0 : (Y == N) = true := by simpa using hy
            have d2 : decide ((j : Int) < z) = false := decide_eq_false (by omega)
            clear t2 t1 t3
            clear hy
            go_wp2
            go_roundw
            case rel => exact ⟨j + 1, by omega, by go_num, HB7.out⟩
            case measure => simp [intOf]; omega
          · have y0 : (Y == N) = false := by simpa using hy
            clear t2 t1 hy
            go_wp2
            go_roundw
            case rel => exact ⟨j + 1, by omega, by go_num, HB7.out⟩
            case measure => simp [intOf]; omega
        · go_wp2
          go_roundw
          case rel => exact ⟨m + 1, by omega, by omega, by go_num, HBx.out⟩
          case measure => simp [intOf]; omega
    · go_wp2
      go_ret
      exact ⟨rfl, bl_step HB1.out (bl_step HB4.out (HC.out _ HBo.out))⟩

noncomputable def fnStemBest_world (os : Os) : World := { World.holding Tryd.prog os ⟨#[], #[], []⟩ with heap := (((World.holding Tryd.prog os ⟨#[], #[], []⟩).heap.modify 1 fun | .cells _ t frozen => .cells #[.int .u8 128, .int .u8 191, .int .u8 160, .int .u8 191, .int .u8 128, .int .u8 159, .int .u8 144, .int .u8 191, .int .u8 128, .int .u8 143, .int .u8 0, .int .u8 0, .int .u8 0, .int .u8 0, .int .u8 0, .int .u8 0, .int .u8 0, .int .u8 0, .int .u8 0, .int .u8 0, .int .u8 0, .int .u8 0, .int .u8 0, .int .u8 0, .int .u8 0, .int .u8 0, .int .u8 0, .int .u8 0, .int .u8 0, .int .u8 0, .int .u8 0, .int .u8 0] t frozen | o => o).modify 0 fun | .cells _ t frozen => .cells ((Go.Pinned.utf8FirstZ.map fun (n : Nat) => Value.int .u8 (n : Int)).toArray) t frozen | o => o) }
theorem fnStemBest_met (os : Os) : laidMet Tryd.prog Rows.fnStemBestRow.laid ((fnStemBest_world os).forCall (fun _ _ => 0) ⟨#[], #[.slice none 0 0], []⟩).memory :=
  laidMet_of_run' 8 (by kernel_rfl) (by kernel_rfl)
theorem fnStemBest_reads (os : Os) {H : Type} (enc : TypeId × Value → H) : ∃ places, DataW.whole enc Tryd.prog ((fnStemBest_world os).forCall (fun _ _ => 0) ⟨#[], #[.slice none 0 0], []⟩).memory Tryd.f8.params.toList Rows.fnStemBestSpec.vars false (#[.slice none 0 0] : Array Value).toList 8 = some ([.nil], [], places) :=
  ⟨((DataW.whole enc Tryd.prog ((fnStemBest_world os).forCall (fun _ _ => 0) ⟨#[], #[.slice none 0 0], []⟩).memory Tryd.f8.params.toList Rows.fnStemBestSpec.vars false (#[.slice none 0 0] : Array Value).toList 8).getD ([], [], [])).2.2, by kernel_rfl⟩
set_option maxRecDepth 100000 in
theorem fnStemBest_lifted (os : Os) (started : os.Started) (H : Type) (enc : TypeId × Value → H) (F : Stop.Interp) :
    ReturnsInHanded {} Tryd.checked os 8 .any ((OpenSpec.ofChange Rows.fnStemBestSpec).preRow enc Tryd.prog Tryd.f8 Rows.fnStemBestRow.domain false Rows.fnStemBestRow.laid) (((OpenSpec.ofChange Rows.fnStemBestSpec).at F).post enc Tryd.prog Tryd.f8 false true false false) := by
  obtain ⟨places, hx⟩ := fnStemBest_reads os enc
  refine returnsInHanded_of_row (C := Tryd.checked) (s := OpenSpec.ofChange Rows.fnStemBestSpec) own started (by kernel_rfl) Tryd.func8
    (witness_row_at (enc := enc) (C := Tryd.checked) false (fnStemBest_world os) #[.slice none 0 0] rfl (by kernel_rfl) (by kernel_rfl) (by kernel_rfl)
      (OpenSpec.preRow_of_cond 8 hx (by kernel_rfl) (fun k hk => by cases hk) (by kernel_rfl) (fnStemBest_met os))) ?_
  intro W base args ds gs before hval0 hW _ _ _ hL _ _
  have hval : ∀ (j : Nat) t v, Tryd.f8.params[j]? = some t → args[j]? = some v → Value.okWide Tryd.prog W .any base t v := hval0
  have hW' := hW
  obtain ⟨p, q, hA0, hV, rfl, _, _⟩ := hW
  have hA : DataW.TrodAll enc Tryd.prog W 0 (fun _ => true) true Tryd.f8.params.toList args.toList ds p := hA0
  rw [Tryd.params8] at hA hval
  obtain ⟨v0, vs0, d0, ds0, p0, q0, hargs, rfl, rfl, h0, r0⟩ := trodAll_cons hA
  obtain ⟨rfl, rfl, rfl⟩ := trodAll_nil r0
  obtain rfl : args = #[v0] := by cases args; simp_all
  obtain ⟨rfl, rfl⟩ := trodVars_none hV
  obtain ⟨a0, n0, c0, rfl⟩ := okWide_slice Tryd.underlying22 (hval 0 22 v0 rfl rfl)
  have k0 := h0
  have lt0 : ∀ x ∈ p0, x.block < W.heap.size := by obtain ⟨m, hm⟩ := k0; exact DataW.trod_lt m _ _ _ hm
  have y0 := code_in h0
  clear hA0 hval0
  refine (fnStemBest_walk a0 n0 c0 W y0.1 y0.2.1 y0.2.2).mono fun e W' ⟨he, hb⟩ => ?_
  subst he
  exact ⟨_, rfl, _, _, _, [], _, [], hW', trodAll_cons_mk (shut_bool Tryd.underlying4 _) trodAll_mk0, trodAll_cons_mk (Below.trod laidOut (by kernel_rfl) (of_decide_eq_true (by kernel_rfl)) k0 hb lt0) (trodAll_mk0), rfl, hb.frame _, fun h => by cases h⟩


end Go.Proofs.YtbeiedaldinhaaaDoor
