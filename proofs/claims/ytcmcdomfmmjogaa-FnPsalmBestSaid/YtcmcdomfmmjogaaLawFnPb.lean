/-
  The law FnPsalmBest: for every code, the psalm tone found fits, none has more accents, and none ahead of it as many.
-/
import Derived.Test.YtcmcdomfmmjogaaPbm
import Derived.Test.YtcmcdomfmmjogaaDpb
import Derived.Test.YtcmcdomfmmjogaaOpen
import Derived.ChangeMaps5
import Derived.Deep.DeepRowAt
import Derived.Deep.DeepHandedRow
namespace Go.Proofs.Ytcmcdomfmmjogaa
open Go.RowKit Go.ChangeShapes Go.WideShapes Go.ChangeAt Go.ChangeMaps
set_option maxRecDepth 100000
set_option linter.unusedVariables false

set_option maxHeartbeats 3000000 in
theorem fnPsalmBest_walk (a : Option Addr) (n cap : Nat) (w : World) (h : CodeAt w a n) (hc : n ≤ cap) (hcap : cap ≤ maxLen) (hm : MaxAt w) :
    Calls Try.prog 7 #[.slice a n cap] w fun e w' => e = .returned (.bool true) ∧ Below w.heap.size w w' := by
  by_cases hn : 1048576 < n
  · have g : (1048576 : Int) < (n : Int) := by omega
    go_enter Try.func7, Try.ntmps7
    go_wp2
    go_ret
    exact ⟨rfl, Below.refl _ _⟩
  have g : decide ((1048576 : Int) < (n : Int)) = false := by simp; omega
  have gn : decide (1048576 < n) = false := decide_eq_false hn
  have HM := Lib.hid (fun W (hb : Below w.heap.size w W) => hm.below hb)
  clear hm
  go_enter Try.func7, Try.ntmps7
  go_wp2_with (fail)
  (go_at_call 32; refine (drawPsalmBest_any a n cap _ h hc hcap).mono ?_; rintro e w1 ⟨v, ps, s, rfl, hv, hl3, hs, hb1⟩)
  clear h hc hcap g gn hn
  have HB1 := Lib.hid hb1
  have HV := Lib.hid (fun W (hb : Below w1.heap.size w1 W) => hv.below hb)
  have KI := Lib.hid (fun W (hb : Below w1.heap.size w1 W) => psalmBest_any v ps s (by omega) W (hv.below hb) (HM.out W (bl_step hb1 hb)))
  have KS := Lib.hid (fun W (hb : Below w1.heap.size w1 W) => sPsalmBest_any v ps s (by omega) W (hv.below hb))
  have KP := Lib.hid (fun v p W (hb : Below w1.heap.size w1 W) (h : PV W v p) => psalmAccents_any v p s (by omega) W h (HM.out W (bl_step hb1 hb)))
  have KF := Lib.hid (fun v p W (hb : Below w1.heap.size w1 W) (h : PV W v p) => psalmFits_any v p s (by omega) W h (HM.out W (bl_step hb1 hb)))
  have HBEST := Lib.hid (pB_best (ps := ps) (s := s))
  obtain ⟨pa, pc, rfl, hlen, hat⟩ := hv.at
  have HAT := Lib.hid hat
  clear hv hat hb1 HV
  generalize pB ps s = r at KI KS HBEST
  obtain ⟨b, ok⟩ := r
  cases ok with
  | false =>
    go_wp2_with (fail)
    (go_at_call 33; refine (KI.out _ (Below.refl _ _)).mono ?_; rintro e w2 ⟨rfl, hb2⟩)
    go_wp2_with (fail)
    (go_at_call 34; refine (KS.out _ hb2).mono ?_; rintro e w3 ⟨rfl, hb3⟩)
    have hb13 := bl_step HB1.out (bl_step hb2 hb3)
    clear hb2 hb3
    go_wp2
    go_ret
    exact ⟨rfl, hb13⟩
  | true =>
    obtain ⟨p, hp, hf, hz, hall⟩ := HBEST.out rfl
    have hp : ps[b]? = some p := hp
    have HALL : Hid (∀ i q, ps[i]? = some q → psA q s ≤ psA p s ∧ (psA q s = psA p s → b ≤ i)) := hall
    have hbl : b < ps.length := (List.getElem?_eq_some_iff.1 hp).1
    obtain ⟨A, off, b0, b1, b2, d0, d1, d2, rfl, hA, e0, e1, e2, e3, e4, hpv⟩ := HAT.out b p hp
    have KPb := Lib.hid (fun W (hb : Below w1.heap.size w1 W) => KP.out _ p W hb (hpv.below hb))
    have KFb := Lib.hid (fun W (hb : Below w1.heap.size w1 W) => KF.out _ p W hb (hpv.below hb))
    rw [hf] at KFb
    have HX0 := Lib.hid e0
    have HX1 := Lib.hid e1
    have HX2 := Lib.hid e2
    have HX3 := Lib.hid e3
    have HX4 := Lib.hid e4
    have hA' := hA
    clear hall hp hf hpv e0 e1 e2 e3 e4
    generalize p.st.length = q0 at *
    generalize p.mi.length = q1 at *
    generalize p.en.length = q2 at *
    generalize p.tn.1 = ts at *
    generalize p.tn.2 = tb at *
    obtain ⟨z, hz'⟩ : ∃ z, psA p s = z := ⟨_, rfl⟩
    rw [hz'] at KPb HALL hz
    clear hz'
    have k0 : (0 : Int) ≤ (b : Int) := by omega
    have k1 : (b : Int) < (ps.length : Int) := by omega
    go_wp2_with (fail)
    (go_at_call 33; refine (KI.out _ (Below.refl _ _)).mono ?_; rintro e w2 ⟨rfl, hb2⟩)
    go_wp2_with (fail)
    (go_at_call 34; refine (KS.out _ hb2).mono ?_; rintro e w3 ⟨rfl, hb3⟩)
    have hb13 := bl_step hb2 hb3
    have x0 := (hb13.cell (p := ⟨A, off + b * 5, none⟩) hA).trans HX0.out
    have x1 := (hb13.cell (p := ⟨A, off + b * 5 + 1, none⟩) hA).trans HX1.out
    have x2 := (hb13.cell (p := ⟨A, off + b * 5 + 2, none⟩) hA).trans HX2.out
    have x3 := (hb13.cell (p := ⟨A, off + b * 5 + 3, none⟩) hA).trans HX3.out
    have x4 := (hb13.cell (p := ⟨A, off + b * 5 + 4, none⟩) hA).trans HX4.out
    clear hb2 hb3
    go_wp2_with (fail)
    (go_at_call 29; refine (KPb.out _ hb13).mono ?_; rintro e w4 ⟨rfl, hb4⟩)
    have hb14 := bl_step hb13 hb4
    have HB14 := Lib.hid hb14
    clear x0 x1 x2 x3 x4 hb13 hb4 hb14
    go_wp2
    go_loopw [10] (fun i wr => ∃ k : Nat, k ≤ ps.length ∧ i = .int .i64 k ∧ Below w1.heap.size w1 wr) (fun i _ => ps.length - (intOf i).toNat)
    case atStart => exact ⟨0, Nat.zero_le _, rfl, HB14.out⟩
    case round =>
      obtain ⟨k, hk, rfl, hb⟩ := hrel
      by_cases hlt : k < ps.length
      · obtain ⟨q, hq⟩ := ps_get hlt
        obtain ⟨A2, off2, c0, c1, c2, f0, f1, f2, ea, hA2, g0, g1, g2, g3, g4, hqv⟩ := HAT.out k q hq
        injection ea with ea
        injection ea with ea1 ea2
        subst ea1 ea2
        have g0 := (hb.cell (p := ⟨A, off + k * 5, none⟩) hA).trans g0
        have g1 := (hb.cell (p := ⟨A, off + k * 5 + 1, none⟩) hA).trans g1
        have g2 := (hb.cell (p := ⟨A, off + k * 5 + 2, none⟩) hA).trans g2
        have g3 := (hb.cell (p := ⟨A, off + k * 5 + 3, none⟩) hA).trans g3
        have g4 := (hb.cell (p := ⟨A, off + k * 5 + 4, none⟩) hA).trans g4
        have KQ := Lib.hid (fun W (hb : Below w1.heap.size w1 W) => KP.out _ q W hb (hqv.below hb))
        have hle := HALL.out k q hq
        have hk0 : (0 : Int) ≤ (k : Int) := by omega
        have hk1 : (k : Int) < (ps.length : Int) := by omega
        clear hqv hq
        generalize q.st.length = n0 at *
        generalize q.mi.length = n1 at *
        generalize q.en.length = n2 at *
        generalize psA q s = y at KQ hle
        have h1 : decide (z < y) = false := decide_eq_false (by omega)
        by_cases hy : y = z
        · subst hy
          have h2 : decide ((k : Int) < (b : Int)) = false := decide_eq_false (by have := hle.2 rfl; omega)
          have h3 : decide (k < b) = false := decide_eq_false (by have := hle.2 rfl; omega)
          clear hle
          go_wp2_with (fail)
          (go_at_call 29; refine (KQ.out _ hb).mono ?_; rintro e w5 ⟨rfl, hb5⟩)
          go_wp2
          go_roundw
          case rel => exact ⟨k + 1, by omega, by go_num, bl_step hb hb5⟩
          case measure => simp [intOf]; omega
        · have h2 : (y == z) = false := by simpa using hy
          clear hle
          go_wp2_with (fail)
          (go_at_call 29; refine (KQ.out _ hb).mono ?_; rintro e w5 ⟨rfl, hb5⟩)
          go_wp2
          go_roundw
          case rel => exact ⟨k + 1, by omega, by go_num, bl_step hb hb5⟩
          case measure => simp [intOf]; omega
      · have hkn : k = ps.length := by omega
        subst hkn
        have x0 := (hb.cell (p := ⟨A, off + b * 5, none⟩) hA).trans HX0.out
        have x1 := (hb.cell (p := ⟨A, off + b * 5 + 1, none⟩) hA).trans HX1.out
        have x2 := (hb.cell (p := ⟨A, off + b * 5 + 2, none⟩) hA).trans HX2.out
        have x3 := (hb.cell (p := ⟨A, off + b * 5 + 3, none⟩) hA).trans HX3.out
        have x4 := (hb.cell (p := ⟨A, off + b * 5 + 4, none⟩) hA).trans HX4.out
        have hzz : decide (0 ≤ z) = true := decide_eq_true hz
        go_wp2_with (fail)
        (go_at_call 25; refine (KFb.out _ hb).mono ?_; rintro e w6 ⟨rfl, hb6⟩)
        go_wp2
        go_ret
        exact ⟨rfl, bl_step HB1.out (bl_step hb hb6)⟩

noncomputable def fnPsalmBest_world (os : Os) : World := { World.holding Try.prog os ⟨#[], #[], []⟩ with heap := (World.holding Try.prog os ⟨#[], #[], []⟩).heap }
theorem fnPsalmBest_met (os : Os) : laidMet Try.prog Rows.fnPsalmBestRow.laid ((fnPsalmBest_world os).forCall (fun _ _ => 0) ⟨#[], #[.slice none 0 0], []⟩).memory :=
  laidMet_of_run' 8 (by kernel_rfl) (by kernel_rfl)
theorem fnPsalmBest_reads (os : Os) {H : Type} (enc : TypeId × Value → H) : ∃ places, DataW.whole enc Try.prog ((fnPsalmBest_world os).forCall (fun _ _ => 0) ⟨#[], #[.slice none 0 0], []⟩).memory Try.f7.params.toList Rows.fnPsalmBestSpec.vars false (#[.slice none 0 0] : Array Value).toList 8 = some ([.nil], [], places) :=
  ⟨((DataW.whole enc Try.prog ((fnPsalmBest_world os).forCall (fun _ _ => 0) ⟨#[], #[.slice none 0 0], []⟩).memory Try.f7.params.toList Rows.fnPsalmBestSpec.vars false (#[.slice none 0 0] : Array Value).toList 8).getD ([], [], [])).2.2, by kernel_rfl⟩
set_option maxRecDepth 100000 in
theorem fnPsalmBest_lifted (os : Os) (started : os.Started) (H : Type) (enc : TypeId × Value → H) (F : Stop.Interp) :
    ReturnsInHanded {} Try.checked os 7 .any ((OpenSpec.ofChange Rows.fnPsalmBestSpec).preRow enc Try.prog Try.f7 Rows.fnPsalmBestRow.domain false Rows.fnPsalmBestRow.laid) (((OpenSpec.ofChange Rows.fnPsalmBestSpec).at F).post enc Try.prog Try.f7 false true false false) := by
  obtain ⟨places, hx⟩ := fnPsalmBest_reads os enc
  refine returnsInHanded_of_row (C := Try.checked) (s := OpenSpec.ofChange Rows.fnPsalmBestSpec) own started (by kernel_rfl) Try.func7
    (witness_row_at (enc := enc) (C := Try.checked) false (fnPsalmBest_world os) #[.slice none 0 0] rfl (by kernel_rfl) (by kernel_rfl) (by kernel_rfl)
      (OpenSpec.preRow_of_cond 8 hx (by kernel_rfl) (fun k hk => by cases hk) (by kernel_rfl) (fnPsalmBest_met os))) ?_
  intro W base args ds gs before hval0 hW _ _ _ hL hSh _
  have hval : ∀ (j : Nat) t v, Try.f7.params[j]? = some t → args[j]? = some v → Value.okWide Try.prog W .any base t v := hval0
  have hW' := hW
  obtain ⟨p, q, hA0, hV, rfl, _, _⟩ := hW
  have hA : DataW.TrodAll enc Try.prog W 0 (fun _ => true) true Try.f7.params.toList args.toList ds p := hA0
  rw [Try.params7] at hA hval
  obtain ⟨v0, vs0, d0, ds0, p0, q0, hargs, rfl, rfl, h0, r0⟩ := trodAll_cons hA
  obtain ⟨rfl, rfl, rfl⟩ := trodAll_nil r0
  obtain rfl : args = #[v0] := by cases args; simp_all
  obtain ⟨rfl, rfl⟩ := trodVars_none hV
  obtain ⟨a0, n0, c0, rfl⟩ := okWide_slice Try.underlying22 (hval 0 22 v0 rfl rfl)
  have k0 := h0
  have lt0 : ∀ x ∈ p0, x.block < W.heap.size := by obtain ⟨m, hm⟩ := k0; exact DataW.trod_lt m _ _ _ hm
  have y0 := code_in h0
  clear hA0 hval0
  refine (fnPsalmBest_walk a0 n0 c0 W y0.1 y0.2.1 y0.2.2 (Try.laysM145.s1_3 W hSh)).mono fun e W' ⟨he, hb⟩ => ?_
  subst he
  exact ⟨_, rfl, _, _, _, [], _, [], hW', trodAll_cons_mk (shut_bool Try.underlying4 _) trodAll_mk0, trodAll_cons_mk (Below.trod laidOut (by kernel_rfl) (of_decide_eq_true (by kernel_rfl)) k0 hb lt0) (trodAll_mk0), rfl, hb.frame _, fun h => by cases h⟩


end Go.Proofs.Ytcmcdomfmmjogaa
