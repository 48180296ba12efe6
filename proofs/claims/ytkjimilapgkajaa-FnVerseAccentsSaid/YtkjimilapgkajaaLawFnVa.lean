/-
  The law FnVerseAccents: for every code, accents are syllables.
-/
import Derived.Test.YtkjimilapgkajaaVq
import Derived.Test.YtkjimilapgkajaaSmI
import Derived.Test.YtkjimilapgkajaaDrawV
import Derived.Test.YtkjimilapgkajaaCode
import Derived.Test.YtkjimilapgkajaaOpen
import Derived.ChangeMaps5
import Derived.Deep.DeepRowAt
import Derived.Deep.DeepHandedRow
namespace Go.Proofs.Ytkjimilapgkajaa
open Go.RowKit Go.ChangeShapes Go.WideShapes Go.ChangeAt Go.ChangeMaps
set_option maxRecDepth 100000
set_option linter.unusedVariables false

set_option maxHeartbeats 16000000 in
theorem fnVerseAccents_walk (a : Option Addr) (n cap : Nat) (w : World) (h : CodeAt w a n) (hc : n ≤ cap) (hcap : cap ≤ maxLen) (hm : MaxAt w) :
    Calls Try.prog 17 #[.slice a n cap] w fun e w' => e = .returned (.bool true) ∧ Below w.heap.size w w' := by
  by_cases hn : 1048576 < n
  · have g : (1048576 : Int) < (n : Int) := by omega
    go_enter Try.func17, Try.ntmps17
    go_wp2
    go_ret
    exact ⟨rfl, Below.refl _ _⟩
  have g : decide ((1048576 : Int) < (n : Int)) = false := by simp; omega
  have HM : Hid (∀ W, Below w.heap.size w W → MaxAt W) := fun W hb => hm.below hb
  clear hm
  go_enter Try.func17, Try.ntmps17
  go_wp2_with (fail)
  (go_at_call 67; refine (drawVerseAccents_any a n cap _ h hc hcap).mono ?_; rintro e w1 ⟨s, rfl, hs9, hb1⟩)
  clear h hc hcap g hn
  have KI := Lib.hid (fun W h => verseAccents_any s (by omega) W h)
  have KS := Lib.hid (fun W => sVerseAccents_any s (by omega) W)
  have hvl := vacc_len s
  have hva := Lib.hid (show vacc s = acc (vall s).data.toList (vall s).size from rfl)
  have hE : vvl s.data.toList = false → vacc s = [] := vacc_no
  obtain ⟨L, hL⟩ : ∃ L, (vacc s).length = L := ⟨_, rfl⟩
  by_cases hL0 : L = 0
  · have hnil : vacc s = [] := List.eq_nil_of_length_eq_zero (by omega)
    rw [hnil] at KI KS
    clear hE hva hnil hL hvl
    go_wp2_with (fail)
    (go_at_call 32; refine (KI.out _ (HM.out _ hb1)).mono ?_; rintro e w2 ⟨u, rfl, hu, hb2⟩)
    go_wp2_with (fail)
    (go_at_call 31; refine (KS.out _).mono ?_; rintro e w3 ⟨v, rfl, hv, hb3⟩)
    have hu := hu.below hb3 (.inl (Nat.le_refl _))
    obtain ⟨ua, uc, rfl, _⟩ := hu.flat' (n := 0) rfl
    obtain ⟨va, vc, rfl, _⟩ := hv.flat' (n := 0) rfl
    have HU := Lib.hid hu
    have HV := Lib.hid hv
    have bw3 := Lib.hid (bl_step (bl_step hb1 hb2) hb3)
    have zz : w2.heap.size ≤ w3.heap.size := hb3.size
    clear hu hv hb1 hb2 hb3
    go_wp2_with (fail)
    (go_at_call 68; refine (sameInts_yes _ _ _ _ _ _ [] (by simp) _ HU.out HV.out).mono ?_; rintro e w4 ⟨rfl, hb4⟩)
    go_wp2_with (fail)
    (go_at_call 68; refine (sameInts_yes _ _ _ _ _ _ [] (by simp) _ (HU.out.below hb4 (.inl zz)) (HV.out.below hb4 (.inl (Nat.le_refl _)))).mono ?_; rintro e w5 ⟨rfl, hb5⟩)
    go_wp2
    go_ret
    exact ⟨rfl, bl_step (bl_step bw3.out hb4) hb5⟩
  have hv : vvl s.data.toList = true := by
    cases hh : vvl s.data.toList
    · rw [hE hh] at hL; exact absurd hL.symm hL0
    · rfl
  have h20 := vhalf_size' s
  have hall : vall s = vFst s ++ vSnd s := rfl
  have KH := Lib.hid (fun W h => verseHalves_any s (by omega) W h)
  have KE := Lib.hid (fun W h => verseEnds_any s (by omega) W h)
  rw [(vE_yes hv).1, (vE_yes hv).2] at KE
  rw [hv] at KH KE
  have hva := hva.out
  rw [hall] at hva
  have hzl : ∃ z, (vacc s).getLast? = some z := by
    cases hh : (vacc s).getLast? with
    | none => rw [List.getLast?_eq_none_iff] at hh; rw [hh] at hL; exact absurd hL.symm hL0
    | some z => exact ⟨z, rfl⟩
  obtain ⟨z, hz⟩ := hzl
  have hzd : (vacc s).getD (L - 1) 0 = z := by
    rw [List.getLast?_eq_getElem?, hL] at hz
    rw [List.getD_eq_getElem?_getD, hz]; rfl
  have HEND := hz
  rw [hva] at HEND
  have HEN := Lib.hid (acc_end _ _ HEND)
  have hsz : (vFst s ++ vSnd s).size = (vFst s).size + (vSnd s).size := ByteArray.size_append
  have hadd : ∀ W : World, (Op.stringOp .add (vFst s) (vSnd s)).run Try.prog W = .ok (.string (vFst s ++ vSnd s)) W := fun W => run_string_add_sum W _ _ (by omega)
  have HAT : Hid (∀ k (c : UInt8), (vFst s ++ vSnd s).data.toList[k]? = some c → c = 47 → k < (vFst s ++ vSnd s).size → (acc (vFst s ++ vSnd s).data.toList k).length < L ∧ (vacc s).getD (acc (vFst s ++ vSnd s).data.toList k).length 0 = (k : Int) ∧ (acc (vFst s ++ vSnd s).data.toList (k + 1)).length = (acc (vFst s ++ vSnd s).data.toList k).length + 1) := by
    intro k c h1 h2 h3
    have := acc_at h1 h2 h3
    rw [← hva, hL] at this
    exact this
  have HMI : Hid (∀ k (c : UInt8), (vFst s ++ vSnd s).data.toList[k]? = some c → c ≠ 47 → acc (vFst s ++ vSnd s).data.toList (k + 1) = acc (vFst s ++ vSnd s).data.toList k) := fun k c => acc_miss
  have HLN : Hid ((acc (vFst s ++ vSnd s).data.toList (vFst s ++ vSnd s).size).length = L) := by show _ = _; rw [← hva, hL]
  have hx1 := enx (vFst s)
  clear hva hE hz HEND hv
  generalize vacc s = zs at *
  generalize vFst s = x at *
  generalize vSnd s = y at *
  generalize enx x = ex at KE
  generalize hey : enx y = ey at KE HEN
  generalize x ++ y = c at *
  have HL := Lib.hid hL
  have hL1 : L ≤ 20 := by omega
  clear hL hey hall
  go_wp2_with (fail)
  (go_at_call 32; refine (KI.out _ (HM.out _ hb1)).mono ?_; rintro e w2 ⟨u, rfl, hu, hb2⟩)
  go_wp2_with (fail)
  (go_at_call 31; refine (KS.out _).mono ?_; rintro e w3 ⟨v, rfl, hv, hb3⟩)
  have hu := hu.below hb3 (.inl (Nat.le_refl _))
  obtain ⟨ua, uc, rfl, fu⟩ := hu.flat' (n := L) HL.out
  obtain ⟨va, vc, rfl, _⟩ := hv.flat' (n := L) HL.out
  have HU := Lib.hid hu
  have HV := Lib.hid hv
  have FU := Lib.hid fu
  have bw3 := Lib.hid (bl_step (bl_step hb1 hb2) hb3)
  clear hu hv fu hb1 hb2 hb3
  have e0 : ((L : Int) == 0) = false := by rw [beq_eq_false_iff_ne]; omega
  go_wp2_with (fail)
  (go_at_call 68; refine (sameInts_yes _ _ _ _ _ _ zs (by omega) _ HU.out HV.out).mono ?_; rintro e w4 ⟨rfl, hb4⟩)
  have bw4 := bl_step bw3.out hb4
  go_wp2_with (fail)
  (go_at_call 30; refine (KH.out _ (HM.out _ bw4)).mono ?_; rintro e w5 ⟨rfl, hb5⟩)
  have bw35 : Below w3.heap.size w3 w5 := bl_step hb4 hb5
  have bw5 := Lib.hid (bl_step bw3.out bw35)
  clear hb4 hb5 bw4
  go_wp2
  go_loopw [10, 11] (fun t i wr => ∃ k m : Nat, k ≤ c.size ∧ i = .int .i64 k ∧ t = .int .i64 m ∧ m ≤ k ∧ Hid (m = (acc c.data.toList k).length) ∧ Below w5.heap.size w5 wr) (fun _ i _ => c.size - (intOf i).toNat)
  case atStart => exact ⟨0, 0, Nat.zero_le _, rfl, rfl, Nat.le_refl _, rfl, Below.refl _ _⟩
  case round =>
    obtain ⟨k, m, hk, rfl, rfl, hmk, hma, hb⟩ := hrel
    by_cases hlt : k < c.size
    · have k1 : (k : Int) < (c.size : Int) := by omega
      have k0 : (0 : Int) ≤ (k : Int) := by omega
      have ha := at_list c k hlt
      by_cases hc47 : c[k].toNat = 47
      · have h1 : ((c[k].toNat : Int) != 47) = false := by rw [hc47]; rfl
        obtain ⟨p1, p2, p3⟩ := HAT.out k c[k] ha (UInt8.toNat_inj.1 hc47) hlt
        rw [← hma.out] at p1 p2 p3
        obtain ⟨g', rfl, hg', hcell⟩ := FU.out (by omega)
        have e1 := (hb.cell (p := ⟨g', m, none⟩) (Nat.lt_of_lt_of_le hg' bw35.size)).trans ((bw35.cell (p := ⟨g', m, none⟩) hg').trans (hcell m p1))
        rw [p2] at e1
        have m0 : (0 : Int) ≤ (m : Int) := by omega
        have m1 : (m : Int) < (L : Int) := by omega
        have m2 : ¬ (L : Int) ≤ (m : Int) := by omega
        have HP3 : Hid (m + 1 = (acc c.data.toList (k + 1)).length) := p3.symm
        clear ha hc47 p1 p2 p3 hma hcell
        go_wp2
        go_roundw
        case rel => exact ⟨k + 1, m + 1, by omega, by go_num, by go_num, by omega, HP3, hb⟩
        case measure => simp [intOf]; omega
      · have h1 : ((c[k].toNat : Int) != 47) = true := by rw [bne_iff_ne]; omega
        have HP3 : Hid (m = (acc c.data.toList (k + 1)).length) := by
          show _ = _
          rw [HMI.out k c[k] ha (fun e => hc47 (by rw [e]; rfl))]; exact hma.out
        clear ha hc47 hma
        go_wp2
        go_roundw
        case rel => exact ⟨k + 1, m, by omega, by go_num, rfl, by omega, HP3, hb⟩
        case measure => simp [intOf]; omega
    · have hke : k = c.size := by omega
      subst hke
      have hmL : m = L := hma.out.trans HLN.out
      subst hmL
      have bwr := bl_step bw5.out hb
      obtain ⟨g', rfl, hg', hcell⟩ := FU.out (by omega)
      have e1 := (hb.cell (p := ⟨g', m - 1, none⟩) (Nat.lt_of_lt_of_le hg' bw35.size)).trans ((bw35.cell (p := ⟨g', m - 1, none⟩) hg').trans (hcell (m - 1) (by omega)))
      rw [hzd] at e1
      have hgr : g' < wr.heap.size := Nat.lt_of_lt_of_le (Nat.lt_of_lt_of_le hg' bw35.size) hb.size
      have s1 : IntKind.i64.wrap ((m : Int) - 1) = ((m - 1 : Nat) : Int) := by rw [show (m : Int) - 1 = ((m - 1 : Nat) : Int) by omega]; exact IntWalk.i64_in _ (by omega)
      have s2 : (m : Int) - 1 = ((m - 1 : Nat) : Int) := by omega
      have s3 : (0 : Int) ≤ ((m - 1 : Nat) : Int) := by omega
      have s4 : ((m - 1 : Nat) : Int) < (m : Int) := by omega
      have HEN := HEN.out
      clear hma hcell
      go_wp2_with (fail)
      (go_at_call 39; refine (KE.out _ (HM.out _ bwr)).mono ?_; rintro e w6 ⟨rfl, hb6⟩)
      have e2 := (hb6.cell (p := ⟨g', m - 1, none⟩) hgr).trans e1
      have bw6 := Lib.hid (bl_step bwr hb6)
      clear hb6 e1
      rcases HEN with ⟨q1, q2⟩ | ⟨q1, q1', q2⟩
      · have q3 : (ey == (y.size : Int)) = true := by rw [q2]; simp
        clear q2
        go_wp2
        go_ret
        exact ⟨rfl, bw6.out⟩
      · have q0 : decide (z < (x.size : Int)) = false := by simp; omega
        have q3 : (ey == (x.size : Int) + (y.size : Int) - 1 - z) = true := by rw [q2]; simp
        have q4 : (ey == (c.size : Int) - 1 - z) = true := by rw [beq_iff_eq, q2]; omega
        have q5 : (0 : Int) ≤ (x.size : Int) + (y.size : Int) - 1 - z := by omega
        have q6 : (x.size : Int) + (y.size : Int) - 1 - z ≤ 20 := by omega
        have q7 : IntKind.i64.wrap ((x.size : Int) + (y.size : Int) - 1 - z) = (x.size : Int) + (y.size : Int) - 1 - z := IntWalk.i64_in _ (by omega)
        have q8 : (0 : Int) ≤ (x.size : Int) + (y.size : Int) - 1 := by omega
        clear q2
        go_wp2
        go_ret
        exact ⟨rfl, bw6.out⟩

noncomputable def fnVerseAccents_world (os : Os) : World := { World.holding Try.prog os ⟨#[], #[], []⟩ with heap := (World.holding Try.prog os ⟨#[], #[], []⟩).heap }
theorem fnVerseAccents_met (os : Os) : laidMet Try.prog Rows.fnVerseAccentsRow.laid ((fnVerseAccents_world os).forCall (fun _ _ => 0) ⟨#[], #[.slice none 0 0], []⟩).memory :=
  laidMet_of_run' 8 (by kernel_rfl) (by kernel_rfl)
theorem fnVerseAccents_reads (os : Os) {H : Type} (enc : TypeId × Value → H) : ∃ places, DataW.whole enc Try.prog ((fnVerseAccents_world os).forCall (fun _ _ => 0) ⟨#[], #[.slice none 0 0], []⟩).memory Try.f17.params.toList Rows.fnVerseAccentsSpec.vars false (#[.slice none 0 0] : Array Value).toList 8 = some ([.nil], [], places) :=
  ⟨((DataW.whole enc Try.prog ((fnVerseAccents_world os).forCall (fun _ _ => 0) ⟨#[], #[.slice none 0 0], []⟩).memory Try.f17.params.toList Rows.fnVerseAccentsSpec.vars false (#[.slice none 0 0] : Array Value).toList 8).getD ([], [], [])).2.2, by kernel_rfl⟩
set_option maxRecDepth 100000 in
theorem fnVerseAccents_lifted (os : Os) (started : os.Started) (H : Type) (enc : TypeId × Value → H) (F : Stop.Interp) :
    ReturnsInHanded {} Try.checked os 17 .any ((OpenSpec.ofChange Rows.fnVerseAccentsSpec).preRow enc Try.prog Try.f17 Rows.fnVerseAccentsRow.domain false Rows.fnVerseAccentsRow.laid) (((OpenSpec.ofChange Rows.fnVerseAccentsSpec).at F).post enc Try.prog Try.f17 false true false false) := by
  obtain ⟨places, hx⟩ := fnVerseAccents_reads os enc
  refine returnsInHanded_of_row (C := Try.checked) (s := OpenSpec.ofChange Rows.fnVerseAccentsSpec) own started (by kernel_rfl) Try.func17
    (witness_row_at (enc := enc) (C := Try.checked) false (fnVerseAccents_world os) #[.slice none 0 0] rfl (by kernel_rfl) (by kernel_rfl) (by kernel_rfl)
      (OpenSpec.preRow_of_cond 8 hx (by kernel_rfl) (fun k hk => by cases hk) (by kernel_rfl) (fnVerseAccents_met os))) ?_
  intro W base args ds gs before hval0 hW _ _ _ hL hSh _
  have hval : ∀ (j : Nat) t v, Try.f17.params[j]? = some t → args[j]? = some v → Value.okWide Try.prog W .any base t v := hval0
  have hW' := hW
  obtain ⟨p, q, hA0, hV, rfl, _, _⟩ := hW
  have hA : DataW.TrodAll enc Try.prog W 0 (fun _ => true) true Try.f17.params.toList args.toList ds p := hA0
  rw [Try.params17] at hA hval
  obtain ⟨v0, vs0, d0, ds0, p0, q0, hargs, rfl, rfl, h0, r0⟩ := trodAll_cons hA
  obtain ⟨rfl, rfl, rfl⟩ := trodAll_nil r0
  obtain rfl : args = #[v0] := by cases args; simp_all
  obtain ⟨rfl, rfl⟩ := trodVars_none hV
  obtain ⟨a0, n0, c0, rfl⟩ := okWide_slice Try.underlying66 (hval 0 66 v0 rfl rfl)
  have k0 := h0
  have lt0 : ∀ x ∈ p0, x.block < W.heap.size := by obtain ⟨m, hm⟩ := k0; exact DataW.trod_lt m _ _ _ hm
  have y0 := code_in h0
  clear hA0 hval0
  refine (fnVerseAccents_walk a0 n0 c0 W y0.1 y0.2.1 y0.2.2 (Try.laysM145.s1_3 W hSh)).mono fun e W' ⟨he, hb⟩ => ?_
  subst he
  exact ⟨_, rfl, _, _, _, [], _, [], hW', trodAll_cons_mk (shut_bool Try.underlying4 _) trodAll_mk0, trodAll_cons_mk (Below.trod laidOut (by kernel_rfl) (of_decide_eq_true (by kernel_rfl)) k0 hb lt0) (trodAll_mk0), rfl, hb.frame _, fun h => by cases h⟩


end Go.Proofs.Ytkjimilapgkajaa
