/-
  The law FnBooksCommon: for every code, the common text is nearest to all manuscripts together.
-/
import Derived.Test.YthhndlefafcdeaaDoorBe
import Derived.Test.YthhndlefafcdeaaDoorBm9
import Derived.Test.YthhndlefafcdeaaDoorBc
import Derived.Test.YthhndlefafcdeaaDoorDbf
import Derived.Test.YthhndlefafcdeaaDoorOpen
import Derived.BigQuiet
import Derived.Deep.RegionWith
import Derived.ChangeMaps5
import Derived.Deep.DeepRowAt
import Derived.Deep.DeepHandedRow
import Derived.OpenVars
import Derived.SevenTiedAt
import Derived.Test.YthhndlefafcdeaaDoorCards
import Derived.Test.YthhndlefafcdeaaDoorTie
namespace Go.Proofs.YthhndlefafcdeaaDoor
open Go.RowKit Go.ChangeShapes Go.WideShapes Go.ChangeAt
set_option maxRecDepth 100000
set_option linter.unusedVariables false

theorem toList_ne {s t : ByteArray} (h : s ≠ t) : (s.toList == t.toList) = false := by
  rw [beq_eq_false_iff_ne, ByteArray.toList_eq, ByteArray.toList_eq]
  intro e
  have h3 : s.data = t.data := Array.toList_inj.1 e
  exact h (by cases s; cases t; simpa using h3)
theorem bka_at {ss : List ByteArray} {i : Nat} (hi : i < ss.length) : ss[i]? = some (bka ss i) := by
  unfold bka; rw [List.getElem?_eq_getElem hi]; rfl

set_option maxHeartbeats 8000000 in
theorem fnBooksCommon_walk (a : Option Addr) (n cap : Nat) (w : World) (h : CodeAt w a n) (hc : n ≤ cap) (hcap : cap ≤ maxLen) :
    Calls Tryd.prog 14 #[.slice a n cap] w fun e w' => e = .returned (.bool true) ∧ Below w.heap.size w w' := by
  have HD := Lib.hid (drawBooksCommon_any a n cap w h hc hcap)
  clear h
  unfold maxLen at hcap
  by_cases hn : 1048576 < n
  · have g : (1048576 : Int) < (n : Int) := by omega
    go_enter Tryd.func14, Tryd.ntmps14
    go_wp2
    go_ret
    exact ⟨rfl, Below.refl _ _⟩
  have g : decide ((1048576 : Int) < (n : Int)) = false := by simp; omega
  go_enter Tryd.func14, Tryd.ntmps14
  go_wp2_with (fail)
  (go_at_call 45; refine (HD.out).mono ?_; rintro e w1 ⟨v, ss, rfl, hsv, hsz, hl5, hb1⟩)
  have hsz2 : ∀ s ∈ ss, s.size ≤ 4611686018427387904 := fun s hs => by have := hsz s hs; omega
  have HSV := Lib.hid hsv
  have HB1 := Lib.hid hb1
  clear hb1 hsv
  go_wp2_with (fail)
  (go_at_call 23; refine (booksCommon_any v ss _ HSV.out hsz2).mono ?_; rintro e w2 ⟨rfl, hb2⟩)
  have HB2 := Lib.hid hb2
  clear hb2
  go_wp2_with (fail)
  (go_at_call 22; refine (sBooksCommon_any v ss _ (HSV.out.below HB2.out) hsz2).mono ?_; rintro e w3 ⟨rfl, md, hw3⟩)
  have HB3 : Hid (Below w1.heap.size w1 w3) := by show Below _ _ _; rw [hw3]; exact bl_drewN HB2.out _
  clear hw3
  by_cases hv : bval ss = true
  case neg =>
    have hv' : bval ss = false := by simpa using hv
    clear hv
    generalize bcom ss = out
    go_wp2
    go_ret
    exact ⟨rfl, bl_step HB1.out HB3.out⟩
  have HV := Lib.hid hv
  have hone := (bkIn_parts (bval_in hv).1).1
  have hp8 := (bkIn_parts (bval_in hv).1).2.2.2
  have hosz := bcom_size hv
  obtain ⟨out, hout⟩ : ∃ out, bcom ss = out := ⟨_, rfl⟩
  obtain ⟨P, hP⟩ : ∃ P, plc ss = P := ⟨_, rfl⟩
  have HSM := Lib.hid (fun (k : Nat) (hk : k ≤ 5) => dsum_small (bcom ss) hv hk)
  have HOS := Lib.hid (fun (i k : Nat) (hi : i < ss.length) (hk : k ≤ 5) => osum_small (i := i) (k := k) hv hi hk)
  have HLE := Lib.hid (fun (i : Nat) (hi : i < ss.length) => osum_least hv hi)
  have HEQ := Lib.hid (fun h => bcom_equal hv h)
  have HZ := Lib.hid (fun (i : Nat) (hi : i < ss.length) => bka_size hv hi)
  rw [hout] at hosz HSM HLE HEQ ⊢
  rw [hP] at hosz HSM HLE HEQ HZ hp8
  have HO := Lib.hid hosz
  obtain ⟨ad, c, rfl, had, _, _⟩ := HSV.out
  obtain ⟨A0, off, had, hA0, hcl⟩ : ∃ A off, ad = some ⟨A, off, none⟩ ∧ A < w1.heap.size ∧ ∀ i s, ss[i]? = some s → w1.cell? ⟨A, off + i, none⟩ = some (.string s) := by
    rcases had with h | h
    · rw [h] at hone; simp at hone
    · exact h
  subst had
  have HCL := Lib.hid (fun (i : Nat) (hi : i < ss.length) => hcl i _ (bka_at hi))
  have HF : Hid (∀ W (i k : Nat), i < ss.length → k < ss.length → Below w1.heap.size w1 W → Calls Tryd.prog 21 #[.slice (some ⟨A0, off, none⟩) ss.length c, .int .i64 (i : Int), .int .i64 (k : Int)] W fun e w' => e = .returned (.int .i64 ((fr (bka ss i) (bka ss k) : Nat) : Int)) ∧ Below W.heap.size W w') := fun W i k h1 h2 hb => by
    have h := booksFar_any _ ss (i : Int) (k : Int) (wf_small (by omega) (by omega)) (wf_small (by omega) (by omega)) W (HSV.out.below hb) hsz2
    rwa [bfar_at hv (bka_at h1) (bka_at h2)] at h
  clear hcl hosz hout hP
  go_wp2
  go_loopw [8, 9] (fun s i wr => ∃ m S : Nat, m ≤ ss.length ∧ i = .int .i64 (m : Int) ∧ s = .int .i64 (S : Int) ∧ S = dsum ss out P m ∧ Below w1.heap.size w1 wr) (fun _ i _ => ss.length - (intOf i).toNat)
  case atStart => exact ⟨0, 0, Nat.zero_le _, rfl, rfl, rfl, HB3.out⟩
  case round =>
    obtain ⟨m, S, hm, rfl, rfl, hS, hb⟩ := hrel
    have HBo := Lib.hid hb
    clear hb
    obtain ⟨wo, hwo⟩ : ∃ wo, wo = wr := ⟨_, rfl⟩
    subst hwo
    by_cases hlt : m < ss.length
    · have HS := Lib.hid hS
      have hS4 := HSM.out m (by omega)
      rw [← hS] at hS4
      clear hS
      go_wp2
      go_loopw [8, 10] (fun s k wx => ∃ j Z : Nat, j ≤ out.size ∧ k = .int .i64 (j : Int) ∧ s = .int .i64 (Z : Int) ∧ Z = S + frk (bka ss m) out j ∧ Below w1.heap.size w1 wx) (fun _ k _ => out.size - (intOf k).toNat)
      case atStart => exact ⟨0, S, Nat.zero_le _, rfl, rfl, rfl, HBo.out⟩
      case round =>
        obtain ⟨j, Z, hj, rfl, rfl, hZ, hb⟩ := hrel
        have HBx := Lib.hid hb
        clear hb
        by_cases hjl : j < out.size
        · obtain ⟨s, hs⟩ : ∃ s, bka ss m = s := ⟨_, rfl⟩
          have f1 := (HBx.out.cell (p := ⟨A0, off + m, none⟩) hA0).trans (HCL.out m hlt)
          have hz := HZ.out m hlt
          rw [hs] at f1 hZ hz
          have hlt1 : j < s.size := by have := HO.out; omega
          have hj8 : j ≤ 8 := by have := HO.out; omega
          have hfl := frk_le s out j
          have hZ1 : Z ≤ 1000 := by have := HO.out; omega
          have k0 : (0 : Int) ≤ (j : Int) := by omega
          have k1 : (j : Int) < (s.size : Int) := by omega
          have k2 : (j : Int) < (out.size : Int) := by omega
          have m0 : (0 : Int) ≤ (m : Int) := by omega
          have m1 : (m : Int) < (ss.length : Int) := by omega
          have HZZ := Lib.hid hZ
          clear hz hfl hZ
          by_cases he : s[j].toNat = out[j].toNat
          · have HX := Lib.hid (frk_same hlt1 hjl he)
            have h1 : ((s[j].toNat : Int) != (out[j].toNat : Int)) = false := by rw [bne_eq_false_iff_eq]; omega
            clear he
            go_wp2
            go_quiet (fail)
            go_wp2
            go_roundw
            case rel => exact ⟨j + 1, Z, by omega, by go_num, rfl, by rw [hs, HX.out]; exact HZZ.out, bl_drewN HBx.out _⟩
            case measure => simp [intOf]; omega
          · have HX := Lib.hid (frk_other hlt1 hjl he)
            have h1 : ((s[j].toNat : Int) != (out[j].toNat : Int)) = true := by rw [bne_iff_ne]; omega
            clear he
            go_wp2
            go_quiet (fail)
            go_wp2
            go_roundw
            case rel => exact ⟨j + 1, Z + 1, by omega, by go_num, by go_num, by rw [hs, HX.out]; have := HZZ.out; omega, bl_drewN HBx.out _⟩
            case measure => simp [intOf]; omega
        · have hje : j = P := by have := HO.out; omega
          have HN : Hid (Z = dsum ss out P (m + 1)) := by
            show _ = _
            rw [dsum, ← HS.out, hZ, hje]
          clear hje hZ
          go_wp2
          go_roundw
          case rel => exact ⟨m + 1, Z, by omega, by go_num, rfl, HN.out, HBx.out⟩
          case measure => simp [intOf]; omega
    · have hmn : m = ss.length := by omega
      have HS : Hid (S = dsum ss out P ss.length) := by rw [hmn] at hS; exact hS
      clear hS hmn
      go_wp2
      go_loopw [11, 12] (fun q i wq => ∃ (m : Nat) (b : Bool), m ≤ ss.length ∧ i = .int .i64 (m : Int) ∧ q = .bool b ∧ (b = true → ∀ j, j < m → bka ss j = bka ss 0) ∧ Below w1.heap.size w1 wq) (fun _ i _ => ss.length - (intOf i).toNat)
      case atStart => exact ⟨0, true, Nat.zero_le _, rfl, rfl, fun _ j hj => by omega, HBo.out⟩
      case round =>
        obtain ⟨m2, b, hm2, rfl, rfl, hbe, hb⟩ := hrel
        have HBE := Lib.hid hbe
        have HBq := Lib.hid hb
        clear hbe hb
        by_cases hlt2 : m2 < ss.length
        · obtain ⟨wp, hwp⟩ : ∃ wp, wp = wr := ⟨_, rfl⟩
          subst hwp
          go_wp2
          go_loopw [13, 14] (fun o k wx => ∃ j Z : Nat, j ≤ ss.length ∧ k = .int .i64 (j : Int) ∧ o = .int .i64 (Z : Int) ∧ Z = osum ss m2 j ∧ Below w1.heap.size w1 wx) (fun _ k _ => ss.length - (intOf k).toNat)
          case atStart => exact ⟨0, 0, Nat.zero_le _, rfl, rfl, rfl, HBq.out⟩
          case round =>
            obtain ⟨j, Z, hj, rfl, rfl, hZ, hb⟩ := hrel
            have HBx := Lib.hid hb
            clear hb
            by_cases hjl : j < ss.length
            · have HN : Hid (Z + fr (bka ss m2) (bka ss j) = osum ss m2 (j + 1)) := by show _ = _; rw [osum, ← hZ]
              have hZ4 := HOS.out m2 j hlt2 (by omega)
              have hf4 := HOS.out m2 (j + 1) hlt2 (by omega)
              rw [← hZ] at hZ4
              rw [← HN.out] at hf4
              clear hZ
              go_wp2_with (fail)
              (go_at_call 21; refine (HF.out _ m2 j hlt2 hjl HBx.out).mono ?_; rintro e w6 ⟨rfl, hb6⟩)
              have HB6 := Lib.hid (bl_step HBx.out hb6)
              clear hb6
              generalize fr (bka ss m2) (bka ss j) = F at HN hf4 ⊢
              go_wp2
              go_roundw
              case rel => exact ⟨j + 1, Z + F, by omega, by go_num, by go_num, HN.out, HB6.out⟩
              case measure => simp [intOf]; omega
            · have hle := HLE.out m2 hlt2
              have hje : j = ss.length := by omega
              rw [← HS.out] at hle
              rw [hje] at hZ
              rw [← hZ] at hle
              have d1 : decide ((Z : Int) < (S : Int)) = false := decide_eq_false (by omega)
              have d2 : decide (Z < S) = false := decide_eq_false (by omega)
              clear hje hZ hle
              obtain ⟨s, hs⟩ : ∃ s, bka ss m2 = s := ⟨_, rfl⟩
              obtain ⟨s0, hs0⟩ : ∃ s0, bka ss 0 = s0 := ⟨_, rfl⟩
              have f1 := (HBx.out.cell (p := ⟨A0, off + m2, none⟩) hA0).trans (HCL.out m2 hlt2)
              have f2 := (HBx.out.cell (p := ⟨A0, off, none⟩) hA0).trans (HCL.out 0 (by omega))
              rw [hs] at f1
              rw [hs0] at f2
              have m0 : (0 : Int) ≤ (m2 : Int) := by omega
              have m1 : (m2 : Int) < (ss.length : Int) := by omega
              have m3 : (0 : Int) < (ss.length : Int) := by omega
              by_cases hbt : b = true
              · subst hbt
                by_cases hss : s = s0
                · have HN : Hid (∀ j, j < m2 + 1 → bka ss j = bka ss 0) := fun j hj => by
                    by_cases e : j = m2
                    · rw [e, hs, hs0, hss]
                    · exact HBE.out rfl j (by omega)
                  subst hss
                  go_wp2
                  go_quiet (fail)
                  go_wp2
                  go_roundw
                  case rel => exact ⟨m2 + 1, true, by omega, by go_num, rfl, fun _ => HN.out, bl_drewN HBx.out _⟩
                  case measure => simp [intOf]; omega
                · have hst := toList_ne hss
                  go_wp2
                  go_quiet (fail)
                  go_wp2
                  go_roundw
                  case rel => exact ⟨m2 + 1, false, by omega, by go_num, rfl, fun h => by simp at h, bl_drewN HBx.out _⟩
                  case measure => simp [intOf]; omega
              · have hbf : b = false := by simpa using hbt
                subst hbf
                go_wp2
                go_quiet (fail)
                go_wp2
                go_roundw
                case rel => exact ⟨m2 + 1, false, by omega, by go_num, rfl, fun h => by simp at h, bl_drewN HBx.out _⟩
                case measure => simp [intOf]; omega
        · obtain ⟨s0, hs0⟩ : ∃ s0, bka ss 0 = s0 := ⟨_, rfl⟩
          have f2 := (HBq.out.cell (p := ⟨A0, off, none⟩) hA0).trans (HCL.out 0 (by omega))
          have hz := HZ.out 0 (by omega)
          rw [hs0] at f2 hz
          have m3 : (0 : Int) < (ss.length : Int) := by omega
          have e1 : ((out.size : Int) == (s0.size : Int)) = true := by have := HO.out; simp; omega
          have hme : m2 = ss.length := by omega
          by_cases hbt : b = true
          · obtain ⟨q0, q1⟩ := HEQ.out (fun j hj => HBE.out hbt j (by omega))
            rw [← HS.out] at q0
            rw [hs0] at q1
            subst hbt q1
            have q2 : ((S : Int) == 0) = true := by simp; omega
            clear hme hz q0
            go_wp2
            go_ret
            exact ⟨rfl, bl_step HB1.out HBq.out⟩
          · have hbf : b = false := by simpa using hbt
            subst hbf
            clear hme hz
            go_wp2
            go_ret
            exact ⟨rfl, bl_step HB1.out HBq.out⟩

noncomputable def fnBooksCommon_world (os : Os) : World := { World.holding Tryd.prog os ⟨#[], #[], []⟩ with heap := (((World.holding Tryd.prog os ⟨#[], #[], []⟩).heap.modify 1 fun | .cells _ t frozen => .cells #[.int .u8 128, .int .u8 191, .int .u8 160, .int .u8 191, .int .u8 128, .int .u8 159, .int .u8 144, .int .u8 191, .int .u8 128, .int .u8 143, .int .u8 0, .int .u8 0, .int .u8 0, .int .u8 0, .int .u8 0, .int .u8 0, .int .u8 0, .int .u8 0, .int .u8 0, .int .u8 0, .int .u8 0, .int .u8 0, .int .u8 0, .int .u8 0, .int .u8 0, .int .u8 0, .int .u8 0, .int .u8 0, .int .u8 0, .int .u8 0, .int .u8 0, .int .u8 0] t frozen | o => o).modify 0 fun | .cells _ t frozen => .cells ((Go.Pinned.utf8FirstZ.map fun (n : Nat) => Value.int .u8 (n : Int)).toArray) t frozen | o => o) }
theorem fnBooksCommon_met (os : Os) : laidMet Tryd.prog Rows.fnBooksCommonRow.laid ((fnBooksCommon_world os).forCall (fun _ _ => 0) ⟨#[], #[.slice none 0 0], []⟩).memory :=
  laidMet_of_run' 8 (by kernel_rfl) (by kernel_rfl)
theorem fnBooksCommon_reads (os : Os) {H : Type} (enc : TypeId × Value → H) : ∃ places, DataW.whole enc Tryd.prog ((fnBooksCommon_world os).forCall (fun _ _ => 0) ⟨#[], #[.slice none 0 0], []⟩).memory Tryd.f14.params.toList Rows.fnBooksCommonSpec.vars false (#[.slice none 0 0] : Array Value).toList 8 = some ([.nil], [], places) :=
  ⟨((DataW.whole enc Tryd.prog ((fnBooksCommon_world os).forCall (fun _ _ => 0) ⟨#[], #[.slice none 0 0], []⟩).memory Tryd.f14.params.toList Rows.fnBooksCommonSpec.vars false (#[.slice none 0 0] : Array Value).toList 8).getD ([], [], [])).2.2, by kernel_rfl⟩
set_option maxRecDepth 100000 in
theorem fnBooksCommon_lifted (os : Os) (started : os.Started) (H : Type) (enc : TypeId × Value → H) (F : Stop.Interp) :
    ReturnsInHanded {} Tryd.checked os 14 .any ((OpenSpec.ofChange Rows.fnBooksCommonSpec).preRow enc Tryd.prog Tryd.f14 Rows.fnBooksCommonRow.domain false Rows.fnBooksCommonRow.laid) (((OpenSpec.ofChange Rows.fnBooksCommonSpec).at F).post enc Tryd.prog Tryd.f14 false true false false) := by
  obtain ⟨places, hx⟩ := fnBooksCommon_reads os enc
  refine returnsInHanded_of_row (C := Tryd.checked) (s := OpenSpec.ofChange Rows.fnBooksCommonSpec) own started (by kernel_rfl) Tryd.func14
    (witness_row_at (enc := enc) (C := Tryd.checked) false (fnBooksCommon_world os) #[.slice none 0 0] rfl (by kernel_rfl) (by kernel_rfl) (by kernel_rfl)
      (OpenSpec.preRow_of_cond 8 hx (by kernel_rfl) (fun k hk => by cases hk) (by kernel_rfl) (fnBooksCommon_met os))) ?_
  intro W base args ds gs before hval0 hW _ _ _ hL _ _
  have hval : ∀ (j : Nat) t v, Tryd.f14.params[j]? = some t → args[j]? = some v → Value.okWide Tryd.prog W .any base t v := hval0
  have hW' := hW
  obtain ⟨p, q, hA0, hV, rfl, _, _⟩ := hW
  have hA : DataW.TrodAll enc Tryd.prog W 0 (fun _ => true) true Tryd.f14.params.toList args.toList ds p := hA0
  rw [Tryd.params14] at hA hval
  obtain ⟨v0, vs0, d0, ds0, p0, q0, hargs, rfl, rfl, h0, r0⟩ := trodAll_cons hA
  obtain ⟨rfl, rfl, rfl⟩ := trodAll_nil r0
  obtain rfl : args = #[v0] := by cases args; simp_all
  obtain ⟨rfl, rfl⟩ := trodVars_none hV
  obtain ⟨a0, n0, c0, rfl⟩ := okWide_slice Tryd.underlying45 (hval 0 45 v0 rfl rfl)
  have k0 := h0
  have lt0 : ∀ x ∈ p0, x.block < W.heap.size := by obtain ⟨m, hm⟩ := k0; exact DataW.trod_lt m _ _ _ hm
  have y0 := code_in h0
  clear hA0 hval0
  refine (fnBooksCommon_walk a0 n0 c0 W y0.1 y0.2.1 y0.2.2).mono fun e W' ⟨he, hb⟩ => ?_
  subst he
  exact ⟨_, rfl, _, _, _, [], _, [], hW', trodAll_cons_mk (shut_bool Tryd.underlying4 _) trodAll_mk0, trodAll_cons_mk (Below.trod laidOut (by kernel_rfl) (of_decide_eq_true (by kernel_rfl)) k0 hb lt0) (trodAll_mk0), rfl, hb.frame _, fun h => by cases h⟩


end Go.Proofs.YthhndlefafcdeaaDoor
