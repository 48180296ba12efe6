/-
  The law FnHexAll: for every code, a tone has a name in each of its hexachords.
-/
import Derived.Test.YtjodcaeohkjlnaaDoorHaf
import Derived.Test.YtjodcaeohkjlnaaDoorTni
import Derived.Test.YtjodcaeohkjlnaaDoorSmI
import Derived.StillTailTactics
import Derived.Test.YtjodcaeohkjlnaaDoorDraw6
import Derived.Test.YtjodcaeohkjlnaaDoorCode
import Derived.Test.YtjodcaeohkjlnaaDoorLaid1
import Derived.Test.YtjodcaeohkjlnaaDoorCards
import Derived.Test.YtjodcaeohkjlnaaDoorTie
namespace Go.Proofs.YtjodcaeohkjlnaaDoor
open Go.RowKit Go.ChangeShapes Go.WideShapes Go.ChangeAt
set_option maxRecDepth 100000
set_option linter.unusedVariables false

theorem hexAllI_any (s : Int) (b : Bool) (w : World) : Calls Tryd.prog 34 #[.agg #[.int .i64 s, .bool b]] w (Built w (hall s b 21)) := by
  rw [hall_rall]; exact hexAll_any s b w
theorem toneNamesH_at (s : Int) (b : Bool) (w0 : World) (ht : SylTab w0) (w : World) (hb : Below w0.heap.size w0 w) :
    Calls Tryd.prog 40 #[.agg #[.int .i64 s, .bool b]] w fun e w' => e = .returned (.string (tnm s b)) ∧ Below w.heap.size w w' := toneNames_any s b w (ht.below hb)

set_option maxRecDepth 100000 in
set_option maxHeartbeats 8000000 in
theorem fnHexAll_walk (a : Option Addr) (n cap : Nat) (w : World) (h : CodeAt w a n) (hc : n ≤ cap) (hcap : cap ≤ maxLen) (ht : SylTab w) :
    Calls Tryd.prog 7 #[.slice a n cap] w fun e w' => e = .returned (.bool true) ∧ Below w.heap.size w w' := by
  have HT := Lib.hid ht
  clear ht
  by_cases hn : 1048576 < n
  · have g : (1048576 : Int) < (n : Int) := by omega
    go_enter Tryd.func7, Tryd.ntmps7
    go_wp2
    go_ret
    exact ⟨rfl, Below.refl _ _⟩
  have g : decide ((1048576 : Int) < (n : Int)) = false := by simp; omega
  go_enter Tryd.func7, Tryd.ntmps7
  go_wp2_with (fail)
  (go_at_call 33; refine (drawHexAll_any a n cap _ h hc hcap).mono ?_; rintro e w1 ⟨s, b, rfl, hs0, hs9, hb1⟩; obtain ⟨hc1, hf1, hz1⟩ := bl hb1; (try simp at hz1); clear hc1 hf1)
  clear h hc hcap g hn
  have HB1 : Hid (Below w.heap.size w (w1.alloc (.cells #[.int .i64 s, .bool b] 24))) := hb1.alloc hb1.size _
  have KI := Lib.hid (fun W => hexAllI_any s b W)
  have KS := Lib.hid (fun W => sHexAll_any s b W)
  obtain ⟨W1, hW1⟩ : ∃ W1, W1 = w1.alloc (.cells #[.int .i64 s, .bool b] 24) := ⟨_, rfl⟩
  have c0 : W1.cell? ⟨w1.heap.size, 0, none⟩ = some (.int .i64 s) := by rw [hW1]; go_simp
  have c1 : W1.cell? ⟨w1.heap.size, 1, none⟩ = some (.bool b) := by rw [hW1]; go_simp
  have z1 : w1.heap.size < W1.heap.size := by rw [hW1]; simp
  rw [← hW1] at HB1
  go_wp2_with (fail)
  rw [← hW1]
  clear hW1 hb1
  (go_at_call 34; refine (KI.out _).mono ?_; rintro e w2 ⟨u2, rfl, hr2, hb2⟩)
  have d0 := (hb2.cell (p := ⟨w1.heap.size, 0, none⟩) z1).trans c0
  have d1 := (hb2.cell (p := ⟨w1.heap.size, 1, none⟩) z1).trans c1
  have z2 := Nat.lt_of_lt_of_le z1 hb2.size
  clear c0 c1
  go_wp2_with (fail)
  (go_at_call 35; refine (KS.out _).mono ?_; rintro e w3 ⟨u3, rfl, hr3, hb3⟩)
  have e0 := (hb3.cell (p := ⟨w1.heap.size, 0, none⟩) z2).trans d0
  have e1 := (hb3.cell (p := ⟨w1.heap.size, 1, none⟩) z2).trans d1
  have z3 := Nat.lt_of_lt_of_le z2 hb3.size
  have HB3 := Lib.hid (bl_step HB1.out (bl_step hb2 hb3))
  have hx : (hall s b 21).length ≤ 1000000 := by have := hall_len s b 21; omega
  have hr2 := hr2.below hb3 (.inl (Nat.le_refl _))
  clear d0 d1 KI KS hb2 hb3
  by_cases hem : hall s b 21 = []
  · go_wp2_with (fail)
    (go_at_call 36; refine (sameInts_yes _ _ _ _ u2 u3 _ hx _ hr2 hr3).mono ?_; rintro e w4 ⟨rfl, hb4⟩)
    obtain ⟨a2, c2, hu2⟩ : ∃ a2 c2, u2 = .slice a2 0 c2 := by
      rcases hr2.form with ⟨rfl, _⟩ | ⟨g, cap, cur, rfl, _⟩
      · exact ⟨none, 0, rfl⟩
      · rw [hem]; exact ⟨_, _, rfl⟩
    have HR2 := Lib.hid (hr2.below hb4 (.inr (Nat.le_refl _)))
    have HR3 := Lib.hid (hr3.below hb4 (.inr (Nat.le_refl _)))
    have HB4 := Lib.hid (bl_step HB3.out hb4)
    subst hu2
    clear hr2 hr3 hb4 hem
    go_wp2_with (fail)
    (go_at_call 36; refine (sameInts_yes _ _ _ _ _ u3 _ hx _ HR2.out HR3.out).mono ?_; rintro e w5 ⟨rfl, hb5⟩)
    go_wp2
    go_ret
    exact ⟨rfl, bl_step HB4.out hb5⟩
  obtain ⟨y, hy⟩ : ∃ y, y ∈ hall s b 21 := by
    cases hh : hall s b 21 with
    | nil => exact absurd hh hem
    | cons y r => exact ⟨y, List.mem_cons_self⟩
  have hv := (hall_vd (hall_in hy)).1
  have h3 := hall_three hv
  have hl0 : 0 < (hall s b 21).length := List.length_pos_of_mem hy
  have HAT : Hid (∀ k : Nat, k < 21 → 0 ≤ hsy (k : Int) s b → (hall s b k).length < (hall s b 21).length ∧ (hall s b 21).getD (hall s b k).length 0 = (k : Int)) := fun k hk h => hall_at hk h
  have HKD : Hid (∀ k : Nat, k < 21 → 0 ≤ hsy (k : Int) s b → s % 7 = 2 → (((k : Int) % 7 == 6) != b) = false) := fun k hk h hB => hall_kind hk h hB
  have HNM := Lib.hid (tnm_names s b)
  have htl : tl s b = ltr s := tl_yes hv
  have KL := fun W => toneLetter_any s b W
  rw [htl] at KL
  have HKL := Lib.hid KL
  have HLT := Lib.hid (ltr_b s)
  go_wp2_with (fail)
  (go_at_call 36; refine (sameInts_yes _ _ _ _ u2 u3 _ hx _ hr2 hr3).mono ?_; rintro e w4 ⟨rfl, hb4⟩)
  have f0 := (hb4.cell (p := ⟨w1.heap.size, 0, none⟩) z3).trans e0
  have f1 := (hb4.cell (p := ⟨w1.heap.size, 1, none⟩) z3).trans e1
  have z4 := Nat.lt_of_lt_of_le z3 hb4.size
  have HB4 := Lib.hid (bl_step HB3.out hb4)
  have hr4 := hr2.below hb4 (.inr (Nat.le_refl _))
  rcases hr4.form with ⟨_, hz⟩ | ⟨g, cap', cur, rfl, _, _, hgs, _, _, _, _, _, hc4, _⟩
  · exact absurd hz hem
  have HC4 := Lib.hid hc4
  clear hr2 hr3 hr4 hb4 hc4 e0 e1 hem hy hv KL htl hx
  obtain ⟨L, hL⟩ : ∃ L, (hall s b 21).length = L := ⟨_, rfl⟩
  rw [hL] at HAT HC4 HNM h3 hl0 ⊢
  have HL := Lib.hid hL
  clear hL
  have gl0 : ((L : Int) == 0) = false := by simp; omega
  go_wp2
  go_loopw [6, 7] (fun at_ i wr => ∃ k : Nat, k ≤ 21 ∧ i = .int .i64 k ∧ at_ = .int .i64 ((hall s b k).length : Int) ∧ Below w4.heap.size w4 wr) (fun _ i _ => 21 - (intOf i).toNat)
  case atStart => exact ⟨0, Nat.zero_le _, rfl, rfl, Below.refl _ _⟩
  case round =>
    obtain ⟨k, hk, rfl, rfl, hb⟩ := hrel
    have q0 := (hb.cell (p := ⟨w1.heap.size, 0, none⟩) z4).trans f0
    have q1 := (hb.cell (p := ⟨w1.heap.size, 1, none⟩) z4).trans f1
    have qz : w1.heap.size < wr.heap.size := Nat.lt_of_lt_of_le z4 hb.size
    by_cases hlt : k < 21
    · have k0 : (0 : Int) ≤ (k : Int) := by omega
      have k1 : (k : Int) ≤ 20 := by omega
      have hln := hall_len s b k
      by_cases hh : 0 ≤ hsy (k : Int) s b
      · obtain ⟨a1, a2⟩ := HAT.out k hlt hh
        have ec := (hb.cell (p := ⟨g, (hall s b k).length, none⟩) hgs).trans (HC4.out _ a1)
        rw [a2] at ec
        have HX : Hid ((hall s b (k + 1)).length = (hall s b k).length + 1) := by show _ = _; rw [hall_hit hh]; simp
        have hkx := (hall_vd hh).2
        have hgr : g < wr.heap.size := Nat.lt_of_lt_of_le hgs hb.size
        have HKk := Lib.hid (HKD.out k hlt hh)
        have hdec : decide (0 ≤ hsy (k : Int) s b) = true := by simpa using hh
        clear a2 hh
        generalize (hall s b k).length = m at a1 ec HX hln
        have m0 : (0 : Int) ≤ (m : Int) := by omega
        have m1 : (m : Int) < (L : Int) := by omega
        have m2 : decide (L ≤ m) = false := by rw [decide_eq_false_iff_not]; omega
        go_wp2_with (fail)
        (go_at_call 37; refine (hexSyllable_any (k : Int) s b _).mono ?_; rintro e w5 ⟨rfl, hb5⟩)
        have r0 := (hb5.cell (p := ⟨w1.heap.size, 0, none⟩) qz).trans q0
        have r1 := (hb5.cell (p := ⟨w1.heap.size, 1, none⟩) qz).trans q1
        have r2 := (hb5.cell (p := ⟨g, m, none⟩) hgr).trans ec
        have rz := Nat.lt_of_lt_of_le qz hb5.size
        have HBr := Lib.hid (bl_step hb hb5)
        clear q0 q1 ec hb hb5
        by_cases hB : s % 7 = 2
        · have gB : ((ltr s).toList == [66]) = true := by rw [HLT.out]; simpa using hB
          have gK : (((hkd (k : Int)).toList == [115, 111, 102, 116]) == b) = true := by rw [hkd_soft hkx]; have := HKk.out hB; simpa using this
          have KK := fun W => hexKind_any (k : Int) W
          rw [hkw_yes hkx] at KK
          have HKK := Lib.hid KK
          clear KK hB
          go_wp2
          go_region_held3 (fun wx => wx.cell? ⟨w1.heap.size, 0, none⟩ = some (.int .i64 s) ∧ wx.cell? ⟨w1.heap.size, 1, none⟩ = some (.bool b)) (go_keep)
            (first | (go_at_call 25; refine (HKL.out _).mono ?_; rintro e w6 ⟨rfl, hb6⟩; have s0 := (hb6.cell (p := ⟨w1.heap.size, 0, none⟩) rz).trans r0; have s1 := (hb6.cell (p := ⟨w1.heap.size, 1, none⟩) rz).trans r1; have sz := Nat.lt_of_lt_of_le rz hb6.size) | (go_at_call 38; refine (HKK.out _).mono ?_; rintro e w7 ⟨rfl, hb7⟩; have t0 := (hb7.cell (p := ⟨w1.heap.size, 0, none⟩) sz).trans s0; have t1 := (hb7.cell (p := ⟨w1.heap.size, 1, none⟩) sz).trans s1))
          go_wp2
          go_roundw
          case rel => exact ⟨k + 1, by omega, by go_num, by rw [HX.out]; go_num, by first | exact bl_step (bl_step HBr.out.drew hb6) hb7 | exact bl_step (bl_step HBr.out hb6) hb7⟩
          case measure => simp [intOf]; omega
        · have gB : ((ltr s).toList == [66]) = false := by rw [HLT.out]; simpa using hB
          clear hB
          go_wp2
          first
            | (go_region_with (first | (go_at_call 25; refine (HKL.out _).mono ?_; rintro e w6 ⟨rfl, hb6⟩)))
            | fail "the region"
          all_goals
            go_wp2
            go_roundw
            case rel => exact ⟨k + 1, by omega, by go_num, by rw [HX.out]; go_num, by first | exact bl_step HBr.out.drew hb6 | exact bl_step HBr.out hb6⟩
            case measure => simp [intOf]; omega
      · have HX : Hid ((hall s b (k + 1)).length = (hall s b k).length) := by show _ = _; rw [hall_miss (by omega)]
        have hdec : decide (0 ≤ hsy (k : Int) s b) = false := by simpa using hh
        clear hh
        generalize (hall s b k).length = m at HX hln
        go_wp2_with (fail)
        (go_at_call 37; refine (hexSyllable_any (k : Int) s b _).mono ?_; rintro e w5 ⟨rfl, hb5⟩)
        have r0 := (hb5.cell (p := ⟨w1.heap.size, 0, none⟩) qz).trans q0
        have r1 := (hb5.cell (p := ⟨w1.heap.size, 1, none⟩) qz).trans q1
        have HBr := Lib.hid (bl_step hb hb5)
        clear q0 q1 hb hb5
        go_wp2
        go_quiet (fail)
        go_wp2
        go_roundw
        case rel => exact ⟨k + 1, by omega, by go_num, by rw [HX.out], by first | exact HBr.out | exact HBr.out.drew | exact ⟨HBr.out.os, HBr.out.tape, HBr.out.output, HBr.out.size, HBr.out.block⟩⟩
        case measure => simp [intOf]; omega
    · have hke : k = 21 := by omega
      subst hke
      have hbw := bl_step HB4.out hb
      have HBW := Lib.hid hbw
      rw [HL.out]
      have gg : (L : Int) ≤ 3 := by omega
      have KT := Lib.hid (toneNamesH_at s b w HT.out _ hbw)
      have hts := tnm_size s b
      have KN := fun W => names_any (tnm s b) (by omega) W
      rw [HNM.out] at KN
      have HN := Lib.hid KN
      clear KN hbw hb
      generalize tnm s b = o at KT HN
      go_wp2_with (fail)
      (go_at_call 40; refine (KT.out).mono ?_; rintro e w5 ⟨rfl, hb5⟩)
      go_wp2_with (fail)
      (go_at_call 39; refine (HN.out _).mono ?_; rintro e w6 ⟨rfl, hb6⟩)
      go_wp2
      go_ret
      exact ⟨rfl, bl_step (bl_step HBW.out hb5) hb6⟩

noncomputable def fnHexAll_world (os : Os) : World := { World.holding Tryd.prog os ⟨#[], #[], []⟩ with heap := ((World.holding Tryd.prog os ⟨#[], #[], []⟩).heap.modify 0 fun | .cells _ t frozen => .cells #[.string ⟨#[117, 116]⟩, .string ⟨#[114, 101]⟩, .string ⟨#[109, 105]⟩, .string ⟨#[102, 97]⟩, .string ⟨#[115, 111, 108]⟩, .string ⟨#[108, 97]⟩] t frozen | o => o) }
theorem fnHexAll_met (os : Os) : laidMet Tryd.prog Rows.fnHexAllRow.laid ((fnHexAll_world os).forCall (fun _ _ => 0) ⟨#[], #[.slice none 0 0], []⟩).memory :=
  laidMet_of_run' 8 (by kernel_rfl) (by kernel_rfl)
theorem fnHexAll_reads (os : Os) {H : Type} (enc : TypeId × Value → H) : ∃ places, DataW.whole enc Tryd.prog ((fnHexAll_world os).forCall (fun _ _ => 0) ⟨#[], #[.slice none 0 0], []⟩).memory Tryd.f7.params.toList Rows.fnHexAllSpec.vars false (#[.slice none 0 0] : Array Value).toList 8 = some ([.nil], [Rows.laid_loop_example_neumes_impl_syllableNames], places) :=
  ⟨((DataW.whole enc Tryd.prog ((fnHexAll_world os).forCall (fun _ _ => 0) ⟨#[], #[.slice none 0 0], []⟩).memory Tryd.f7.params.toList Rows.fnHexAllSpec.vars false (#[.slice none 0 0] : Array Value).toList 8).getD ([], [], [])).2.2, by kernel_rfl⟩
set_option maxRecDepth 100000 in
theorem fnHexAll_lifted (os : Os) (started : os.Started) (H : Type) (enc : TypeId × Value → H) (F : Stop.Interp) :
    ReturnsInHanded {} Tryd.checked os 7 .any ((OpenSpec.ofChange Rows.fnHexAllSpec).preRow enc Tryd.prog Tryd.f7 Rows.fnHexAllRow.domain false Rows.fnHexAllRow.laid) (((OpenSpec.ofChange Rows.fnHexAllSpec).at F).post enc Tryd.prog Tryd.f7 false true false false) := by
  obtain ⟨places, hx⟩ := fnHexAll_reads os enc
  refine returnsInHanded_of_row (C := Tryd.checked) (s := OpenSpec.ofChange Rows.fnHexAllSpec) own started (by kernel_rfl) Tryd.func7
    (witness_row_at (enc := enc) (C := Tryd.checked) false (fnHexAll_world os) #[.slice none 0 0] rfl (by kernel_rfl) (by kernel_rfl) (by kernel_rfl)
      (OpenSpec.preRow_of_cond 8 hx (by kernel_rfl) (fun k hk => by cases hk) (by kernel_rfl) (fnHexAll_met os))) ?_
  intro W base args ds gs before hval0 hW _ _ _ hL _ _
  have hval : ∀ (j : Nat) t v, Tryd.f7.params[j]? = some t → args[j]? = some v → Value.okWide Tryd.prog W .any base t v := hval0
  have hW' := hW
  obtain ⟨p, q, hA0, hV, rfl, _, _⟩ := hW
  have hA : DataW.TrodAll enc Tryd.prog W 0 (fun _ => true) true Tryd.f7.params.toList args.toList ds p := hA0
  rw [Tryd.params7] at hA hval
  obtain ⟨v0, vs0, d0, ds0, p0, q0, hargs, rfl, rfl, h0, r0⟩ := trodAll_cons hA
  obtain ⟨rfl, rfl, rfl⟩ := trodAll_nil r0
  obtain rfl : args = #[v0] := by cases args; simp_all
  obtain ⟨g0, rfl⟩ := vars1 hV
  obtain ⟨a0, n0, c0, rfl⟩ := okWide_slice Tryd.underlying22 (hval 0 22 v0 rfl rfl)
  have k0 := h0
  have lt0 : ∀ x ∈ p0, x.block < W.heap.size := by obtain ⟨m, hm⟩ := k0; exact DataW.trod_lt m _ _ _ hm
  have y0 := code_in h0
  clear hA0 hval0
  refine (fnHexAll_walk a0 n0 c0 W y0.1 y0.2.1 y0.2.2 (sylTab_at hL (.head _))).mono fun e W' ⟨he, hb⟩ => ?_
  subst he
  exact ⟨_, rfl, _, _, _, [], _, _, hW', trodAll_cons_mk (shut_bool Tryd.underlying4 _) trodAll_mk0, trodAll_cons_mk (Below.trod laidOut (by kernel_rfl) (of_decide_eq_true (by kernel_rfl)) k0 hb lt0) (trodAll_mk0), hb.trodVars laidOut (by kernel_rfl) hV, hb.frame _, fun h => by cases h⟩


end Go.Proofs.YtjodcaeohkjlnaaDoor
