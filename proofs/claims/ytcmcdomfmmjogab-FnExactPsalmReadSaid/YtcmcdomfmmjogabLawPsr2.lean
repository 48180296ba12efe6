/-
  The exact law of PsalmRead: for every list of psalm tones, every text and every melody the function answers as its model, and leaves its arguments alone.
-/
import Derived.Test.YtcmcdomfmmjogabPsl6
import Derived.ChangeMaps5
import Derived.Deep.DeepRowAt
import Derived.Deep.DeepHandedRow
import Derived.Deep.RegionHeld3
import Derived.OpenVars
namespace Go.Proofs.Ytcmcdomfmmjogab
open Go.RowKit Go.ChangeShapes Go.WideShapes Go.ChangeAt Go.ChangeMaps
set_option maxRecDepth 100000
set_option linter.unusedVariables false

theorem szToneS_gen4 (a : Option Addr) (n c : Nat) (L : Int) (h0 : 0 ≤ L) (h1 : L ≤ 1048576) (hn : n ≤ 9223372036854775807) (w : World) :
    Calls Try.prog 10 #[.slice a n c, .int .i64 L] w fun e w' => e = .returned (.int .i64 (if (n : Int) ≤ L then L - (n : Int) else -1)) ∧ w = w' := by
  by_cases h : (n : Int) ≤ L
  · rw [if_pos h]
    go_enter Try.func10, Try.ntmps10
    go_wp2
    go_ret
    exact ⟨rfl, rfl⟩
  · rw [if_neg h]
    have g : L < (n : Int) := by omega
    go_enter Try.func10, Try.ntmps10
    go_wp2
    go_ret
    exact ⟨rfl, rfl⟩

set_option maxHeartbeats 4000000 in
theorem Psr2_walk (a : Option Addr) (c : Nat) (ps : List Psa) (s : ByteArray) (hs0 : s.size ≤ maxLen) (a2 : Option Addr) (c2 : Nat) (xs : List (Int × Bool)) (w : World) (h : PLst ArgL w a ps) (hc1 : ps.length ≤ c) (hc2 : c ≤ maxLen) (k : ArgT w a2 xs) (kc1 : xs.length ≤ c2) (kc2 : c2 ≤ maxLen) (hm : MaxAt w) :
    Calls Try.prog 4 #[.slice a ps.length c, .string s, .slice a2 xs.length c2] w fun e w' => e = .returned (.bool true) ∧ Below w.heap.size w w' := by
  have hc3 := hc2
  unfold maxLen at hs0 hc3 kc2
  by_cases hbig : 1048576 < s.size
  · have g : (1048576 : Int) < (s.size : Int) := by omega
    clear h hm k
    go_enter Try.func4, Try.ntmps4
    go_wp2
    go_ret
    exact ⟨rfl, by (repeat' (first | (with_reducible exact Below.refl _ _) | (with_reducible refine Below.alloc ?_ ?_ _) | (with_reducible refine Below.drew ?_) | (with_reducible refine Below.setCell ?_ ?_ _) | (with_reducible refine bl_step ?_ (by assumption)) | go_size))⟩
  have gb : decide ((1048576 : Int) < (s.size : Int)) = false := decide_eq_false (by omega)
  have gb2 : decide (1048576 < s.size) = false := decide_eq_false hbig
  have KZ := Lib.hid (szPsalmS_any a c ps w h hc1 hc2)
  by_cases hn : ps.length + szp ps ≤ 1048576
  case neg =>
    rw [if_neg hn] at KZ
    clear h hn hm k
    go_enter Try.func4, Try.ntmps4
    go_wp2_with (fail)
    (go_at_call 5; refine (KZ.out).mono ?_; rintro e w1 ⟨rfl, hb1⟩)
    go_wp2
    go_ret
    exact ⟨rfl, hb1⟩
  rw [if_pos hn] at KZ
  obtain ⟨Z, hZ⟩ : ∃ Z : Nat, (1048576 : Int) - ((ps.length + szp ps : Nat) : Int) = (Z : Int) := ⟨1048576 - (ps.length + szp ps), by omega⟩
  rw [hZ] at KZ
  have gz : decide ((Z : Int) < 0) = false := decide_eq_false (by omega)
  have KY := Lib.hid (fun W => szToneS_gen4 a2 xs.length c2 (Z : Int) (by omega) (by omega) (by omega) W)
  by_cases hx : (xs.length : Int) ≤ (Z : Int)
  case neg =>
    rw [if_neg hx] at KY
    clear h hn hm k hx
    go_enter Try.func4, Try.ntmps4
    go_wp2_with (fail)
    (go_at_call 5; refine (KZ.out).mono ?_; rintro e w1 ⟨rfl, hb1⟩)
    go_wp2_with (fail)
    (go_at_call 10; refine (KY.out _).mono ?_; rintro e wx ⟨rfl, rfl⟩)
    go_wp2
    go_ret
    exact ⟨rfl, hb1⟩
  rw [if_pos hx] at KY
  obtain ⟨Y, hY⟩ : ∃ Y : Nat, (Z : Int) - (xs.length : Int) = (Y : Int) := ⟨Z - xs.length, by omega⟩
  rw [hY] at KY
  have gy : decide ((Y : Int) < 0) = false := decide_eq_false (by omega)
  have hx2 : xs.length ≤ 1048576 := by omega
  have KT := Lib.hid (fun W (hb : Below w.heap.size w W) => toPsalmS_any a c ps W (argPs_below h hb) hn)
  have KU := Lib.hid (fun W (hb : Below w.heap.size w W) => toToneS_any a2 c2 xs W (k.below hb) hx2)
  unfold TBuilt at KU
  have HM := Lib.hid (fun W (hb : Below w.heap.size w W) => hm.below hb)
  have KE := Lib.hid (fun v u W h k => eqPsalmS_yes v u ps W h k)
  have KF := Lib.hid (fun v u W h k => eqToneS_lv v u xs W h k)
  have KS := Lib.hid (fun v u W h k => sPsalmRead_any v u ps s xs (by omega) W h k)
  have KI := Lib.hid (fun v u W (hb : Below w.heap.size w W) h k => psalmRead_any v u ps s xs (by omega) W h k (HM.out W hb))
  generalize pR ps s xs = r at KS KI
  clear h hZ hm hn k hx hx2 hY
  go_enter Try.func4, Try.ntmps4
  go_wp2_with (fail)
  (go_at_call 5; refine (KZ.out).mono ?_; rintro e w1 ⟨rfl, hbw1⟩)
  go_wp2_with (fail)
  (go_at_call 10; refine (KY.out _).mono ?_; rintro e wx ⟨rfl, rfl⟩)
  go_wp2_with (fail)
  (go_at_call 7; refine (KT.out _ hbw1).mono ?_; rintro e w2 ⟨va, rfl, ra, hb2⟩)
  have hbw2 := bl_step hbw1 hb2
  go_wp2_with (fail)
  (go_at_call 12; refine (KU.out _ hbw2).mono ?_; rintro e w3 ⟨vb, rfl, rb, hb3⟩)
  have hbw3 := bl_step hbw2 hb3
  have lb : LV w3 vb xs := ⟨_, _, rb⟩
  have ra3 := ra.below hb3
  clear hb2 hb3 rb ra
  go_wp2_with (fail)
  (go_at_call 11; refine (KS.out _ _ _ ra3 lb).mono ?_; rintro e w4 ⟨rfl, hb4⟩)
  have hbw4 := bl_step hbw3 hb4
  clear hb4 ra3 lb
  go_wp2_with (fail)
  (go_at_call 7; refine (KT.out _ hbw4).mono ?_; rintro e w5 ⟨vx, rfl, rx, hb5⟩)
  have hbw5 := bl_step hbw4 hb5
  go_wp2_with (fail)
  (go_at_call 12; refine (KU.out _ hbw5).mono ?_; rintro e w6 ⟨vm, rfl, rm, hb6⟩)
  have hbw6 := bl_step hbw5 hb6
  have rx6 := rx.below hb6
  have lm : LV w6 vm xs := ⟨_, _, rm⟩
  clear hb5 hb6 rx rm
  go_wp2_with (fail)
  (go_at_call 13; refine (KI.out _ _ _ hbw6 rx6 lm).mono ?_; rintro e w7 ⟨rfl, hb7⟩)
  have hbw7 := bl_step hbw6 hb7
  have rx7 := rx6.below hb7
  have lm7 := lm.below hb7
  clear hb7 rx6 lm
  go_wp2_with (fail)
  (go_at_call 7; refine (KT.out _ hbw7).mono ?_; rintro e w8 ⟨vy, rfl, ry, hb8⟩)
  have hbw8 := bl_step hbw7 hb8
  have rx8 := rx7.below hb8
  have lm8 := lm7.below hb8
  clear hb8 rx7 lm7
  go_wp2_with (fail)
  (go_at_call 9; refine (KE.out _ _ _ rx8 ry).mono ?_; rintro e w9 ⟨rfl, hb9⟩)
  have hbw9 := bl_step hbw8 hb9
  have lm9 := lm8.below hb9
  clear hb9 rx8 ry lm8
  go_wp2_with (fail)
  (go_at_call 12; refine (KU.out _ hbw9).mono ?_; rintro e wa ⟨vn, rfl, rn, hba⟩)
  have hbwa := bl_step hbw9 hba
  have lma := lm9.below hba
  have ln : LV wa vn xs := ⟨_, _, rn⟩
  clear hba lm9 rn
  go_wp2_with (fail)
  (go_at_call 14; refine (KF.out _ _ _ lma ln).mono ?_; rintro e wb ⟨rfl, hbb⟩)
  have hbwb := bl_step hbwa hbb
  go_wp2
  go_ret
  exact ⟨rfl, hbwb⟩

noncomputable def fnExactPsalmRead_world (os : Os) : World := { World.holding Try.prog os ⟨#[], #[], []⟩ with heap := (World.holding Try.prog os ⟨#[], #[], []⟩).heap }
theorem fnExactPsalmRead_met (os : Os) : laidMet Try.prog Rows.fnExactPsalmReadRow.laid ((fnExactPsalmRead_world os).forCall (fun _ _ => 0) ⟨#[], #[.slice none 0 0, .string ⟨#[]⟩, .slice none 0 0], []⟩).memory :=
  laidMet_of_run' 8 (by kernel_rfl) (by kernel_rfl)
theorem fnExactPsalmRead_reads (os : Os) {H : Type} (enc : TypeId × Value → H) : ∃ places, DataW.whole enc Try.prog ((fnExactPsalmRead_world os).forCall (fun _ _ => 0) ⟨#[], #[.slice none 0 0, .string ⟨#[]⟩, .slice none 0 0], []⟩).memory Try.f4.params.toList Rows.fnExactPsalmReadSpec.vars false (#[.slice none 0 0, .string ⟨#[]⟩, .slice none 0 0] : Array Value).toList 8 = some ([.nil, .lit (.string []), .nil], [], places) :=
  ⟨((DataW.whole enc Try.prog ((fnExactPsalmRead_world os).forCall (fun _ _ => 0) ⟨#[], #[.slice none 0 0, .string ⟨#[]⟩, .slice none 0 0], []⟩).memory Try.f4.params.toList Rows.fnExactPsalmReadSpec.vars false (#[.slice none 0 0, .string ⟨#[]⟩, .slice none 0 0] : Array Value).toList 8).getD ([], [], [])).2.2, by kernel_rfl⟩
set_option maxRecDepth 100000 in
theorem fnExactPsalmRead_lifted (os : Os) (started : os.Started) (H : Type) (enc : TypeId × Value → H) (F : Stop.Interp) :
    ReturnsInHanded {} Try.checked os 4 .any ((OpenSpec.ofChange Rows.fnExactPsalmReadSpec).preRow enc Try.prog Try.f4 Rows.fnExactPsalmReadRow.domain false Rows.fnExactPsalmReadRow.laid) (((OpenSpec.ofChange Rows.fnExactPsalmReadSpec).at F).post enc Try.prog Try.f4 false true false false) := by
  obtain ⟨places, hx⟩ := fnExactPsalmRead_reads os enc
  refine returnsInHanded_of_row (C := Try.checked) (s := OpenSpec.ofChange Rows.fnExactPsalmReadSpec) own started (by kernel_rfl) Try.func4
    (witness_row_at (enc := enc) (C := Try.checked) false (fnExactPsalmRead_world os) #[.slice none 0 0, .string ⟨#[]⟩, .slice none 0 0] rfl (by kernel_rfl) (by kernel_rfl) (by kernel_rfl)
      (OpenSpec.preRow_of_cond 8 hx (by kernel_rfl) (fun k hk => by cases hk) (by kernel_rfl) (fnExactPsalmRead_met os))) ?_
  intro W base args ds gs before hval0 hW _ _ _ hL hSh _
  have hval : ∀ (j : Nat) t v, Try.f4.params[j]? = some t → args[j]? = some v → Value.okWide Try.prog W .any base t v := hval0
  have hW' := hW
  obtain ⟨p, q, hA0, hV, rfl, _, _⟩ := hW
  have hA : DataW.TrodAll enc Try.prog W 0 (fun _ => true) true Try.f4.params.toList args.toList ds p := hA0
  rw [Try.params4] at hA hval
  obtain ⟨v0, vs0, d0, ds0, p0, q0, hargs, rfl, rfl, h0, r0⟩ := trodAll_cons hA
  obtain ⟨v1, vs1, d1, ds1, p1, q1, rfl, rfl, rfl, h1, r1⟩ := trodAll_cons r0
  obtain ⟨v2, vs2, d2, ds2, p2, q2, rfl, rfl, rfl, h2, r2⟩ := trodAll_cons r1
  obtain ⟨rfl, rfl, rfl⟩ := trodAll_nil r2
  obtain rfl : args = #[v0, v1, v2] := by cases args; simp_all
  obtain ⟨rfl, rfl⟩ := trodVars_none hV
  obtain ⟨a0, n0, c0, rfl⟩ := okWide_slice Try.underlying22 (hval 0 22 v0 rfl rfl)
  have k0 := h0
  have lt0 : ∀ x ∈ p0, x.block < W.heap.size := by obtain ⟨m, hm⟩ := k0; exact DataW.trod_lt m _ _ _ hm
  obtain ⟨x0, rfl, y0, z0, u0⟩ := psalms_in h0
  obtain ⟨x1, rfl, rfl, rfl, y1⟩ := open_string Try.underlying9 (hval 1 9 v1 rfl rfl) h1
  obtain ⟨a2, n2, c2, rfl⟩ := okWide_slice Try.underlying30 (hval 2 30 v2 rfl rfl)
  have k2 := h2
  have lt2 : ∀ x ∈ p2, x.block < W.heap.size := by obtain ⟨m, hm⟩ := k2; exact DataW.trod_lt m _ _ _ hm
  obtain ⟨x2, rfl, y2, z2, u2⟩ := tones_in h2
  clear hA0 hval0
  refine (Psr2_walk a0 c0 x0 x1 y1 a2 c2 x2 W y0 z0 u0 y2 z2 u2 (Try.laysM145.s1_3 W hSh)).mono fun e W' ⟨he, hb⟩ => ?_
  subst he
  exact ⟨_, rfl, _, _, _, [], _, [], hW', trodAll_cons_mk (shut_bool Try.underlying4 _) trodAll_mk0, trodAll_cons_mk (Below.trod laidOut (by kernel_rfl) (of_decide_eq_true (by kernel_rfl)) k0 hb lt0) (trodAll_cons_mk (shut_string Try.underlying9 y1) (trodAll_cons_mk (Below.trod laidOut (by kernel_rfl) (of_decide_eq_true (by kernel_rfl)) k2 hb lt2) (trodAll_mk0))), rfl, hb.frame _, fun h => by cases h⟩


end Go.Proofs.Ytcmcdomfmmjogab
