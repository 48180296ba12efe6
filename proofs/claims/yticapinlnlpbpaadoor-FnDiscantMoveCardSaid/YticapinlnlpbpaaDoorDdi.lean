/-
  The draw of two parts.
-/
import Derived.Test.YticapinlnlpbpaaDoorDp8
namespace Go.Proofs.YticapinlnlpbpaaDoor
open Go.RowKit
set_option maxRecDepth 100000
set_option linter.unusedVariables false

def sel6 (k : Int) : Int := if k = 0 then 4 else if k = 1 then 4 else if k = 2 then 3 else if k = 3 then 7 else if k = 4 then 0 else 2
theorem sel6_arr {k : Int} (h0 : 0 ≤ k) (h1 : k < 6) : (#[.int .i64 4, .int .i64 4, .int .i64 3, .int .i64 7, .int .i64 0, .int .i64 2] : Array Value)[k.toNat]? = some (.int .i64 (sel6 k)) := by
  have : k = 0 ∨ k = 1 ∨ k = 2 ∨ k = 3 ∨ k = 4 ∨ k = 5 := by omega
  rcases this with rfl | rfl | rfl | rfl | rfl | rfl <;> rfl
theorem vcs_setA {xs : List Vc} {i : Nat} {s : Int} {b : Bool} {m : Int} (h : xs[i]? = some ((s, b), m)) (z : Int) : vcs (xs.set i ((z, b), m)) = (vcs xs).set (i * 3) (.int .i64 z) := by
  induction xs generalizing i with
  | nil => simp at h
  | cons u r ih =>
    cases i with
    | zero => simp at h; subst h; rfl
    | succ j =>
      have := ih (i := j) (by simpa using h)
      rw [show (j + 1) * 3 = (j * 3) + 1 + 1 + 1 by omega]
      simp [vcs, this]
theorem vcs_setB {xs : List Vc} {i : Nat} {s : Int} {b : Bool} {m : Int} (h : xs[i]? = some ((s, b), m)) (c : Bool) : vcs (xs.set i ((s, c), m)) = (vcs xs).set (i * 3 + 1) (.bool c) := by
  induction xs generalizing i with
  | nil => simp at h
  | cons u r ih =>
    cases i with
    | zero => simp at h; subst h; rfl
    | succ j =>
      have := ih (i := j) (by simpa using h)
      rw [show (j + 1) * 3 + 1 = (j * 3 + 1) + 1 + 1 + 1 by omega]
      simp [vcs, this]
/-- two lists of voices of a draw, and the reader's block -/
def DiPicked (B : Nat) (w : World) (e : Ending) (w' : World) : Prop :=
  ∃ (v u : Value) (xs ys : List Vc), e = .returned (.tuple #[v, u]) ∧ VV w' v xs ∧ VV w' u ys ∧ xs.length ≤ 12 ∧ ys.length ≤ 12 ∧ w.grownBy w' (some B)

theorem vrow_gb {w w' : World} {lo hi B : Nat} {v : Value} {xs : List Vc} (h : VRow w lo hi v xs) (hg : w.grownBy w' (some B)) (hB : B < lo) : VRow w' lo hi v xs :=
  h.keep fun k h1 h2 h3 => hg.block k h1 (fun e => by injection e; omega)

set_option maxHeartbeats 4000000 in
theorem l92Discant_any (B A q : Nat) (hq : q ≤ 800000) (w : World) (h : Rd w B A q) :
    Calls Tryd.prog 61 #[.pointer (some ⟨B, 0, none⟩)] w (DiPicked B w) := by
  obtain ⟨i0, hi0, hq0, hq1, hq2⟩ := info_parts infoVb
  have hB := h.lt
  have hA := h.ltA
  go_enter Tryd.func61, Tryd.ntmps61
  go_wp2_with (fail)
  (go_at_call 72; refine (pick_any 12 B A q (by omega) (by omega) (by omega) _ h).mono ?_; rintro e w1 ⟨k1, rfl, h10, h11, hr1, hb1⟩)
  obtain ⟨n1, rfl⟩ : ∃ q : Nat, k1 = (q : Int) := ⟨k1.toNat, by omega⟩
  have hz1 := hb1.size
  go_wp2_with (fail)
  (go_at_call 71; refine (l92Part_any B A (q + 1) n1 (by omega) (by omega) _ hr1).mono ?_; rintro e w2 ⟨va, xs, rfl, hda, hxl⟩)
  have HDA := Lib.hid hda
  have HG2 := Lib.hid (gb_step hb1 hda.gb)
  have hz2 := hda.gb.size
  clear hr1 hb1 hda
  go_wp2_with (fail)
  (go_at_call 72; refine (pick_any 2 B A (q + 1 + 40) (by omega) (by omega) (by omega) _ HDA.out.rd).mono ?_; rintro e w3 ⟨k3, rfl, h30, h31, hr3, hb3⟩)
  have H3 := Lib.hid (HDA.out.pick hr3 hb3 (by omega))
  have HG3 := Lib.hid (gb_step HG2.out hb3)
  have hz3 := hb3.size
  clear hr3 hb3
  by_cases e3 : k3 = 0
  case neg =>
    have g3 : (k3 == 0) = false := beq_eq_false_iff_ne.2 e3
    have g3d : decide (k3 = 0) = false := decide_eq_false e3
    go_wp2_with (fail)
    (go_at_call 72; refine (pick_any 8 B A (q + 1 + 40 + 1) (by omega) (by omega) (by omega) _ H3.out.rd).mono ?_; rintro e w4 ⟨k4, rfl, h40, h41, hr4, hb4⟩)
    have H4 := Lib.hid (H3.out.pick hr4 hb4 (by omega))
    have HG4 := Lib.hid (gb_step HG3.out hb4)
    have hz4 := hb4.size
    clear hr4 hb4
    by_cases e4 : k4 = 0
    case pos =>
      subst e4
      have wn : IntKind.i64.wrap ((n1 : Int) + 1) = ((n1 + 1 : Nat) : Int) := by rw [IntWalk.i64_in _ (by omega)]; omega
      have HP := Lib.hid (l92Part_any B A (q + 1 + 40 + 2) (n1 + 1) (by omega) (by omega) _ (H4.out.rd.more (by omega)))
      rw [show ((n1 + 1 : Nat) : Int) = (n1 : Int) + 1 by omega] at HP wn
      go_wp2_with (fail)
      (go_at_call 71; refine (HP.out).mono ?_; rintro e w5 ⟨vb, ys, rfl, hdb, hyl⟩)
      have HV := Lib.hid (vrow_gb H4.out.row hdb.gb (by omega)).view
      have HU := Lib.hid hdb.row.view
      have HE := Lib.hid (gb_step HG4.out hdb.gb)
      clear hdb
      go_wp2
      go_ret2
      exact ⟨va, vb, xs, ys, rfl, HV.out, HU.out, hxl, hyl, HE.out⟩
    case neg =>
      have g4 : (k4 == 0) = false := beq_eq_false_iff_ne.2 e4
      have g4d : decide (k4 = 0) = false := decide_eq_false e4
      have HP := Lib.hid (l92Part_any B A (q + 1 + 40 + 2) n1 (by omega) (by omega) _ (H4.out.rd.more (by omega)))
      go_wp2_with (fail)
      (go_at_call 71; refine (HP.out).mono ?_; rintro e w5 ⟨vb, ys, rfl, hdb, hyl⟩)
      have HV := Lib.hid (vrow_gb H4.out.row hdb.gb (by omega)).view
      have HU := Lib.hid hdb.row.view
      have HE := Lib.hid (gb_step HG4.out hdb.gb)
      clear hdb
      go_wp2
      go_ret2
      exact ⟨va, vb, xs, ys, rfl, HV.out, HU.out, hxl, hyl, HE.out⟩
  case pos =>
    subst e3
    obtain ⟨ga, hga⟩ := H3.out.blk
    rcases H3.out.row.form with ⟨hnil, _⟩ | ⟨g, cap, cur, hv, hg, hg2, hgs, hcap, hmax, hh, hsz, htk, hc⟩
    · rw [hnil] at hga; simp [Value.ownBlock] at hga
    subst hv
    have HS : Hid (DvInv w3 (w3.alloc (.cells #[] 49)) B A (q + 1 + 40 + 1) (.slice (some ⟨w3.heap.size, 0, none⟩) 0 0) []) := ⟨(VbInv.start w3).own, H3.out.rd.alloc _, gb_alloc (gb_refl _ _) _, ⟨_, rfl⟩⟩
    have hown := HS.out.own
    go_wp2_with (at_builtin; refine wpList_append_own _ rfl _ _ 26 rfl w3.heap.size 49 i0 (.agg #[.int .i64 0, .bool false, .int .i64 0]) 3 24 Tryd.underlying26 hi0 hq0 hq1 hq2 rfl (by decide) _ _ _ rfl hown ⟨g, 0, none⟩ xs.length cap (vcs xs) rfl (vcs_len xs) ?c1 (vcs_one xs) ?c3 ?c4 ?c5 ?_)
    case c1 =>
      intro j u hj
      have hlt : j < xs.length * 3 := by
        rcases List.getElem?_eq_some_iff.1 hj with ⟨h9, _⟩
        rw [vcs_len] at h9
        exact h9
      have e : (cur.toList.take (xs.length * 3))[j]? = some u := by rw [htk]; exact hj
      rw [List.getElem?_take_of_lt hlt, Array.getElem?_toList] at e
      rw [Go.WideShapes.add_plain, Nat.zero_add, World.cell?_alloc_lt _ _ _ hgs]
      simp [World.cell?, hh, e]
    case c3 => unfold maxLen; simp; omega
    case c4 => simp; omega
    case c5 => simp
    intro vb w4 hown' hgrow hne
    have HI0 : Hid (DvInv w3 w4 B A (q + 1 + 40 + 1) vb xs) := by
      refine ⟨hown', HS.out.rd.grown hgrow (fun e => by simp [Value.ownBlock] at e; omega) (fun e => by simp [Value.ownBlock] at e; omega), gb_own (gb_refl w3 B) hgrow (fun g9 e => by simp [Value.ownBlock] at e; omega), ?_⟩
      obtain ⟨_, h0 | ⟨g9, cap9, cur9, hv9, _⟩⟩ := hown'
      · exact absurd h0.1 hne
      · exact ⟨g9, by rw [hv9]; rfl⟩
    obtain ⟨g8, cap8, rfl⟩ : ∃ g8 cap8, vb = .slice (some ⟨g8, 0, none⟩) xs.length cap8 := by
      obtain ⟨_, h0 | ⟨g9, cap9, cur9, hv9, _⟩⟩ := hown'
      · exact absurd h0.1 hne
      · exact ⟨g9, cap9, by simpa using hv9⟩
    clear hown' hgrow hown hne hc htk hsz hh HS hga
    go_wp2
    go_loopw [7] (fun i wr => ∃ (j : Nat) (ys : List Vc), j ≤ xs.length ∧ i = .int .i64 (j : Int) ∧ ys.length = xs.length ∧ DvInv w3 wr B A (q + 1 + 40 + 1 + j) (.slice (some ⟨g8, 0, none⟩) xs.length cap8) ys) (fun i _ => xs.length - (intOf i).toNat)
    case atStart => exact ⟨0, xs, by omega, rfl, rfl, HI0.out⟩
    case round =>
      obtain ⟨j, ys, hj, rfl, hly, hI⟩ := hrel
      have HI := Lib.hid hI
      have HLY := Lib.hid hly
      have hzr := hI.gb.size
      by_cases hlj : j < xs.length
      · obtain ⟨⟨⟨s, b⟩, m⟩, hx⟩ : ∃ x, ys[j]? = some x := ⟨ys[j]'(by omega), List.getElem?_eq_getElem (by omega)⟩
        clear hI hly HI0
        go_wp2_with (fail)
        (go_at_call 72; refine (pick_any 6 B A (q + 1 + 40 + 1 + j) (by omega) (by omega) (by omega) _ (HI.out.rd.alloc _)).mono ?_; rintro e w6 ⟨k6, rfl, h60, h61, hr6, hb6⟩)
        have hwB : wr.heap.size ≠ B := by omega
        have hn6 := (hb6.block wr.heap.size (by simp) (by simpa using hwB)).trans (heap_alloc_new wr _)
        have e4 : w6.cell? ⟨wr.heap.size, k6.toNat, none⟩ = some (.int .i64 (sel6 k6)) := by simp [World.cell?, hn6, sel6_arr h60 h61]
        have Ha : DvInv w3 (wr.alloc (.cells #[.int .i64 4, .int .i64 4, .int .i64 3, .int .i64 7, .int .i64 0, .int .i64 2] 3)) B A (q + 1 + 40 + 1 + j) (.slice (some ⟨g8, 0, none⟩) xs.length cap8) ys := ⟨HI.out.own.alloc _, HI.out.rd.alloc _, gb_alloc HI.out.gb _, ⟨_, rfl⟩⟩
        have H6 := Lib.hid (Ha.pick hr6 hb6 (by omega))
        have hk60 : (0 : Int) ≤ k6 := h60
        clear hn6 Ha hr6 hb6
        rcases H6.out.row.form with ⟨hnil, _⟩ | ⟨g5, cap5, cur5, hv5, hg5, hg52, hgs5, hcap5, hmax5, hh5, hsz5, htk5, hc5⟩
        · cases hnil
        injection hv5 with hv51 hv52 hv53
        injection hv51 with hv51
        injection hv51 with hv51
        subst hv51 hv53
        clear hv52
        obtain ⟨d0, d1, d2⟩ := hc5 j _ hx
        simp only at d0 d1
        have df : ∀ o, w6.frozen? ⟨g8, o, none⟩ = false := fun o => by simp [World.frozen?, hh5]
        have HSTORE : Hid (∀ z : Int, DvInv w3 ((w6.setCell ⟨g8, j * 3, none⟩ (.int .i64 z)).setCell ⟨g8, j * 3 + 1, none⟩ (.bool false)) B A (q + 1 + 40 + 1 + (j + 1)) (.slice (some ⟨g8, 0, none⟩) xs.length cap8) ((ys.set j ((z, b), m)).set j ((z, false), m))) := fun z => by
          have hlt : j < ys.length := by have := HLY.out; omega
          have s1 := H6.out.store (ys := ys.set j ((z, b), m)) (g := g8) (i := j * 3) (u := .int .i64 z) rfl (by omega) (by omega) (vcs_setA hx z) (by simp)
          have s2 := s1.store (ys := (ys.set j ((z, b), m)).set j ((z, false), m)) (g := g8) (i := j * 3 + 1) (u := .bool false) rfl (by omega) (by omega) (vcs_setB (List.getElem?_set_self hlt) false) (by simp)
          exact ⟨s2.own, s2.rd.more (by omega), s2.gb, s2.blk⟩
        have hj0 : (0 : Int) ≤ (j : Int) := by omega
        have hj1 : (j : Int) < (xs.length : Int) := by omega
        clear hc5 hh5 hsz5 htk5 hcap5 hmax5 hx
        rcases Int.lt_trichotomy s 0 with hs | rfl | hs
        · have b1 : decide ((0 : Int) ≤ s) = false := decide_eq_false (by omega)
          have b2 : decide (s ≤ 0) = true := decide_eq_true (by omega)
          have b3 : decide ((0 : Int) < s) = false := decide_eq_false (by omega)
          have b4 : decide (s < 0) = true := decide_eq_true hs
          obtain ⟨y, hy⟩ : ∃ y, IntKind.i64.wrap ((0 : Int) + sel6 k6) = y := ⟨_, rfl⟩
          obtain ⟨kk, hkk⟩ : ∃ kk, sel6 k6 = kk := ⟨_, rfl⟩
          rw [hkk] at hy e4
          clear hkk
          have hy0 : IntKind.i64.wrap kk = y := by rw [← hy, Int.zero_add]
          rcases Int.lt_trichotomy y 20 with hc | rfl | hc
          · have c1 : decide ((20 : Int) ≤ y) = false := decide_eq_false (by omega)
            have c2 : decide (y ≤ 20) = true := decide_eq_true (by omega)
            have c3 : decide ((20 : Int) < y) = false := decide_eq_false (by omega)
            have c4 : decide (y < 20) = true := decide_eq_true hc
            have HX := Lib.hid (HSTORE.out y)
            go_wp2
            go_roundw
            case rel => exact ⟨j + 1, _, by omega, by first | rfl | go_num, by simp; exact HLY.out, HX.out⟩
            case measure => simp [intOf]; omega
          · skip
            have HX := Lib.hid (HSTORE.out 20)
            go_wp2
            go_roundw
            case rel => exact ⟨j + 1, _, by omega, by first | rfl | go_num, by simp; exact HLY.out, HX.out⟩
            case measure => simp [intOf]; omega
          · have c1 : decide ((20 : Int) ≤ y) = true := decide_eq_true (by omega)
            have c2 : decide (y ≤ 20) = false := decide_eq_false (by omega)
            have c3 : decide ((20 : Int) < y) = true := decide_eq_true hc
            have c4 : decide (y < 20) = false := decide_eq_false (by omega)
            have HX := Lib.hid (HSTORE.out 20)
            go_wp2
            go_roundw
            case rel => exact ⟨j + 1, _, by omega, by first | rfl | go_num, by simp; exact HLY.out, HX.out⟩
            case measure => simp [intOf]; omega
        · skip
          obtain ⟨y, hy⟩ : ∃ y, IntKind.i64.wrap ((0 : Int) + sel6 k6) = y := ⟨_, rfl⟩
          obtain ⟨kk, hkk⟩ : ∃ kk, sel6 k6 = kk := ⟨_, rfl⟩
          rw [hkk] at hy e4
          clear hkk
          have hy0 : IntKind.i64.wrap kk = y := by rw [← hy, Int.zero_add]
          rcases Int.lt_trichotomy y 20 with hc | rfl | hc
          · have c1 : decide ((20 : Int) ≤ y) = false := decide_eq_false (by omega)
            have c2 : decide (y ≤ 20) = true := decide_eq_true (by omega)
            have c3 : decide ((20 : Int) < y) = false := decide_eq_false (by omega)
            have c4 : decide (y < 20) = true := decide_eq_true hc
            have HX := Lib.hid (HSTORE.out y)
            go_wp2
            go_roundw
            case rel => exact ⟨j + 1, _, by omega, by first | rfl | go_num, by simp; exact HLY.out, HX.out⟩
            case measure => simp [intOf]; omega
          · skip
            have HX := Lib.hid (HSTORE.out 20)
            go_wp2
            go_roundw
            case rel => exact ⟨j + 1, _, by omega, by first | rfl | go_num, by simp; exact HLY.out, HX.out⟩
            case measure => simp [intOf]; omega
          · have c1 : decide ((20 : Int) ≤ y) = true := decide_eq_true (by omega)
            have c2 : decide (y ≤ 20) = false := decide_eq_false (by omega)
            have c3 : decide ((20 : Int) < y) = true := decide_eq_true hc
            have c4 : decide (y < 20) = false := decide_eq_false (by omega)
            have HX := Lib.hid (HSTORE.out 20)
            go_wp2
            go_roundw
            case rel => exact ⟨j + 1, _, by omega, by first | rfl | go_num, by simp; exact HLY.out, HX.out⟩
            case measure => simp [intOf]; omega
        · have b1 : decide ((0 : Int) ≤ s) = true := decide_eq_true (by omega)
          have b2 : decide (s ≤ 0) = false := decide_eq_false (by omega)
          have b3 : decide ((0 : Int) < s) = true := decide_eq_true hs
          have b4 : decide (s < 0) = false := decide_eq_false (by omega)
          obtain ⟨y, hy⟩ : ∃ y, IntKind.i64.wrap (s + sel6 k6) = y := ⟨_, rfl⟩
          obtain ⟨kk, hkk⟩ : ∃ kk, sel6 k6 = kk := ⟨_, rfl⟩
          rw [hkk] at hy e4
          clear hkk
          skip
          rcases Int.lt_trichotomy y 20 with hc | rfl | hc
          · have c1 : decide ((20 : Int) ≤ y) = false := decide_eq_false (by omega)
            have c2 : decide (y ≤ 20) = true := decide_eq_true (by omega)
            have c3 : decide ((20 : Int) < y) = false := decide_eq_false (by omega)
            have c4 : decide (y < 20) = true := decide_eq_true hc
            have HX := Lib.hid (HSTORE.out y)
            go_wp2
            go_roundw
            case rel => exact ⟨j + 1, _, by omega, by first | rfl | go_num, by simp; exact HLY.out, HX.out⟩
            case measure => simp [intOf]; omega
          · skip
            have HX := Lib.hid (HSTORE.out 20)
            go_wp2
            go_roundw
            case rel => exact ⟨j + 1, _, by omega, by first | rfl | go_num, by simp; exact HLY.out, HX.out⟩
            case measure => simp [intOf]; omega
          · have c1 : decide ((20 : Int) ≤ y) = true := decide_eq_true (by omega)
            have c2 : decide (y ≤ 20) = false := decide_eq_false (by omega)
            have c3 : decide ((20 : Int) < y) = true := decide_eq_true hc
            have c4 : decide (y < 20) = false := decide_eq_false (by omega)
            have HX := Lib.hid (HSTORE.out 20)
            go_wp2
            go_roundw
            case rel => exact ⟨j + 1, _, by omega, by first | rfl | go_num, by simp; exact HLY.out, HX.out⟩
            case measure => simp [intOf]; omega
      · have HV := Lib.hid (vrow_gb H3.out.row hI.gb (by omega)).view
        have hu := hI.row.view
        have HU := Lib.hid hu
        have HE := Lib.hid (gb_step HG3.out hI.gb)
        clear hI hu
        go_wp2
        go_ret2
        exact ⟨_, _, xs, ys, rfl, HV.out, HU.out, hxl, by have := HLY.out; omega, HE.out⟩
end Go.Proofs.YticapinlnlpbpaaDoor
