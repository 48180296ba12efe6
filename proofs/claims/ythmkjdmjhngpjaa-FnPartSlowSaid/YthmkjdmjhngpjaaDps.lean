/-
  The draw of a part of whose tones some are alike.
-/
import Derived.Test.YthmkjdmjhngpjaaDdi
namespace Go.Proofs.Ythmkjdmjhngpjaa
open Go.RowKit
set_option maxRecDepth 100000
set_option linter.unusedVariables false

/-- a list of voices of a draw -/
def DrewOne (w : World) (e : Ending) (w' : World) : Prop :=
  ∃ (v : Value) (xs : List Vc), e = .returned v ∧ VV w' v xs ∧ Below w.heap.size w w'
set_option maxHeartbeats 4000000 in
theorem drawPartSlow_any (a : Option Addr) (n cap : Nat) (w : World) (h : CodeAt w a n) (hc : n ≤ cap) (hcap : cap ≤ maxLen) :
    Calls Try.prog 28 #[.slice a n cap] w (DrewOne w) := by
  go_enter Try.func28, Try.ntmps28
  go_wp2_with (fail)
  (go_at_call 36; refine (open_any a n cap _ h hc hcap).mono ?_; rintro e w1 ⟨A, rfl, hr1, hb1, hs1⟩)
  go_wp2_with (fail)
  (go_at_call 38; refine (pick_any 14 w.heap.size A 0 (by omega) (by omega) (by omega) _ hr1).mono ?_; rintro e w2 ⟨k2, rfl, h20, h21, hr2, hb2⟩)
  obtain ⟨kn, rfl⟩ : ∃ q : Nat, k2 = (q : Int) := ⟨k2.toNat, by omega⟩
  have hB2 := hr2.lt
  have hA2 := hr2.ltA
  go_wp2_with (fail)
  (go_at_call 49; refine (l92Part_any w.heap.size A 1 kn (by omega) (by omega) _ hr2).mono ?_; rintro e w3 ⟨v, xs, rfl, hd, hxl⟩)
  have HE := Lib.hid (below_gb hb1 hb2 (Nat.le_refl _))
  have HD := Lib.hid hd
  clear hr1 hb1 hr2 hb2
  rcases hd.row.form with ⟨hnil, _⟩ | ⟨g, cap3, cur, hv, hg, hg2, hgs, hcap3, hmax, hh, hsz, htk, hcc⟩
  · obtain ⟨g9, hg9⟩ := hd.blk
    rw [hnil] at hg9; simp [Value.ownBlock] at hg9
  subst hv
  unfold maxLen at hmax
  clear hd hh hsz htk hcc
  go_wp2
  go_loopw [5] (fun i wr => ∃ (j : Nat) (ys : List Vc), i = .int .i64 ((j : Int) + 1) ∧ j ≤ xs.length ∧ ys.length = xs.length ∧ DvInv w2 wr w.heap.size A (41 + j) (.slice (some ⟨g, 0, none⟩) xs.length cap3) ys) (fun i _ => xs.length + 1 - (intOf i).toNat)
  case atStart => exact ⟨0, xs, rfl, by omega, rfl, HD.out⟩
  case round =>
    obtain ⟨j, ys, rfl, hj, hly, hI⟩ := hrel
    have HI := Lib.hid hI
    have HLY := Lib.hid hly
    by_cases hlj : j + 1 < xs.length
    · obtain ⟨⟨⟨s, b⟩, m⟩, hx⟩ : ∃ x, ys[j + 1]? = some x := ⟨ys[j + 1]'(by omega), List.getElem?_eq_getElem (by omega)⟩
      obtain ⟨⟨⟨s0, b0⟩, m0⟩, hx0⟩ : ∃ x, ys[j]? = some x := ⟨ys[j]'(by omega), List.getElem?_eq_getElem (by omega)⟩
      have gj : (j : Int) + 1 < (xs.length : Int) := by omega
      clear hI hly
      go_wp2_with (fail)
      (go_at_call 38; refine (pick_any 3 w.heap.size A (41 + j) (by omega) (by omega) (by omega) _ HI.out.rd).mono ?_; rintro e w6 ⟨k6, rfl, h60, h61, hr6, hb6⟩)
      have H6 := Lib.hid (HI.out.pick hr6 hb6 (by omega))
      clear hr6 hb6
      by_cases hk6 : k6 = 0
      · subst hk6
        rcases H6.out.row.form with ⟨hnil, _⟩ | ⟨g5, cap5, cur5, hv5, hg5, hg52, hgs5, hcap5, hmax5, hh5, hsz5, htk5, hc5⟩
        · cases hnil
        injection hv5 with hv51 hv52 hv53
        injection hv51 with hv51
        injection hv51 with hv51
        subst hv51 hv53
        clear hv52
        obtain ⟨d0, d1, d2⟩ := hc5 (j + 1) _ hx
        obtain ⟨f0, f1, f2⟩ := hc5 j _ hx0
        simp only at d0 d1 f0 f1
        have df : ∀ o, w6.frozen? ⟨g, o, none⟩ = false := fun o => by simp [World.frozen?, hh5]
        have HX : Hid (DvInv w2 ((w6.setCell ⟨g, (j + 1) * 3, none⟩ (.int .i64 s0)).setCell ⟨g, (j + 1) * 3 + 1, none⟩ (.bool b0)) w.heap.size A (41 + (j + 1)) (.slice (some ⟨g, 0, none⟩) xs.length cap3) ((ys.set (j + 1) ((s0, b), m)).set (j + 1) ((s0, b0), m))) := by
          have hlt : j + 1 < ys.length := by have := HLY.out; omega
          have s1 := H6.out.store (ys := ys.set (j + 1) ((s0, b), m)) (g := g) (i := (j + 1) * 3) (u := .int .i64 s0) rfl (by omega) (by omega) (vcs_setA hx s0) (by simp)
          have s2 := s1.store (ys := (ys.set (j + 1) ((s0, b), m)).set (j + 1) ((s0, b0), m)) (g := g) (i := (j + 1) * 3 + 1) (u := .bool b0) rfl (by omega) (by omega) (vcs_setB (List.getElem?_set_self hlt) b0) (by simp)
          exact ⟨s2.own, s2.rd.more (by omega), s2.gb, s2.blk⟩
        have wj : IntKind.i64.wrap ((j : Int) + 1 - 1) = (j : Int) := by rw [show (j : Int) + 1 - 1 = (j : Int) by omega]; exact IntWalk.i64_in _ (by omega)
        have wj2 : IntKind.i64.wrap (j : Int) = (j : Int) := IntWalk.i64_in _ (by omega)
        have wj3 : IntKind.i64.wrap ((j : Int) + 1 + 1) = (j : Int) + 1 + 1 := IntWalk.i64_in _ (by omega)
        have gj2 : (j : Int) < (xs.length : Int) := by omega
        clear hc5 hh5 hsz5 htk5 hcap5 hmax5 hx hx0
        go_wp2
        go_roundw
        case rel => exact ⟨j + 1, _, by first | rfl | go_num, by omega, by simp; exact HLY.out, HX.out⟩
        case measure => simp [intOf]; omega
      · have g6 : (k6 == 0) = false := beq_eq_false_iff_ne.2 hk6
        have g7 : decide (k6 = 0) = false := decide_eq_false hk6
        have wj3 : IntKind.i64.wrap ((j : Int) + 1 + 1) = (j : Int) + 1 + 1 := IntWalk.i64_in _ (by omega)
        have HX : Hid (DvInv w2 w6 w.heap.size A (41 + (j + 1)) (.slice (some ⟨g, 0, none⟩) xs.length cap3) ys) := ⟨H6.out.own, H6.out.rd.more (by omega), H6.out.gb, H6.out.blk⟩
        go_wp2
        go_roundw
        case rel => exact ⟨j + 1, ys, by first | rfl | go_num, by omega, HLY.out, HX.out⟩
        case measure => simp [intOf]; omega
    · have HV := Lib.hid hI.row.view
      have HF := Lib.hid (below_gb HE.out hI.gb (Nat.le_refl _))
      have gj : decide ((j : Int) + 1 < (xs.length : Int)) = false := decide_eq_false (by omega)
      clear hI
      go_wp2
      go_ret
      exact ⟨_, ys, rfl, HV.out, HF.out⟩
end Go.Proofs.Ythmkjdmjhngpjaa
