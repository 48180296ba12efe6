/-
  slices.Grow of no list, and slices.Concat of two lists of integers.
-/
import Derived.Test.YtjhigjbfnemdjaaFb
import Derived.Lib.AppendZeros
import Derived.Laws.AppendOwnNone
namespace Go.Proofs.Ytjhigjbfnemdjaa
open Go.RowKit
set_option maxRecDepth 100000
set_option linter.unusedVariables false

set_option maxHeartbeats 2000000 in
theorem growNil_any (n : Nat) (h0 : 0 < n) (h1 : n ≤ 1000000) (w : World) :
    Calls Try.prog 86 #[.slice none 0 0, .int .i64 n] w fun e w' => ∃ c, e = .returned (.slice (some ⟨w.heap.size, 0, none⟩) 0 c) ∧
      w'.ownsRow w.heap.size 3 1 (.slice (some ⟨w.heap.size, 0, none⟩) 0 c) 0 [] ∧ Below w.heap.size w w' := by
  obtain ⟨i0, hi, hq0, hq1, hq2⟩ := info_parts infoIntB
  have hrz : ∀ ty, (Builtin.append_ #[23, 3] ty #[.slice none 0 0, .int .i64 (n : Int)]).run Try.prog w =
      .ok (.slice (some ⟨w.heap.size, 0, none⟩) n (grownCap w n 0 3)) (w.drew.alloc (.cells (Builtin.zeroCells (Value.int .i64 0).cells n ++ Builtin.zeroCells (Value.int .i64 0).cells (grownCap w n 0 3 - n)) 3)) := fun ty =>
    Lib.run_append_nil_zeros w 23 3 ty 3 i0 (.int .i64 0) .i64 .i64 Try.underlying23 Try.underlying3 hi hq0 n h0 (by omega) (by omega) (by rw [hq2]; omega)
  have hGn : n ≤ grownCap w n 0 3 := grownCap_ge w _ _ _
  have hG63 : grownCap w n 0 3 ≤ maxLen := grownCap_le_maxLen w n 0 3 (by unfold maxLen; omega)
  have hend : ∀ G, G = grownCap w n 0 3 → ((w.drew.alloc (.cells (Builtin.zeroCells (Value.int .i64 0).cells n ++ Builtin.zeroCells (Value.int .i64 0).cells (G - n)) 3)).ownsRow w.heap.size 3 1 (.slice (some ⟨w.heap.size, 0, none⟩) 0 G) 0 [] ∧
      Below w.heap.size w (w.drew.alloc (.cells (Builtin.zeroCells (Value.int .i64 0).cells n ++ Builtin.zeroCells (Value.int .i64 0).cells (G - n)) 3))) := by
    intro G hG
    refine ⟨⟨rfl, .inr ⟨w.heap.size, G, _, rfl, Nat.le_refl _, heap_alloc_new w.drew _, by omega, by rw [hG]; exact hG63, ?_, rfl⟩⟩, (Below.refl w.heap.size w).drew.alloc (Nat.le_refl _) _⟩
    rw [Array.size_append, size_zeroCells, size_zeroCells]
    simp only [Value.cells, List.size_toArray, List.length_cons, List.length_nil]
    omega
  obtain ⟨G, hG⟩ : ∃ G, G = grownCap w n 0 3 := ⟨_, rfl⟩
  have HE := Lib.hid (hend G hG)
  rw [← hG] at hrz hGn hG63
  unfold maxLen at hG63
  clear hend hG
  go_enter Try.func86, Try.ntmps86
  go_wp2_with (at_builtin; refine Lib.wpList_append_run _ rfl _ _ _ _ rfl _ _ rfl rfl _ _ (hrz _) ?_)
  all_goals
    go_ret
    exact ⟨G, rfl, HE.out.1, HE.out.2⟩

/-- the least block in which rows may lie -/
class Lo where
  n : Nat
/-- a row of integers, wherever it was made -/
def IB [Lo] (w : World) (x : Value) (zs : List Int) : Prop := w.ownsRow Lo.n 3 1 x zs.length (zs.map (Value.int .i64))
theorem IB.form [Lo] {w : World} {x : Value} {zs : List Int} (h : IB w x zs) : (x = .slice none 0 0 ∧ zs = []) ∨ ∃ g cap, x = .slice (some ⟨g, 0, none⟩) zs.length cap ∧ g < w.heap.size ∧ zs.length ≤ cap ∧ cap ≤ maxLen ∧ (∀ i, i < zs.length → w.cell? ⟨g, 0 + i, none⟩ = some (.int .i64 (zs.getD i 0))) := by
  have h' : IRow w Lo.n w.heap.size x zs := ⟨h, fun g hg => (own_ltb h hg).2⟩
  rcases h'.form with ⟨rfl, rfl⟩ | ⟨g, cap, cur, rfl, hg, hg2, hgs, hcap, hmax, hh, hsz, htk, hc, hfz⟩
  · exact .inl ⟨rfl, rfl⟩
  · exact .inr ⟨g, cap, rfl, hgs, hcap, hmax, fun i hi => by rw [Nat.zero_add]; exact hc i hi⟩
theorem IB.view [Lo] {w : World} {x : Value} {zs : List Int} (h : IB w x zs) : IV w x zs :=
  IRow.view (lo := Lo.n) (hi := w.heap.size) ⟨h, fun g hg => (own_ltb h hg).2⟩
theorem IB.nil [Lo] (w : World) : IB w (.slice none 0 0) [] := ⟨rfl, .inl ⟨rfl, rfl⟩⟩

set_option maxHeartbeats 4000000 in
theorem concat2_any [Lo] (C A off n c : Nat) (y : Value) (ys zs : List Int) (h1 : ys.length = n) (hn0 : 0 < n) (hn : n + zs.length ≤ 1000000) (w : World)
    (hc0 : w.cell? ⟨C, 0, none⟩ = some (.slice (some ⟨A, off, none⟩) n c)) (hc1 : w.cell? ⟨C, 1, none⟩ = some y) (hC : C < w.heap.size) (hA : A < w.heap.size)
    (hy : ∀ i, i < ys.length → w.cell? ⟨A, off + i, none⟩ = some (.int .i64 (ys.getD i 0))) (hz : IB w y zs) :
    Calls Try.prog 83 #[.slice (some ⟨C, 0, none⟩) 2 2] w fun e w' => ∃ x, e = .returned x ∧ IRow w' w.heap.size w'.heap.size x (ys ++ zs) ∧ Below w.heap.size w w' := by
  obtain ⟨i0, hi, hq0, hq1, hq2⟩ := info_parts infoIntB
  have HG := Lib.hid (growNil_any (n + zs.length) (by omega) hn w)
  have HZ := Lib.hid hz
  have HY := Lib.hid hy
  obtain ⟨za, zc, rfl, _, _, _⟩ := hz.view
  have hz1 : zs.length ≤ 1000000 := by omega
  clear hy hz
  go_enter Try.func83, Try.ntmps83
  go_wp2
  go_loop [3, 11] (fun s i => (s = .int .i64 0 ∧ i = .int .i64 0) ∨ (s = .int .i64 n ∧ i = .int .i64 1) ∨ (s = .int .i64 (n + zs.length : Nat) ∧ i = .int .i64 2)) (fun _ i => 2 - (intOf i).toNat)
  case atStart => exact .inl ⟨rfl, rfl⟩
  case round =>
    rcases hrel with ⟨rfl, rfl⟩ | ⟨rfl, rfl⟩ | ⟨rfl, rfl⟩
    · have t1 : decide ((n : Int) < 0) = false := decide_eq_false (by omega)
      go_wp2
      go_round
      case rel => exact .inr (.inl ⟨rfl, rfl⟩)
      case measure => simp [intOf]
    · have t1 : decide ((n : Int) + (zs.length : Int) < 0) = false := decide_eq_false (by omega)
      go_wp2
      go_round
      case rel => exact .inr (.inr ⟨by simp, rfl⟩)
      case measure => simp [intOf]
    · rw [Int.natCast_add] at HG
      go_wp2_with (fail)
      (go_at_call 86; refine HG.out.mono ?_; rintro e w1 ⟨c1, rfl, hown, hb1⟩)
      have H0 := Lib.hid (show IbInv2 w w1 (.slice (some ⟨w.heap.size, 0, none⟩) 0 c1) [] from ⟨hown, hb1⟩)
      clear hown
      go_wp2
      go_loopw [6, 27] (fun x i wr => (i = .int .i64 0 ∧ IbInv2 w wr x []) ∨ (i = .int .i64 1 ∧ IbInv2 w wr x ys) ∨ (i = .int .i64 2 ∧ IbInv2 w wr x (ys ++ zs))) (fun _ i _ => 2 - (intOf i).toNat)
      case atStart => exact .inl ⟨rfl, H0.out⟩
      case round =>
        rcases hrel with ⟨rfl, hI⟩ | ⟨rfl, hI⟩ | ⟨rfl, hI⟩
        · have hb := hI.bl
          have hown := hI.own
          have HI := Lib.hid hI
          have k0 := (hb.cell (p := ⟨C, 0, none⟩) hC).trans hc0
          have HN := Lib.hid (ints_news (w := wr) (A := A) (off := off) (xs := ys) (fun i hi => (hb.cell (p := ⟨A, off + i, none⟩) hA).trans (HY.out i hi)))
          have hle := hb.size
          clear hI
          go_wp2_with (at_builtin; refine wpList_append_own _ rfl _ _ 23 rfl w.heap.size 3 i0 (.int .i64 0) 1 8 Try.underlying23 hi hq0 hq1 hq2 rfl (by decide) _ 0 _ rfl hown ⟨A, off, none⟩ n c (ys.map (Value.int .i64)) rfl (by simp [h1]) HN.out (ints_one ys) (by unfold maxLen; omega) (by omega) (by omega) ?_)
          intro v' w4 hown' hgrow _
          have HX := Lib.hid (HI.out.app (ys := ys) (by simpa [h1] using hown') hgrow)
          clear hown hown' hgrow
          go_wp2
          go_roundw
          case rel => exact .inr (.inl ⟨rfl, by simpa using HX.out⟩)
          case measure => simp [intOf]
        · have hb := hI.bl
          have hown := hI.own
          have HI := Lib.hid hI
          have k1 := (hb.cell (p := ⟨C, 1, none⟩) hC).trans hc1
          have hle := hb.size
          clear hI
          rcases HZ.out.form with ⟨he, hz0⟩ | ⟨g, cap, he, hg, hcap, hmax, hcz⟩
          · injection he with e1 e2 e3
            subst e1 e3
            have HZ0 := Lib.hid hz0
            have HE2 := Lib.hid e2
            clear hz0 e2
            go_wp2_with (at_builtin; refine wpList_append_own_none rfl _ _ 23 rfl w.heap.size 3 i0 1 Try.underlying23 hi _ _ _ rfl hown (show Value.slice none zs.length 0 = _ by rw [HE2.out]) ?_)
            go_wp2
            go_roundw
            case rel => exact .inr (.inr ⟨rfl, by rw [HZ0.out, List.append_nil]; exact HI.out⟩)
            case measure => simp [intOf]
          · injection he with e1 e2 e3
            subst e1 e3
            have HN := Lib.hid (ints_news (w := wr) (A := g) (off := 0) (xs := zs) (fun i hi => (hb.cell (p := ⟨g, 0 + i, none⟩) hg).trans (hcz i hi)))
            clear hcz
            go_wp2_with (at_builtin; refine wpList_append_own _ rfl _ _ 23 rfl w.heap.size 3 i0 (.int .i64 0) 1 8 Try.underlying23 hi hq0 hq1 hq2 rfl (by decide) _ _ _ rfl hown ⟨g, 0, none⟩ zs.length zc (zs.map (Value.int .i64)) rfl (by simp) HN.out (ints_one zs) (by unfold maxLen; omega) (by omega) (by omega) ?_)
            intro v' w4 hown' hgrow _
            have HX := Lib.hid (HI.out.app (ys := zs) (by rw [h1]; exact hown') hgrow)
            clear hown hown' hgrow
            go_wp2
            go_roundw
            case rel => exact .inr (.inr ⟨rfl, HX.out⟩)
            case measure => simp [intOf]
        · have HB := Lib.hid (show IRow wr w.heap.size wr.heap.size _ (ys ++ zs) ∧ Below w.heap.size w wr from ⟨⟨hI.own, fun g hg => (own_ltb hI.own hg).2⟩, hI.bl⟩)
          clear hI
          go_wp2
          go_ret
          exact ⟨_, rfl, HB.out.1, HB.out.2⟩
end Go.Proofs.Ytjhigjbfnemdjaa
