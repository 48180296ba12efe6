/-
  The draw of an index.
-/
import Derived.Test.YthmkjdmjhngpjaaPick
namespace Go.Proofs.Ythmkjdmjhngpjaa
open Go.RowKit
set_option maxRecDepth 100000
set_option linter.unusedVariables false

def AtPicked (B A q : Nat) (w : World) (e : Ending) (w' : World) : Prop :=
  ∃ k : Int, e = .returned (.int .i64 k) ∧ -1 ≤ k ∧ k ≤ 1000 ∧ Rd w' B A (q + 3) ∧ w.grownBy w' (some B)
theorem atPicked {B A q q' : Nat} {w w' : World} {k : Int} (h0 : -1 ≤ k) (h1 : k ≤ 1000) (h : Rd w' B A q') (hq : q' ≤ q + 3) (hg : w.grownBy w' (some B)) : AtPicked B A q w (.returned (.int .i64 k)) w' :=
  ⟨k, rfl, h0, h1, h.more hq, hg⟩

set_option maxHeartbeats 4000000 in
theorem l91At_any (B A q n : Nat) (hn : n ≤ 100) (hq : q ≤ 900000) (w : World) (h : Rd w B A q) :
    Calls Try.prog 50 #[.pointer (some ⟨B, 0, none⟩), .int .i64 (n : Int)] w (AtPicked B A q w) := by
  have hB := h.lt
  have key : ∀ (W : World) (p : Nat) (k : Int), p ≤ q + 2 → Rd W B A p → w.grownBy W (some B) → 0 ≤ k → k < 2 → AtPicked B A q w (.returned (.int .i64 (if k = 0 then -1 else (n : Int)))) W := by
    intro W p k hp hr hg h0 h1
    split
    · exact atPicked (by omega) (by omega) hr (by omega) hg
    · exact atPicked (by omega) (by omega) hr (by omega) hg
  have HK := Lib.hid key
  clear key
  by_cases hn0 : n = 0
  · subst hn0
    have hr0 := h.alloc (.cells #[.int .i64 (-1), .int .i64 ((0 : Nat) : Int)] 3)
    go_enter Try.func50, Try.ntmps50
    go_wp2_with (fail)
    (go_at_call 38; refine (pick_any 2 B A q (by omega) (by omega) (by omega) _ (h.alloc _)).mono ?_; rintro e w2 ⟨k, rfl, h0, h1, hr2, hg2⟩)
    have hne : w.heap.size ≠ B := by omega
    have hnw := (hg2.block w.heap.size (by simp) (by simpa using hne)).trans (heap_alloc_new w _)
    have hgb := gb_step (gb_alloc (gb_refl _ _) _) hg2
    have hk : k = 0 ∨ k = 1 := by omega
    rcases hk with rfl | rfl
    · have e4 : w2.cell? ⟨w.heap.size, 0, none⟩ = some (.int .i64 (-1)) := by simp [World.cell?, hnw]
      have HE := Lib.hid (HK.out w2 _ 0 (by omega) hr2 hgb (by omega) (by omega))
      clear hnw hr2 hgb hg2
      go_wp2
      go_ret
      exact HE.out
    · have e4 : w2.cell? ⟨w.heap.size, 1, none⟩ = some (.int .i64 0) := by simp [World.cell?, hnw]
      have HE := Lib.hid (HK.out w2 _ 1 (by omega) hr2 hgb (by omega) (by omega))
      clear hnw hr2 hgb hg2
      go_wp2
      go_ret
      exact HE.out
  have e0 : ((n : Int) == 0) = false := by rw [beq_eq_false_iff_ne]; omega
  go_enter Try.func50, Try.ntmps50
  go_wp2_with (fail)
  (go_at_call 38; refine (pick_any 20 B A q (by omega) (by omega) (by omega) _ h).mono ?_; rintro e w1 ⟨c, rfl, hc0, hc1, hr1, hg1⟩)
  by_cases hc : c = 0
  · subst hc
    go_wp2_with (fail)
    (go_at_call 38; refine (pick_any 2 B A (q + 1) (by omega) (by omega) (by omega) _ (hr1.alloc _)).mono ?_; rintro e w2 ⟨k, rfl, h0, h1, hr2, hg2⟩)
    have hB1 := hr1.lt
    have hne : w1.heap.size ≠ B := by omega
    have hnw := (hg2.block w1.heap.size (by simp) (by simpa using hne)).trans (heap_alloc_new w1 _)
    have hgb := gb_step (gb_alloc hg1 _) hg2
    have hk : k = 0 ∨ k = 1 := by omega
    rcases hk with rfl | rfl
    · have e4 : w2.cell? ⟨w1.heap.size, 0, none⟩ = some (.int .i64 (-1)) := by simp [World.cell?, hnw]
      have HE := Lib.hid (HK.out w2 _ 0 (by omega) hr2 hgb (by omega) (by omega))
      clear hnw hr2 hgb hg2
      go_wp2
      go_ret
      exact HE.out
    · have e4 : w2.cell? ⟨w1.heap.size, 1, none⟩ = some (.int .i64 (n : Int)) := by simp [World.cell?, hnw]
      have HE := Lib.hid (HK.out w2 _ 1 (by omega) hr2 hgb (by omega) (by omega))
      clear hnw hr2 hgb hg2
      go_wp2
      go_ret
      exact HE.out
  · have ec : (c == 0) = false := by simpa using hc
    go_wp2_with (fail)
    (go_at_call 38; refine (pick_any (n : Int) B A (q + 1) (by omega) (by omega) (by omega) _ hr1).mono ?_; rintro e w2 ⟨k, rfl, h0, h1, hr2, hg2⟩)
    have HE := Lib.hid (atPicked (q := q) (k := k) (by omega) (by omega) hr2 (by omega) (gb_step hg1 hg2))
    clear hr2 hg2
    go_wp2
    go_ret
    exact HE.out
end Go.Proofs.Ythmkjdmjhngpjaa
