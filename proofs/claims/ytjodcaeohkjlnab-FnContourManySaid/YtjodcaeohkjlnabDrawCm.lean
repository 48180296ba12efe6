/-
  The draw of a contour and of the greatest step returns.
-/
import Derived.Test.YtjodcaeohkjlnabDrawC
namespace Go.Proofs.Ytjodcaeohkjlnab
open Go.RowKit
set_option maxRecDepth 100000
set_option linter.unusedVariables false

def DrewCm (m : Nat) (w : World) (e : Ending) (w' : World) : Prop :=
  ∃ (x : ByteArray) (k : Int), e = .returned (.tuple #[.string x, .int .i64 k]) ∧ x.size ≤ m ∧ -1 ≤ k ∧ k ≤ 21 ∧ Below w.heap.size w w'

set_option maxHeartbeats 4000000 in
theorem drawContourMany_any (a : Option Addr) (n cap : Nat) (w : World) (h : CodeAt w a n) (hc : n ≤ cap) (hcap : cap ≤ maxLen) :
    Calls Try.prog 23 #[.slice a n cap] w (DrewCm 6 w) := by
  go_enter Try.func23, Try.ntmps23
  go_wp2_with (fail)
  (go_at_call 58; refine (open_any a n cap _ h hc hcap).mono ?_; rintro e w1 ⟨A, rfl, hr1, hb1, hs1⟩)
  have hB1 := hr1.lt
  have hA1 := hr1.ltA
  go_wp2_with (fail)
  (go_at_call 57; refine (l91Contour_any w.heap.size A 0 5 (by omega) (by omega) _ hr1).mono ?_; rintro e w2 ⟨x, rfl, hx, hr2, hg2⟩)
  have hb2w := below_gb hb1 hg2 (Nat.le_refl _)
  have HX := Lib.hid hx
  clear hr1 hg2
  go_wp2_with (fail)
  (go_at_call 66; refine (pick_any 16 w.heap.size A (0 + 5 + 3) (by omega) (by omega) (by omega) _ hr2).mono ?_; rintro e w3 ⟨k3, rfl, h30, h31, hr3, hg3⟩)
  have hb3w := below_gb hb2w hg3 (Nat.le_refl _)
  have hB := hr3.lt
  have hA := hr3.ltA
  clear hr2 hg3
  by_cases g0 : k3 = 0
  · subst g0
    go_wp2
    go_region_with ((go_at_call 66; refine (pick_any 3 w.heap.size A (0 + 5 + 3 + 1) ?_ ?_ ?_ _ ?_).mono ?_; (focus omega); (focus omega); (focus omega); (focus ((repeat' (first | (with_reducible refine Rd.set_ ?_ ?_ ?_ _) | (with_reducible refine Rd.alloc ?_ _) | (with_reducible refine Rd.drew ?_) | (refine Rd.more (by assumption) ?_; (first | omega | (simp; omega))) | (show _ ≠ _; (first | omega | (simp; omega))))); done)); rintro e w4 ⟨k4, rfl, h40, h41, hr4, hb4⟩; obtain ⟨hc4, hf4, hz4⟩ := bg hb4; (try simp at hz4); (try (refine got (p := w3.heap.size < w4.heap.size) ?_ ?_; (focus (go_size; done)); intro q4_w30)); (try (refine got (p := w4.cell? ⟨w3.heap.size, 0, none⟩ = some (.int .i64 (-1))) ?_ ?_; (focus (refine (hc4 _ _ ?_ ?_).trans ?_; (focus (go_size; done)); (focus (first | omega | (simp; omega))); go_simp; done)); intro c4_w30_0)); (try (refine got (p := w4.cell? ⟨w3.heap.size, 1, none⟩ = some (.int .i64 21)) ?_ ?_; (focus (refine (hc4 _ _ ?_ ?_).trans ?_; (focus (go_size; done)); (focus (first | omega | (simp; omega))); go_simp; done)); intro c4_w30_1)); (try (refine got (p := w4.cell? ⟨w3.heap.size, 2, none⟩ = some (.int .i64 20)) ?_ ?_; (focus (refine (hc4 _ _ ?_ ?_).trans ?_; (focus (go_size; done)); (focus (first | omega | (simp; omega))); go_simp; done)); intro c4_w30_2)); (try (refine got (p := ∀ o, w4.frozen? ⟨w3.heap.size, o, none⟩ = false) ?_ ?_; (focus (intro o; refine (hf4 _ _ ?_ ?_).trans ?_; (focus (go_size; done)); (focus (first | omega | (simp; omega))); go_simp; done)); intro f4_w30)); clear hc4 hf4); (try have hxx := sel3_cell h40 h41 c4_w30_0 c4_w30_1 c4_w30_2); have hx2 := sel3_arr (x := -1) (y := 21) (z := 20) h40 h41; have hx3 := sel3_list (x := -1) (y := 21) (z := 20) h40 h41; have hx4 := sel3_get (x := -1) (y := 21) (z := 20) h40 h41; have hbd := sel3_bd (k := k4) (x := -1) (y := 21) (z := 20) (-1) 21 (by omega) (by omega) (by omega))
    all_goals go_wp2
    all_goals (go_ret2; exact ⟨x, sel3 (-1) 21 20 k4, by first | rfl | simp [hx4], HX.out, hbd.1, hbd.2, by (repeat' (first | (with_reducible assumption) | (with_reducible exact Below.refl _ _) | (with_reducible refine Below.alloc ?_ ?_ _) | (with_reducible refine Below.drew ?_) | (with_reducible refine Below.setCell ?_ ?_ _) | (with_reducible refine below_gb ?_ (by assumption) ?_) | (with_reducible refine bl_step ?_ (by assumption)) | go_size))⟩)
  have e0 : (k3 == 0) = false := by simpa using g0
  clear g0
  go_wp2_with (fail)
  (go_at_call 66; refine (pick_any 6 w.heap.size A (0 + 5 + 3 + 1) (by omega) (by omega) (by omega) _ hr3).mono ?_; rintro e w4 ⟨k4, rfl, h40, h41, hr4, hg4⟩)
  have hb4w := below_gb hb3w hg4 (Nat.le_refl _)
  clear hr3 hr4 hg4
  go_wp2
  go_ret2
  exact ⟨x, k4, rfl, HX.out, by omega, by omega, hb4w⟩
end Go.Proofs.Ytjodcaeohkjlnab
