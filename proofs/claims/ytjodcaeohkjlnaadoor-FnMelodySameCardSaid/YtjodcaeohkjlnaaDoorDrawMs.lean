/-
  The draw of two melodies, the second often a moved one, returns.
-/
import Derived.Test.YtjodcaeohkjlnaaDoorDrawMv
import Derived.Test.YtjodcaeohkjlnaaDoorMmt
namespace Go.Proofs.YtjodcaeohkjlnaaDoor
open Go.RowKit
set_option maxRecDepth 100000
set_option linter.unusedVariables false

theorem TRow.kept {w w' : World} {lo hi : Nat} {v : Value} {xs : List (Int × Bool)} {B : Nat} (h : TRow w lo hi v xs) (hg : w.grownBy w' (some B)) (hB : B < lo) : TRow w' lo hi v xs := by
  refine ⟨h.1.kept hg ?_, h.2⟩
  right
  intro e
  have := (h.1.lt B e).1
  omega
def DrewMs (most : Nat) (w : World) (e : Ending) (w' : World) : Prop :=
  ∃ v xs u ys, e = .returned (.tuple #[v, u]) ∧ TRow w' w.heap.size w'.heap.size v xs ∧ TRow w' w.heap.size w'.heap.size u ys ∧ xs.length ≤ most ∧ ys.length ≤ most + 24 ∧ Below w.heap.size w w'
/-- the cells of a small table that was just laid -/
theorem seven_tab {w : World} {j : Nat} (hj : j < 7) : ∃ z : Int, (w.alloc (.cells #[.int .i64 (-7), .int .i64 (-4), .int .i64 (-3), .int .i64 0, .int .i64 3, .int .i64 4, .int .i64 7] 3)).cell? ⟨w.heap.size, j, none⟩ = some (.int .i64 z) ∧ -7 ≤ z ∧ z ≤ 7 := by
  rw [World.cell?_alloc_mark]
  match j, hj with
  | 0, _ => exact ⟨_, rfl, by decide, by decide⟩
  | 1, _ => exact ⟨_, rfl, by decide, by decide⟩
  | 2, _ => exact ⟨_, rfl, by decide, by decide⟩
  | 3, _ => exact ⟨_, rfl, by decide, by decide⟩
  | 4, _ => exact ⟨_, rfl, by decide, by decide⟩
  | 5, _ => exact ⟨_, rfl, by decide, by decide⟩
  | 6, _ => exact ⟨_, rfl, by decide, by decide⟩

set_option maxHeartbeats 4000000 in
theorem drawMelodySame_any (a : Option Addr) (n cap : Nat) (w : World) (h : CodeAt w a n) (hc : n ≤ cap) (hcap : cap ≤ maxLen) :
    Calls Tryd.prog 61 #[.slice a n cap] w (DrewMs 6 w) := by
  go_enter Tryd.func61, Tryd.ntmps61
  go_wp2_with (fail)
  (go_at_call 77; refine (open_any a n cap _ h hc hcap).mono ?_; rintro e w1 ⟨A, rfl, hr1, hb1, hs1⟩)
  have hB1 := hr1.lt
  have hA1 := hr1.ltA
  go_wp2_with (fail)
  (go_at_call 101; refine (l91Melody_any w.heap.size A 0 6 (by omega) (by omega) _ hr1).mono ?_; rintro e w2 ⟨v, xs, rfl, hI, hl⟩)
  clear hr1
  have z2 := hI.gb.size
  have hI2 := hI.alloc hB1 (.cells #[.int .i64 (-7), .int .i64 (-4), .int .i64 (-3), .int .i64 0, .int .i64 3, .int .i64 4, .int .i64 7] 3)
  go_wp2_with (fail)
  (go_at_call 85; refine (pick_any 7 w.heap.size A _ (by omega) (by omega) (by omega) _ hI2.rd).mono ?_; rintro e w3 ⟨k3, rfl, h30, h31, hr3, hg3⟩)
  have hI3 := hI2.pick hr3 hg3 hB1
  obtain ⟨j, rfl⟩ : ∃ j : Nat, k3 = j := ⟨k3.toNat, by omega⟩
  obtain ⟨z, hz, hz0, hz1⟩ := seven_tab (w := w2) (j := j) (by omega)
  obtain ⟨hc3, _, _⟩ := bg hg3
  have ez : w3.cell? ⟨w2.heap.size, j, none⟩ = some (.int .i64 z) := (hc3 _ _ (by simp) (by omega)).trans hz
  have z3 := hg3.size
  have HI3 := Lib.hid hI3
  have zB3 := hI3.rd.lt
  have HB1 := Lib.hid hb1
  have HL := Lib.hid hl
  have zz1 := hb1.size
  have hxr : TRow w3 w1.heap.size w3.heap.size v xs := ⟨hI3.own, fun g hg => (hI3.own.lt g hg).2⟩
  have HX := Lib.hid hxr
  have hbw3 : Below w.heap.size w w3 := below_gb hb1 hI3.gb (Nat.le_refl _)
  clear hc3 hI hI2 hg3 hr3 hI3 hxr hb1
  go_wp2_with (fail)
  (go_at_call 43; refine (sMelodyMove_any _ _ v xs z _ HX.out).mono ?_; rintro e w4 ⟨x, rfl, hx4, hb4⟩)
  have hbw4 := bl_step hbw3 hb4
  have z4 := hb4.size
  have hr4 := HI3.out.rd.below hb4
  have hv4 := HX.out.below hb4 (.inl (Nat.le_refl _))
  have hxl : (mmL z xs).length ≤ 30 := by have := mmL_len z xs; omega
  have HXL := Lib.hid hxl
  clear hxl
  generalize mmL z xs = ys at hx4 HXL
  have HV4 := Lib.hid hv4
  have HX4 := Lib.hid hx4
  have HR4 := Lib.hid hr4
  clear hv4 hx4 hr4 ez
  by_cases hok : mmB z xs = true
  · rw [hok]
    go_wp2_with (fail)
    (go_at_call 85; refine (pick_any 4 w.heap.size A _ (by omega) (by omega) (by omega) _ HR4.out).mono ?_; rintro e w5 ⟨k5, rfl, h50, h51, hr5, hg5⟩)
    have z5 := hg5.size
    have hbw5 := below_gb hbw4 hg5 (Nat.le_refl _)
    have hv5 := HV4.out.kept hg5 (by omega)
    have hx5 := HX4.out.kept hg5 (by omega)
    by_cases g0 : 0 < k5
    · have HE : Hid (DrewMs 6 w (.returned (.tuple #[v, x])) w5) := ⟨v, xs, x, ys, rfl, hv5.lohi (by omega) (by omega), hx5.lohi (by omega) (by omega), HL.out, HXL.out, hbw5⟩
      clear hv5 hx5 hr5 hg5
      go_wp2
      go_ret2
      exact HE.out
    · have g1 : decide (0 < k5) = false := by simp; omega
      have HR5 := Lib.hid hr5
      have HV5 := Lib.hid hv5
      clear hv5 hx5 hr5 hg5 g0
      go_wp2_with (fail)
      (go_at_call 101; refine (l91Melody_any w.heap.size A _ 6 (by omega) (by omega) _ HR5.out).mono ?_; rintro e w6 ⟨u, us, rfl, hI6, hl6⟩)
      have HE : Hid (DrewMs 6 w (.returned (.tuple #[v, u])) w6) := ⟨v, xs, u, us, rfl, (HV5.out.kept hI6.gb (by omega)).lohi (by omega) (by have := hI6.gb.size; omega), ⟨tmono hI6.own (by omega), fun g hg => (hI6.own.lt g hg).2⟩, HL.out, by omega, below_gb hbw5 hI6.gb (Nat.le_refl _)⟩
      clear hI6
      go_wp2
      go_ret2
      exact HE.out
  · rw [Bool.not_eq_true] at hok
    rw [hok]
    go_wp2_with (fail)
    (go_at_call 101; refine (l91Melody_any w.heap.size A _ 6 (by omega) (by omega) _ HR4.out).mono ?_; rintro e w6 ⟨u, us, rfl, hI6, hl6⟩)
    have HE : Hid (DrewMs 6 w (.returned (.tuple #[v, u])) w6) := ⟨v, xs, u, us, rfl, (HV4.out.kept hI6.gb (by omega)).lohi (by omega) (by have := hI6.gb.size; omega), ⟨tmono hI6.own (by omega), fun g hg => (hI6.own.lt g hg).2⟩, HL.out, by omega, below_gb hbw4 hI6.gb (Nat.le_refl _)⟩
    clear hI6
    go_wp2
    go_ret2
    exact HE.out
end Go.Proofs.YtjodcaeohkjlnaaDoor
