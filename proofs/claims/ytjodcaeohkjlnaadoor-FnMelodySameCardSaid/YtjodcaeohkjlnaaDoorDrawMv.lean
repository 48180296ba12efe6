/-
  The draw of a melody and of steps to move it by returns.
-/
import Derived.Test.YtjodcaeohkjlnaaDoorSmT
import Derived.Test.YtjodcaeohkjlnaaDoorSl
namespace Go.Proofs.YtjodcaeohkjlnaaDoor
open Go.RowKit
set_option maxRecDepth 100000
set_option linter.unusedVariables false

def DrewMv (most : Nat) (w : World) (e : Ending) (w' : World) : Prop :=
  ∃ v xs k, e = .returned (.tuple #[v, .int .i64 k]) ∧ TRow w' w.heap.size w'.heap.size v xs ∧ xs.length ≤ most ∧ Below w.heap.size w w' ∧ -9223372036854775808 ≤ k ∧ k ≤ 9223372036854775807
theorem drewMv {B A q most : Nat} {w w1 w2 : World} {v : Value} {xs : List (Int × Bool)} {k : Int} (h : DmInv w1 w2 B A q v xs) (hl : xs.length ≤ most) (hb : Below w.heap.size w w1) (hB : w.heap.size ≤ B) (h0 : -9223372036854775808 ≤ k) (h1 : k ≤ 9223372036854775807) : DrewMv most w (.returned (.tuple #[v, .int .i64 k])) w2 :=
  ⟨v, xs, k, rfl, ⟨tmono h.own hb.size, fun g hg => (h.own.lt g hg).2⟩, hl, below_gb hb h.gb hB, h0, h1⟩
theorem drewMv_e {B A q most : Nat} {w w1 w2 : World} {v : Value} {xs : List (Int × Bool)} {k : Int} {e : Ending} (he : e = .returned (.tuple #[v, .int .i64 k])) (h : DmInv w1 w2 B A q v xs) (hl : xs.length ≤ most) (hb : Below w.heap.size w w1) (hB : w.heap.size ≤ B) (h0 : -9223372036854775808 ≤ k) (h1 : k ≤ 9223372036854775807) : DrewMv most w e w2 := by
  rw [he]; exact drewMv h hl hb hB h0 h1
theorem DmInv.alloc {w wr : World} {B A q : Nat} {v : Value} {xs : List (Int × Bool)} (h : DmInv w wr B A q v xs) (hB : B < w.heap.size) (o : Obj) : DmInv w (wr.alloc o) B A q v xs :=
  ⟨h.own.alloc o, h.rd.alloc o, gb_alloc h.gb o⟩
theorem DmInv.drew {w wr : World} {B A q : Nat} {v : Value} {xs : List (Int × Bool)} (h : DmInv w wr B A q v xs) : DmInv w wr.drew B A q v xs :=
  ⟨h.own.drew, h.rd.drew, gb_drew h.gb⟩

set_option maxHeartbeats 4000000 in
theorem drawMelodyMove_any (a : Option Addr) (n cap : Nat) (w : World) (h : CodeAt w a n) (hc : n ≤ cap) (hcap : cap ≤ maxLen) :
    Calls Tryd.prog 41 #[.slice a n cap] w (DrewMv 5 w) := by
  go_enter Tryd.func41, Tryd.ntmps41
  go_wp2_with (fail)
  (go_at_call 77; refine (open_any a n cap _ h hc hcap).mono ?_; rintro e w1 ⟨A, rfl, hr1, hb1, hs1⟩)
  have hB1 := hr1.lt
  go_wp2_with (fail)
  (go_at_call 101; refine (l91Melody_any w.heap.size A 0 5 (by omega) (by omega) _ hr1).mono ?_; rintro e w2 ⟨v, xs, rfl, hI, hl⟩)
  have hA1 := hr1.ltA
  clear hr1
  have HB := Lib.hid hb1
  have HL := Lib.hid hl
  go_wp2_with (fail)
  (go_at_call 85; refine (pick_any 20 w.heap.size A _ (by omega) (by omega) (by omega) _ hI.rd).mono ?_; rintro e w3 ⟨k3, rfl, h30, h31, hr3, hg3⟩)
  have hI3 := hI.pick hr3 hg3 hB1
  clear hI hr3 hg3
  have hB3 := hI3.rd.lt
  have hA3 := hI3.rd.ltA
  have hr33 := hI3.rd
  by_cases g0 : k3 = 0
  · subst g0
    go_wp2
    go_region_with ((go_at_call 85; refine (pick_any 3 w.heap.size A (0 + 2 * 5 + 4 + 1) ?_ ?_ ?_ _ ?_).mono ?_; (focus omega); (focus omega); (focus omega); (focus ((repeat' (first | (with_reducible refine Rd.set_ ?_ ?_ ?_ _) | (with_reducible refine Rd.alloc ?_ _) | (with_reducible refine Rd.drew ?_) | (refine Rd.more (by assumption) ?_; (first | omega | (simp; omega))) | (show _ ≠ _; (first | omega | (simp; omega))))); done)); rintro e w4 ⟨k4, rfl, h40, h41, hr4, hb4⟩; obtain ⟨hc4, hf4, hz4⟩ := bg hb4; (try simp at hz4); (try (refine got (p := w3.heap.size < w4.heap.size) ?_ ?_; (focus (go_size; done)); intro q4_w30)); (try (refine got (p := w4.cell? ⟨w3.heap.size, 0, none⟩ = some (.int .i64 9223372036854775807)) ?_ ?_; (focus (refine (hc4 _ _ ?_ ?_).trans ?_; (focus (go_size; done)); (focus (first | omega | (simp; omega))); go_simp; done)); intro c4_w30_0)); (try (refine got (p := w4.cell? ⟨w3.heap.size, 1, none⟩ = some (.int .i64 (-9223372036854775808))) ?_ ?_; (focus (refine (hc4 _ _ ?_ ?_).trans ?_; (focus (go_size; done)); (focus (first | omega | (simp; omega))); go_simp; done)); intro c4_w30_1)); (try (refine got (p := w4.cell? ⟨w3.heap.size, 2, none⟩ = some (.int .i64 0)) ?_ ?_; (focus (refine (hc4 _ _ ?_ ?_).trans ?_; (focus (go_size; done)); (focus (first | omega | (simp; omega))); go_simp; done)); intro c4_w30_2)); (try (refine got (p := ∀ o, w4.frozen? ⟨w3.heap.size, o, none⟩ = false) ?_ ?_; (focus (intro o; refine (hf4 _ _ ?_ ?_).trans ?_; (focus (go_size; done)); (focus (first | omega | (simp; omega))); go_simp; done)); intro f4_w30)); clear hc4 hf4); (try have hx := sel3_cell h40 h41 c4_w30_0 c4_w30_1 c4_w30_2); have hx2 := sel3_arr (x := 9223372036854775807) (y := -9223372036854775808) (z := 0) h40 h41; have hx3 := sel3_list (x := 9223372036854775807) (y := -9223372036854775808) (z := 0) h40 h41; have hx4 := sel3_get (x := 9223372036854775807) (y := -9223372036854775808) (z := 0) h40 h41; have hbd := sel3_bd (k := k4) (x := 9223372036854775807) (y := -9223372036854775808) (z := 0) (-9223372036854775808) 9223372036854775807 (by omega) (by omega) (by omega))
    all_goals go_wp2
    all_goals go_ret2
    all_goals exact (by first | exact drewMv_e (k := sel3 9223372036854775807 (-9223372036854775808) 0 k4) (by first | rfl | simp [hx4]) ((hI3.drew.alloc hB1 _).pick hr4 hb4 hB1) HL.out HB.out (Nat.le_refl _) hbd.1 hbd.2 | exact drewMv_e (k := sel3 9223372036854775807 (-9223372036854775808) 0 k4) (by first | rfl | simp [hx4]) ((hI3.drew.pick hr4 hb4 hB1).alloc hB1 _) HL.out HB.out (Nat.le_refl _) hbd.1 hbd.2)
  have e0 : (k3 == 0) = false := by simpa using g0
  clear g0
  go_wp2
  go_region_with ((go_at_call 85; refine (pick_any 10 w.heap.size A (0 + 2 * 5 + 4 + 1) ?_ ?_ ?_ _ ?_).mono ?_; (focus omega); (focus omega); (focus omega); (focus ((repeat' (first | (with_reducible refine Rd.set_ ?_ ?_ ?_ _) | (with_reducible refine Rd.alloc ?_ _) | (with_reducible refine Rd.drew ?_) | (refine Rd.more (by assumption) ?_; (first | omega | (simp; omega))) | (show _ ≠ _; (first | omega | (simp; omega))))); done)); rintro e w4 ⟨k4, rfl, h40, h41, hr4, hb4⟩; obtain ⟨hc4, hf4, hz4⟩ := bg hb4; (try simp at hz4); (try (refine got (p := w3.heap.size < w4.heap.size) ?_ ?_; (focus (go_size; done)); intro q4_w30)); (try (refine got (p := w4.cell? ⟨w3.heap.size, 0, none⟩ = some (.int .i64 (-7))) ?_ ?_; (focus (refine (hc4 _ _ ?_ ?_).trans ?_; (focus (go_size; done)); (focus (first | omega | (simp; omega))); go_simp; done)); intro c4_w30_0)); (try (refine got (p := w4.cell? ⟨w3.heap.size, 1, none⟩ = some (.int .i64 (-4))) ?_ ?_; (focus (refine (hc4 _ _ ?_ ?_).trans ?_; (focus (go_size; done)); (focus (first | omega | (simp; omega))); go_simp; done)); intro c4_w30_1)); (try (refine got (p := w4.cell? ⟨w3.heap.size, 2, none⟩ = some (.int .i64 (-3))) ?_ ?_; (focus (refine (hc4 _ _ ?_ ?_).trans ?_; (focus (go_size; done)); (focus (first | omega | (simp; omega))); go_simp; done)); intro c4_w30_2)); (try (refine got (p := w4.cell? ⟨w3.heap.size, 3, none⟩ = some (.int .i64 0)) ?_ ?_; (focus (refine (hc4 _ _ ?_ ?_).trans ?_; (focus (go_size; done)); (focus (first | omega | (simp; omega))); go_simp; done)); intro c4_w30_3)); (try (refine got (p := w4.cell? ⟨w3.heap.size, 4, none⟩ = some (.int .i64 3)) ?_ ?_; (focus (refine (hc4 _ _ ?_ ?_).trans ?_; (focus (go_size; done)); (focus (first | omega | (simp; omega))); go_simp; done)); intro c4_w30_4)); (try (refine got (p := w4.cell? ⟨w3.heap.size, 5, none⟩ = some (.int .i64 4)) ?_ ?_; (focus (refine (hc4 _ _ ?_ ?_).trans ?_; (focus (go_size; done)); (focus (first | omega | (simp; omega))); go_simp; done)); intro c4_w30_5)); (try (refine got (p := w4.cell? ⟨w3.heap.size, 6, none⟩ = some (.int .i64 7)) ?_ ?_; (focus (refine (hc4 _ _ ?_ ?_).trans ?_; (focus (go_size; done)); (focus (first | omega | (simp; omega))); go_simp; done)); intro c4_w30_6)); (try (refine got (p := w4.cell? ⟨w3.heap.size, 7, none⟩ = some (.int .i64 1)) ?_ ?_; (focus (refine (hc4 _ _ ?_ ?_).trans ?_; (focus (go_size; done)); (focus (first | omega | (simp; omega))); go_simp; done)); intro c4_w30_7)); (try (refine got (p := w4.cell? ⟨w3.heap.size, 8, none⟩ = some (.int .i64 (-1))) ?_ ?_; (focus (refine (hc4 _ _ ?_ ?_).trans ?_; (focus (go_size; done)); (focus (first | omega | (simp; omega))); go_simp; done)); intro c4_w30_8)); (try (refine got (p := w4.cell? ⟨w3.heap.size, 9, none⟩ = some (.int .i64 2)) ?_ ?_; (focus (refine (hc4 _ _ ?_ ?_).trans ?_; (focus (go_size; done)); (focus (first | omega | (simp; omega))); go_simp; done)); intro c4_w30_9)); (try (refine got (p := ∀ o, w4.frozen? ⟨w3.heap.size, o, none⟩ = false) ?_ ?_; (focus (intro o; refine (hf4 _ _ ?_ ?_).trans ?_; (focus (go_size; done)); (focus (first | omega | (simp; omega))); go_simp; done)); intro f4_w30)); clear hc4 hf4); (try have hx := ten_cell h40 h41 c4_w30_0 c4_w30_1 c4_w30_2 c4_w30_3 c4_w30_4 c4_w30_5 c4_w30_6 c4_w30_7 c4_w30_8 c4_w30_9); have hx2 : (#[.int .i64 (-7),.int .i64 (-4),.int .i64 (-3),.int .i64 0,.int .i64 3,.int .i64 4,.int .i64 7,.int .i64 1,.int .i64 (-1),.int .i64 2] : Array Value)[k4.toNat]? = some (.int .i64 (sl [-7, -4, -3, 0, 3, 4, 7, 1, -1, 2] k4)) := sl_arr (l := [-7, -4, -3, 0, 3, 4, 7, 1, -1, 2]) h40 h41; have hx3 : ([.int .i64 (-7),.int .i64 (-4),.int .i64 (-3),.int .i64 0,.int .i64 3,.int .i64 4,.int .i64 7,.int .i64 1,.int .i64 (-1),.int .i64 2] : List Value)[k4.toNat]? = some (.int .i64 (sl [-7, -4, -3, 0, 3, 4, 7, 1, -1, 2] k4)) := sl_list (l := [-7, -4, -3, 0, 3, 4, 7, 1, -1, 2]) h40 h41; have hx4 : ∀ h : k4.toNat < ([.int .i64 (-7), .int .i64 (-4), .int .i64 (-3), .int .i64 0, .int .i64 3, .int .i64 4, .int .i64 7, .int .i64 1, .int .i64 (-1), .int .i64 2] : List Value).length, ([.int .i64 (-7), .int .i64 (-4), .int .i64 (-3), .int .i64 0, .int .i64 3, .int .i64 4, .int .i64 7, .int .i64 1, .int .i64 (-1), .int .i64 2] : List Value)[k4.toNat] = .int .i64 (sl [-7, -4, -3, 0, 3, 4, 7, 1, -1, 2] k4) := fun h => sl_get (l := [-7, -4, -3, 0, 3, 4, 7, 1, -1, 2]) h40 h41 h; have hbd := sl_bd (l := [-7, -4, -3, 0, 3, 4, 7, 1, -1, 2]) (k := k4) (by decide))
  all_goals go_wp2
  all_goals go_ret2
  all_goals exact (by first | exact drewMv_e (k := sl [-7, -4, -3, 0, 3, 4, 7, 1, -1, 2] k4) (by first | rfl | simp [hx4]) ((hI3.drew.alloc hB1 _).pick hr4 hb4 hB1) HL.out HB.out (Nat.le_refl _) hbd.1 hbd.2 | exact drewMv_e (k := sl [-7, -4, -3, 0, 3, 4, 7, 1, -1, 2] k4) (by first | rfl | simp [hx4]) ((hI3.drew.pick hr4 hb4 hB1).alloc hB1 _) HL.out HB.out (Nat.le_refl _) hbd.1 hbd.2)
end Go.Proofs.YtjodcaeohkjlnaaDoor
