/-
  What is kept of readings, in memory; a formula put in front.
-/
import Derived.Test.YtjhigjbfnemdjaaRs
import Derived.Test.YtjhigjbfnemdjaaCat
namespace Go.Proofs.Ytjhigjbfnemdjaa
open Go.RowKit
set_option maxRecDepth 100000
set_option linter.unusedVariables false

/-- the cells of what is kept of readings; x: the slice of the best one -/
def rdC (r : Rs) (x : Value) : Array Value :=
  #[.int .i64 r.many, .int .i64 r.few, .int .i64 r.wt, x, .bool (r.used 0), .bool (r.used 1), .bool (r.used 2), .bool (r.used 3), .bool (r.used 4), .bool (r.used 5), .bool (r.used 6), .bool (r.used 7)]
def rdV (r : Rs) (x : Value) : Value := .agg (rdC r x)
theorem IB.below [Lo] {w w' : World} {x : Value} {zs : List Int} (h : IB w x zs) (hb : Below w.heap.size w w') : IB w' x zs := by
  have h' : IRow w Lo.n w.heap.size x zs := ⟨h, fun g hg => (own_ltb h hg).2⟩
  exact (h'.below hb (.inl (Nat.le_refl _))).1
theorem IRow.ib [Lo] {w : World} {lo hi : Nat} {x : Value} {zs : List Int} (h : IRow w lo hi x zs) (hlo : Lo.n ≤ lo) : IB w x zs := (h.lohi hlo (Nat.le_refl _)).1
theorem IB.row [Lo] {w : World} {x : Value} {zs : List Int} (h : IB w x zs) : IRow w Lo.n w.heap.size x zs := ⟨h, fun g hg => (own_ltb h hg).2⟩

theorem one_list {w : World} {A : Nat} {z : Int} (h : w.cell? ⟨A, 0, none⟩ = some (.int .i64 z)) : ∀ i, i < [z].length → w.cell? ⟨A, 0 + i, none⟩ = some (.int .i64 ([z].getD i 0)) := by
  intro i hi
  have e : i = 0 := by simpa using hi
  subst e
  exact h
set_option maxHeartbeats 8000000 in
theorem behind_raw [Lo] (m : Nat) (few wt : Int) (xa : Option Addr) (xc : Nat) (bs : List Int) (b0 b1 b2 b3 b4 b5 b6 b7 : Bool) (k : Nat) (z : Int) (hk : k < 8) (hz : 1 ≤ z ∧ z ≤ 9) (hf : 0 ≤ few ∧ few ≤ 1000) (hw : 0 ≤ wt ∧ wt ≤ 1000) (hl : bs.length ≤ 1000) (w : World) (hlo : Lo.n ≤ w.heap.size) (h : IB w (.slice xa bs.length xc) bs) :
    Calls Try.prog 70 #[.agg #[.int .i64 m, .int .i64 few, .int .i64 wt, .slice xa bs.length xc, .bool b0, .bool b1, .bool b2, .bool b3, .bool b4, .bool b5, .bool b6, .bool b7], .int .i64 k, .int .i64 z] w fun e w' => ∃ y, e = .returned (.agg #[.int .i64 m, .int .i64 (few + 1), .int .i64 (wt + z), y, .bool (decide (0 = k) || b0), .bool (decide (1 = k) || b1), .bool (decide (2 = k) || b2), .bool (decide (3 = k) || b3), .bool (decide (4 = k) || b4), .bool (decide (5 = k) || b5), .bool (decide (6 = k) || b6), .bool (decide (7 = k) || b7)]) ∧ IB w' y ((k : Int) :: bs) ∧ Below w.heap.size w w' := by
  have HX := Lib.hid (fun w' (hb : Below w.heap.size w w') => h.below hb)
  have HC := Lib.hid (fun w1 hC hA hc0 hc1 hy hz => concat2_any (w.heap.size + 3) (w.heap.size + 2) 0 1 1 (.slice xa bs.length xc) [(k : Int)] bs rfl (by omega) (by omega) w1 hc0 hc1 hC hA hy hz)
  clear h
  go_enter Try.func70, Try.ntmps70
  go_wp2_with (fail)
  (go_at_call 83; refine (HC.out _ (by go_size) (by go_size) (by first | (go_simp; done) | (go_simp; rfl)) (by first | (go_simp; done) | (go_simp; rfl)) (one_list (by first | (go_simp; done) | (go_simp; rfl))) (HX.out _ (by (repeat' (first | (with_reducible exact Below.refl _ _) | (with_reducible refine Below.alloc ?_ ?_ _) | (with_reducible refine Below.drew ?_) | (with_reducible refine Below.setCell ?_ ?_ _) | (with_reducible refine bl_step ?_ (by assumption)) | go_size))))).mono ?_; rintro e w1 ⟨y, rfl, hr, hb1⟩; obtain ⟨hc1, hf1, hz1⟩ := bl hb1; (try simp at hz1); (try (refine got (p := w.heap.size < w1.heap.size) ?_ ?_; (focus (go_size; done)); intro q1_w0)); (try (refine got (p := w1.cell? ⟨w.heap.size, 0, none⟩ = some (.int .i64 m)) ?_ ?_; (focus (refine (hc1 _ _ ?_).trans ?_; (focus (go_size; done)); go_simp; done)); intro c1_w0_0)); (try (refine got (p := w1.cell? ⟨w.heap.size, 1, none⟩ = some (.int .i64 (few + 1))) ?_ ?_; (focus (refine (hc1 _ _ ?_).trans ?_; (focus (go_size; done)); go_simp; done)); intro c1_w0_1)); (try (refine got (p := w1.cell? ⟨w.heap.size, 2, none⟩ = some (.int .i64 (wt + z))) ?_ ?_; (focus (refine (hc1 _ _ ?_).trans ?_; (focus (go_size; done)); go_simp; done)); intro c1_w0_2)); (try (refine got (p := w1.cell? ⟨w.heap.size, 3, none⟩ = some (.slice xa bs.length xc)) ?_ ?_; (focus (refine (hc1 _ _ ?_).trans ?_; (focus (go_size; done)); go_simp; done)); intro c1_w0_3)); (try (refine got (p := w1.cell? ⟨w.heap.size, 4, none⟩ = some (.bool b0)) ?_ ?_; (focus (refine (hc1 _ _ ?_).trans ?_; (focus (go_size; done)); go_simp; done)); intro c1_w0_4)); (try (refine got (p := w1.cell? ⟨w.heap.size, 5, none⟩ = some (.bool b1)) ?_ ?_; (focus (refine (hc1 _ _ ?_).trans ?_; (focus (go_size; done)); go_simp; done)); intro c1_w0_5)); (try (refine got (p := w1.cell? ⟨w.heap.size, 6, none⟩ = some (.bool b2)) ?_ ?_; (focus (refine (hc1 _ _ ?_).trans ?_; (focus (go_size; done)); go_simp; done)); intro c1_w0_6)); (try (refine got (p := w1.cell? ⟨w.heap.size, 7, none⟩ = some (.bool b3)) ?_ ?_; (focus (refine (hc1 _ _ ?_).trans ?_; (focus (go_size; done)); go_simp; done)); intro c1_w0_7)); (try (refine got (p := w1.cell? ⟨w.heap.size, 8, none⟩ = some (.bool b4)) ?_ ?_; (focus (refine (hc1 _ _ ?_).trans ?_; (focus (go_size; done)); go_simp; done)); intro c1_w0_8)); (try (refine got (p := w1.cell? ⟨w.heap.size, 9, none⟩ = some (.bool b5)) ?_ ?_; (focus (refine (hc1 _ _ ?_).trans ?_; (focus (go_size; done)); go_simp; done)); intro c1_w0_9)); (try (refine got (p := w1.cell? ⟨w.heap.size, 10, none⟩ = some (.bool b6)) ?_ ?_; (focus (refine (hc1 _ _ ?_).trans ?_; (focus (go_size; done)); go_simp; done)); intro c1_w0_10)); (try (refine got (p := w1.cell? ⟨w.heap.size, 11, none⟩ = some (.bool b7)) ?_ ?_; (focus (refine (hc1 _ _ ?_).trans ?_; (focus (go_size; done)); go_simp; done)); intro c1_w0_11)); (try (refine got (p := ∀ o, w1.frozen? ⟨w.heap.size, o, none⟩ = false) ?_ ?_; (focus (intro o; refine (hf1 _ _ ?_).trans ?_; (focus (go_size; done)); go_simp; done)); intro f1_w0)); (try (refine got (p := w.heap.size + 1 < w1.heap.size) ?_ ?_; (focus (go_size; done)); intro q1_w1)); (try (refine got (p := w1.cell? ⟨w.heap.size + 1, 0, none⟩ = some (.int .i64 0)) ?_ ?_; (focus (refine (hc1 _ _ ?_).trans ?_; (focus (go_size; done)); go_simp; done)); intro c1_w1_0)); (try (refine got (p := w1.cell? ⟨w.heap.size + 1, 1, none⟩ = some (.int .i64 0)) ?_ ?_; (focus (refine (hc1 _ _ ?_).trans ?_; (focus (go_size; done)); go_simp; done)); intro c1_w1_1)); (try (refine got (p := w1.cell? ⟨w.heap.size + 1, 2, none⟩ = some (.int .i64 0)) ?_ ?_; (focus (refine (hc1 _ _ ?_).trans ?_; (focus (go_size; done)); go_simp; done)); intro c1_w1_2)); (try (refine got (p := w1.cell? ⟨w.heap.size + 1, 3, none⟩ = some (.slice none 0 0)) ?_ ?_; (focus (refine (hc1 _ _ ?_).trans ?_; (focus (go_size; done)); go_simp; done)); intro c1_w1_3)); (try (refine got (p := w1.cell? ⟨w.heap.size + 1, 4, none⟩ = some (.bool false)) ?_ ?_; (focus (refine (hc1 _ _ ?_).trans ?_; (focus (go_size; done)); go_simp; done)); intro c1_w1_4)); (try (refine got (p := w1.cell? ⟨w.heap.size + 1, 5, none⟩ = some (.bool false)) ?_ ?_; (focus (refine (hc1 _ _ ?_).trans ?_; (focus (go_size; done)); go_simp; done)); intro c1_w1_5)); (try (refine got (p := w1.cell? ⟨w.heap.size + 1, 6, none⟩ = some (.bool false)) ?_ ?_; (focus (refine (hc1 _ _ ?_).trans ?_; (focus (go_size; done)); go_simp; done)); intro c1_w1_6)); (try (refine got (p := w1.cell? ⟨w.heap.size + 1, 7, none⟩ = some (.bool false)) ?_ ?_; (focus (refine (hc1 _ _ ?_).trans ?_; (focus (go_size; done)); go_simp; done)); intro c1_w1_7)); (try (refine got (p := w1.cell? ⟨w.heap.size + 1, 8, none⟩ = some (.bool false)) ?_ ?_; (focus (refine (hc1 _ _ ?_).trans ?_; (focus (go_size; done)); go_simp; done)); intro c1_w1_8)); (try (refine got (p := w1.cell? ⟨w.heap.size + 1, 9, none⟩ = some (.bool false)) ?_ ?_; (focus (refine (hc1 _ _ ?_).trans ?_; (focus (go_size; done)); go_simp; done)); intro c1_w1_9)); (try (refine got (p := w1.cell? ⟨w.heap.size + 1, 10, none⟩ = some (.bool false)) ?_ ?_; (focus (refine (hc1 _ _ ?_).trans ?_; (focus (go_size; done)); go_simp; done)); intro c1_w1_10)); (try (refine got (p := w1.cell? ⟨w.heap.size + 1, 11, none⟩ = some (.bool false)) ?_ ?_; (focus (refine (hc1 _ _ ?_).trans ?_; (focus (go_size; done)); go_simp; done)); intro c1_w1_11)); (try (refine got (p := ∀ o, w1.frozen? ⟨w.heap.size + 1, o, none⟩ = false) ?_ ?_; (focus (intro o; refine (hf1 _ _ ?_).trans ?_; (focus (go_size; done)); go_simp; done)); intro f1_w1)); clear hc1 hf1)
  have hr2 : IRow w1 (w.heap.size + 4) w1.heap.size y ([(k : Int)] ++ bs) := by simpa using hr
  obtain ⟨ya, yc, rfl, _, _, _⟩ := hr2.view
  have HR := Lib.hid hr2
  clear hr hr2
  have hk8 : k = 0 ∨ k = 1 ∨ k = 2 ∨ k = 3 ∨ k = 4 ∨ k = 5 ∨ k = 6 ∨ k = 7 := by omega
  have hbl := hl
  rcases hk8 with rfl | rfl | rfl | rfl | rfl | rfl | rfl | rfl
  · go_wp2
    refine bodyPost_ret (v := .agg #[.int .i64 m, .int .i64 (few + 1), .int .i64 (wt + z), (.slice ya ([((0 : Nat) : Int)] ++ bs).length yc), .bool (Bool.or (decide (0 = 0)) b0), .bool (Bool.or (decide (1 = 0)) b1), .bool (Bool.or (decide (2 = 0)) b2), .bool (Bool.or (decide (3 = 0)) b3), .bool (Bool.or (decide (4 = 0)) b4), .bool (Bool.or (decide (5 = 0)) b5), .bool (Bool.or (decide (6 = 0)) b6), .bool (Bool.or (decide (7 = 0)) b7)]) (by simp only [results, Try.results70]; go_simp) rfl ⟨_, rfl, ?_, ?_⟩
    · refine IRow.ib (HR.out.keep (fun j _ h1 _ => ?_)) (by omega)
      repeat rw [Below.heap_setCell _ _ _ _ (by simp; omega)]
    · (repeat' (first | (with_reducible exact Below.refl _ _) | (with_reducible refine Below.alloc ?_ ?_ _) | (with_reducible refine Below.drew ?_) | (with_reducible refine Below.setCell ?_ ?_ _) | (with_reducible refine bl_step ?_ (by assumption)) | go_size))
  · go_wp2
    refine bodyPost_ret (v := .agg #[.int .i64 m, .int .i64 (few + 1), .int .i64 (wt + z), (.slice ya ([((1 : Nat) : Int)] ++ bs).length yc), .bool (Bool.or (decide (0 = 1)) b0), .bool (Bool.or (decide (1 = 1)) b1), .bool (Bool.or (decide (2 = 1)) b2), .bool (Bool.or (decide (3 = 1)) b3), .bool (Bool.or (decide (4 = 1)) b4), .bool (Bool.or (decide (5 = 1)) b5), .bool (Bool.or (decide (6 = 1)) b6), .bool (Bool.or (decide (7 = 1)) b7)]) (by simp only [results, Try.results70]; go_simp) rfl ⟨_, rfl, ?_, ?_⟩
    · refine IRow.ib (HR.out.keep (fun j _ h1 _ => ?_)) (by omega)
      repeat rw [Below.heap_setCell _ _ _ _ (by simp; omega)]
    · (repeat' (first | (with_reducible exact Below.refl _ _) | (with_reducible refine Below.alloc ?_ ?_ _) | (with_reducible refine Below.drew ?_) | (with_reducible refine Below.setCell ?_ ?_ _) | (with_reducible refine bl_step ?_ (by assumption)) | go_size))
  · go_wp2
    refine bodyPost_ret (v := .agg #[.int .i64 m, .int .i64 (few + 1), .int .i64 (wt + z), (.slice ya ([((2 : Nat) : Int)] ++ bs).length yc), .bool (Bool.or (decide (0 = 2)) b0), .bool (Bool.or (decide (1 = 2)) b1), .bool (Bool.or (decide (2 = 2)) b2), .bool (Bool.or (decide (3 = 2)) b3), .bool (Bool.or (decide (4 = 2)) b4), .bool (Bool.or (decide (5 = 2)) b5), .bool (Bool.or (decide (6 = 2)) b6), .bool (Bool.or (decide (7 = 2)) b7)]) (by simp only [results, Try.results70]; go_simp) rfl ⟨_, rfl, ?_, ?_⟩
    · refine IRow.ib (HR.out.keep (fun j _ h1 _ => ?_)) (by omega)
      repeat rw [Below.heap_setCell _ _ _ _ (by simp; omega)]
    · (repeat' (first | (with_reducible exact Below.refl _ _) | (with_reducible refine Below.alloc ?_ ?_ _) | (with_reducible refine Below.drew ?_) | (with_reducible refine Below.setCell ?_ ?_ _) | (with_reducible refine bl_step ?_ (by assumption)) | go_size))
  · go_wp2
    refine bodyPost_ret (v := .agg #[.int .i64 m, .int .i64 (few + 1), .int .i64 (wt + z), (.slice ya ([((3 : Nat) : Int)] ++ bs).length yc), .bool (Bool.or (decide (0 = 3)) b0), .bool (Bool.or (decide (1 = 3)) b1), .bool (Bool.or (decide (2 = 3)) b2), .bool (Bool.or (decide (3 = 3)) b3), .bool (Bool.or (decide (4 = 3)) b4), .bool (Bool.or (decide (5 = 3)) b5), .bool (Bool.or (decide (6 = 3)) b6), .bool (Bool.or (decide (7 = 3)) b7)]) (by simp only [results, Try.results70]; go_simp) rfl ⟨_, rfl, ?_, ?_⟩
    · refine IRow.ib (HR.out.keep (fun j _ h1 _ => ?_)) (by omega)
      repeat rw [Below.heap_setCell _ _ _ _ (by simp; omega)]
    · (repeat' (first | (with_reducible exact Below.refl _ _) | (with_reducible refine Below.alloc ?_ ?_ _) | (with_reducible refine Below.drew ?_) | (with_reducible refine Below.setCell ?_ ?_ _) | (with_reducible refine bl_step ?_ (by assumption)) | go_size))
  · go_wp2
    refine bodyPost_ret (v := .agg #[.int .i64 m, .int .i64 (few + 1), .int .i64 (wt + z), (.slice ya ([((4 : Nat) : Int)] ++ bs).length yc), .bool (Bool.or (decide (0 = 4)) b0), .bool (Bool.or (decide (1 = 4)) b1), .bool (Bool.or (decide (2 = 4)) b2), .bool (Bool.or (decide (3 = 4)) b3), .bool (Bool.or (decide (4 = 4)) b4), .bool (Bool.or (decide (5 = 4)) b5), .bool (Bool.or (decide (6 = 4)) b6), .bool (Bool.or (decide (7 = 4)) b7)]) (by simp only [results, Try.results70]; go_simp) rfl ⟨_, rfl, ?_, ?_⟩
    · refine IRow.ib (HR.out.keep (fun j _ h1 _ => ?_)) (by omega)
      repeat rw [Below.heap_setCell _ _ _ _ (by simp; omega)]
    · (repeat' (first | (with_reducible exact Below.refl _ _) | (with_reducible refine Below.alloc ?_ ?_ _) | (with_reducible refine Below.drew ?_) | (with_reducible refine Below.setCell ?_ ?_ _) | (with_reducible refine bl_step ?_ (by assumption)) | go_size))
  · go_wp2
    refine bodyPost_ret (v := .agg #[.int .i64 m, .int .i64 (few + 1), .int .i64 (wt + z), (.slice ya ([((5 : Nat) : Int)] ++ bs).length yc), .bool (Bool.or (decide (0 = 5)) b0), .bool (Bool.or (decide (1 = 5)) b1), .bool (Bool.or (decide (2 = 5)) b2), .bool (Bool.or (decide (3 = 5)) b3), .bool (Bool.or (decide (4 = 5)) b4), .bool (Bool.or (decide (5 = 5)) b5), .bool (Bool.or (decide (6 = 5)) b6), .bool (Bool.or (decide (7 = 5)) b7)]) (by simp only [results, Try.results70]; go_simp) rfl ⟨_, rfl, ?_, ?_⟩
    · refine IRow.ib (HR.out.keep (fun j _ h1 _ => ?_)) (by omega)
      repeat rw [Below.heap_setCell _ _ _ _ (by simp; omega)]
    · (repeat' (first | (with_reducible exact Below.refl _ _) | (with_reducible refine Below.alloc ?_ ?_ _) | (with_reducible refine Below.drew ?_) | (with_reducible refine Below.setCell ?_ ?_ _) | (with_reducible refine bl_step ?_ (by assumption)) | go_size))
  · go_wp2
    refine bodyPost_ret (v := .agg #[.int .i64 m, .int .i64 (few + 1), .int .i64 (wt + z), (.slice ya ([((6 : Nat) : Int)] ++ bs).length yc), .bool (Bool.or (decide (0 = 6)) b0), .bool (Bool.or (decide (1 = 6)) b1), .bool (Bool.or (decide (2 = 6)) b2), .bool (Bool.or (decide (3 = 6)) b3), .bool (Bool.or (decide (4 = 6)) b4), .bool (Bool.or (decide (5 = 6)) b5), .bool (Bool.or (decide (6 = 6)) b6), .bool (Bool.or (decide (7 = 6)) b7)]) (by simp only [results, Try.results70]; go_simp) rfl ⟨_, rfl, ?_, ?_⟩
    · refine IRow.ib (HR.out.keep (fun j _ h1 _ => ?_)) (by omega)
      repeat rw [Below.heap_setCell _ _ _ _ (by simp; omega)]
    · (repeat' (first | (with_reducible exact Below.refl _ _) | (with_reducible refine Below.alloc ?_ ?_ _) | (with_reducible refine Below.drew ?_) | (with_reducible refine Below.setCell ?_ ?_ _) | (with_reducible refine bl_step ?_ (by assumption)) | go_size))
  · go_wp2
    refine bodyPost_ret (v := .agg #[.int .i64 m, .int .i64 (few + 1), .int .i64 (wt + z), (.slice ya ([((7 : Nat) : Int)] ++ bs).length yc), .bool (Bool.or (decide (0 = 7)) b0), .bool (Bool.or (decide (1 = 7)) b1), .bool (Bool.or (decide (2 = 7)) b2), .bool (Bool.or (decide (3 = 7)) b3), .bool (Bool.or (decide (4 = 7)) b4), .bool (Bool.or (decide (5 = 7)) b5), .bool (Bool.or (decide (6 = 7)) b6), .bool (Bool.or (decide (7 = 7)) b7)]) (by simp only [results, Try.results70]; go_simp) rfl ⟨_, rfl, ?_, ?_⟩
    · refine IRow.ib (HR.out.keep (fun j _ h1 _ => ?_)) (by omega)
      repeat rw [Below.heap_setCell _ _ _ _ (by simp; omega)]
    · (repeat' (first | (with_reducible exact Below.refl _ _) | (with_reducible refine Below.alloc ?_ ?_ _) | (with_reducible refine Below.drew ?_) | (with_reducible refine Below.setCell ?_ ?_ _) | (with_reducible refine bl_step ?_ (by assumption)) | go_size))

theorem behind_any [Lo] (r : Rs) (x : Value) (k : Nat) (z : Int) (hk : k < 8) (hz : 1 ≤ z ∧ z ≤ 9) (hf : 0 ≤ r.few ∧ r.few ≤ 1000) (hw : 0 ≤ r.wt ∧ r.wt ≤ 1000) (hl : r.best.length ≤ 1000) (w : World) (hlo : Lo.n ≤ w.heap.size) (h : IB w x r.best) :
    Calls Try.prog 70 #[rdV r x, .int .i64 k, .int .i64 z] w fun e w' => ∃ y, e = .returned (rdV (behR k z r) y) ∧ IB w' y (behR k z r).best ∧ Below w.heap.size w w' := by
  obtain ⟨xa, xc, rfl, _, _, _⟩ := h.view
  exact behind_raw r.many r.few r.wt xa xc r.best _ _ _ _ _ _ _ _ k z hk hz hf hw hl w hlo h
end Go.Proofs.Ytjhigjbfnemdjaa
