/-
  All readings, in the program.
-/
import Derived.Test.YtjhigjbfnemdjaaEd
namespace Go.Proofs.Ytjhigjbfnemdjaa
open Go.RowKit Go.Maps
set_option maxRecDepth 100000
set_option linter.unusedVariables false

theorem RkA_empty {fs : List Fm} {s : List Int} (hv : fv fs = true) (h0 : s.length = 0) (acc : Rs) : ∀ k, k ≤ fs.length → RkA fs s 0 acc k = acc := by
  intro k
  induction k with
  | zero => intro _; rfl
  | succ k ih =>
    intro hk
    have hf : fs[k]? = some fs[k] := List.getElem?_eq_getElem (by omega)
    have hl := (fo_len (fv_fo hv hf)).1
    rw [RkA_no acc hf (mt_far (by omega)), ih (by omega)]

theorem rdV_is (r : Rs) (x : Value) : rdV r x = .agg #[.int .i64 r.many, .int .i64 r.few, .int .i64 r.wt, x, .bool (r.used 0), .bool (r.used 1), .bool (r.used 2), .bool (r.used 3), .bool (r.used 4), .bool (r.used 5), .bool (r.used 6), .bool (r.used 7)] := rfl
set_option maxHeartbeats 4000000 in
theorem whole_any [Lo] (fs : List Fm) (s : List Int) (hok : fok fs s = true) (v u : Value) (w0 : World) (HV0 : FV w0 v fs) (HU0 : IV w0 u s) (hlo0 : Lo.n ≤ w0.heap.size) (b : Nat) (hb0 : w0.heap.size ≤ b) (w : World) (hbw : Below w0.heap.size w0 w) (hF : FInv fs s s.length w b) (rr : Rs) (hrr : R fs s 0 = rr) :
    Calls Try.prog 46 #[.agg #[v, u, .map (some b)]] w fun e w' => ∃ y, e = .returned (rdV rr y) ∧ IB w' y rr.best ∧ Below w0.heap.size w0 w' := by
  obtain ⟨hv, hs⟩ := fok_parts hok
  have HEA := Lib.hid (each_any fs s hok v u w0 HV0 HU0 hlo0 b hb0 _ 0 rfl (Nat.zero_le _))
  obtain ⟨a, c, rfl, _, _, _⟩ := HV0
  obtain ⟨a', c', rfl, _, _, _⟩ := HU0
  have hW2 : ∀ W2, W2 = ((w.alloc (.cells #[.slice a fs.length c, .slice a' s.length c', .map (some b)] 63)).alloc (.cells #[.int .i64 0, .int .i64 0, .int .i64 0, .slice none 0 0, .bool false, .bool false, .bool false, .bool false, .bool false, .bool false, .bool false, .bool false] 69)) →
      Below w.heap.size w W2 ∧ W2.heap.size = w.heap.size + 2 ∧ W2.heap[w.heap.size]? = some (.cells #[.slice a fs.length c, .slice a' s.length c', .map (some b)] 63 (0, 0)) ∧
      W2.heap[w.heap.size + 1]? = some (.cells #[.int .i64 0, .int .i64 0, .int .i64 0, .slice none 0 0, .bool false, .bool false, .bool false, .bool false, .bool false, .bool false, .bool false, .bool false] 69 (0, 0)) := by
    rintro W2 rfl
    refine ⟨((Below.refl _ _).alloc (Nat.le_refl _) _).alloc (by simp) _, by simp, ?_, ?_⟩
    · have h1 := heap_alloc_new w (.cells #[.slice a fs.length c, .slice a' s.length c', .map (some b)] 63)
      rw [← h1]
      exact ((Below.refl (w.alloc (.cells #[.slice a fs.length c, .slice a' s.length c', .map (some b)] 63)).heap.size _).alloc (Nat.le_refl _) _).block _ (by simp)
    · have h1 := heap_alloc_new (w.alloc (.cells #[.slice a fs.length c, .slice a' s.length c', .map (some b)] 63)) (.cells #[.int .i64 0, .int .i64 0, .int .i64 0, .slice none 0 0, .bool false, .bool false, .bool false, .bool false, .bool false, .bool false, .bool false, .bool false] 69)
      rw [World.size_alloc] at h1
      exact h1
  have HW2 := Lib.hid hW2
  clear hW2
  have HF := Lib.hid hF
  have hbl := hF.lt
  clear hF
  have hsz0 := hbw.size
  have HBW := Lib.hid hbw
  clear hbw
  go_enter Try.func46, Try.ntmps46
  go_upto_region 1 with (fail)
  obtain ⟨W2, hW2⟩ : ∃ W2, W2 = ((w.alloc (.cells #[.slice a fs.length c, .slice a' s.length c', .map (some b)] 63)).alloc (.cells #[.int .i64 0, .int .i64 0, .int .i64 0, .slice none 0 0, .bool false, .bool false, .bool false, .bool false, .bool false, .bool false, .bool false, .bool false] 69)) := ⟨_, rfl⟩
  rw [← hW2]
  obtain ⟨h1, h2, h3, h4⟩ := HW2.out W2 hW2
  clear hW2 HW2
  have k0 : W2.cell? ⟨w.heap.size, 0, none⟩ = some (.slice a fs.length c) := by simp [World.cell?, h3]
  have k1 : W2.cell? ⟨w.heap.size, 1, none⟩ = some (.slice a' s.length c') := by simp [World.cell?, h3]
  have k2 : W2.cell? ⟨w.heap.size, 2, none⟩ = some (.map (some b)) := by simp [World.cell?, h3]
  have hf2 := HF.out.below h1
  obtain ⟨x0, hlk, hx0⟩ := hf2.lookNew hs rfl
  obtain ⟨r0, hr0⟩ : ∃ r0, r0 = (if s.length = 0 then Rs.one else Rs.zero) := ⟨_, rfl⟩
  rw [← hr0] at hlk
  have hbest : r0.best = [] := by rw [hr0]; split <;> rfl
  have hmany : r0.many ≤ 1000000000 := by rw [hr0]; split <;> simp [Rs.one, Rs.zero]
  have hend : RkA fs s 0 r0 fs.length = rr := by
    rw [hr0, ← hrr]
    by_cases h0 : s.length = 0
    · rw [if_pos h0, RkA_empty hv h0 _ _ (Nat.le_refl _), R_ge (by omega)]
    · rw [if_neg h0, RkA_zero, R_lt (by omega)]
  obtain ⟨xa, xc, rfl, _, _, _⟩ := hx0.view
  have hst : ∀ W3, W3 = W2.alloc (.cells (rdC r0 (.slice xa 0 xc)) 69) → Below W2.heap.size W2 W3 ∧ Kept W3 W2.heap.size r0 (.slice xa 0 xc) ∧ W3.heap.size = W2.heap.size + 1 := by
    rintro W3 rfl
    exact ⟨(Below.refl _ _).alloc (Nat.le_refl _) _, heap_alloc_new W2 _, by simp⟩
  have HS3 := Lib.hid hst
  have HF2 := Lib.hid hf2
  have HH1 := Lib.hid h1
  have HH2 := Lib.hid h2
  have HH3 := Lib.hid h3
  have HH4 := Lib.hid h4
  have HX0 : Hid (IB W2 (.slice xa 0 xc) []) := hx0
  have HBEST := Lib.hid hbest
  have HMANY := Lib.hid hmany
  have HEND := Lib.hid hend
  clear hrr
  unfold rdC at HS3
  unfold rdV rdC at hlk
  clear hst hf2 h1 h3 h4 hx0 hbest hmany hend hr0 hv
  go_upto_region 2 with (fail)
  obtain ⟨W3, hW3⟩ : ∃ W3, W3 = W2.alloc (.cells #[.int .i64 r0.many, .int .i64 r0.few, .int .i64 r0.wt, .slice xa 0 xc, .bool (r0.used 0), .bool (r0.used 1), .bool (r0.used 2), .bool (r0.used 3), .bool (r0.used 4), .bool (r0.used 5), .bool (r0.used 6), .bool (r0.used 7)] 69) := ⟨_, rfl⟩
  rw [← hW3]
  obtain ⟨m1, m2, m3⟩ := HS3.out W3 hW3
  clear hW3 HS3
  rw [h2] at m2 m3
  have k0 := (m1.cell (p := ⟨w.heap.size, 0, none⟩) (by show w.heap.size < _; omega)).trans k0
  have k1 := (m1.cell (p := ⟨w.heap.size, 1, none⟩) (by show w.heap.size < _; omega)).trans k1
  have k2 := (m1.cell (p := ⟨w.heap.size, 2, none⟩) (by show w.heap.size < _; omega)).trans k2
  have hb3 : Below w.heap.size w W3 := bl_step HH1.out m1
  have hW03 := bl_step HBW.out hb3
  have hbb : b ≠ w.heap.size + 2 := by omega
  have ea := HEA.out (w.heap.size + 2) r0 (.slice xa 0 xc) s.length W3 (by omega) hbb hW03 (HF2.out.below m1) m2 (by rw [HBEST.out]; exact HX0.out.below m1) HMANY.out
  rw [HEND.out] at ea
  have EA := Lib.hid ea
  have r4 : W3.heap[w.heap.size + 1]? = some (.cells #[Value.int .i64 0, Value.int .i64 0, Value.int .i64 0, Value.slice none 0 0, Value.bool false, Value.bool false, Value.bool false, Value.bool false, Value.bool false, Value.bool false, Value.bool false, Value.bool false] 69 (0, 0)) := (m1.block _ (by omega)).trans HH4.out
  have HR4 := Lib.hid r4
  have HM3 := Lib.hid m3
  have HW03 := Lib.hid hW03
  clear ea r4 m1 m2 hb3 hW03
  go_wp2_with (fail)
  (go_at_call 42; refine EA.out.mono ?_; rintro e W4 ⟨rfl, hinv4, ⟨y, hk4, hi4⟩, hfr4⟩)
  obtain ⟨ya, yc, rfl, _, _, _⟩ := hi4.view
  have r5 : W4.heap[w.heap.size + 1]? = some (.cells #[Value.int .i64 0, Value.int .i64 0, Value.int .i64 0, Value.slice none 0 0, Value.bool false, Value.bool false, Value.bool false, Value.bool false, Value.bool false, Value.bool false, Value.bool false, Value.bool false] 69 (0, 0)) := (hfr4.block _ (by have := HM3.out; omega) (by omega) (by omega)).trans HR4.out
  have g0 : W4.cell? ⟨w.heap.size + 1, 0, none⟩ = some (Value.int .i64 0) := by simp [World.cell?, r5]
  have g1 : W4.cell? ⟨w.heap.size + 1, 1, none⟩ = some (Value.int .i64 0) := by simp [World.cell?, r5]
  have g2 : W4.cell? ⟨w.heap.size + 1, 2, none⟩ = some (Value.int .i64 0) := by simp [World.cell?, r5]
  have g3 : W4.cell? ⟨w.heap.size + 1, 3, none⟩ = some (Value.slice none 0 0) := by simp [World.cell?, r5]
  have g4 : W4.cell? ⟨w.heap.size + 1, 4, none⟩ = some (Value.bool false) := by simp [World.cell?, r5]
  have g5 : W4.cell? ⟨w.heap.size + 1, 5, none⟩ = some (Value.bool false) := by simp [World.cell?, r5]
  have g6 : W4.cell? ⟨w.heap.size + 1, 6, none⟩ = some (Value.bool false) := by simp [World.cell?, r5]
  have g7 : W4.cell? ⟨w.heap.size + 1, 7, none⟩ = some (Value.bool false) := by simp [World.cell?, r5]
  have g8 : W4.cell? ⟨w.heap.size + 1, 8, none⟩ = some (Value.bool false) := by simp [World.cell?, r5]
  have g9 : W4.cell? ⟨w.heap.size + 1, 9, none⟩ = some (Value.bool false) := by simp [World.cell?, r5]
  have g10 : W4.cell? ⟨w.heap.size + 1, 10, none⟩ = some (Value.bool false) := by simp [World.cell?, r5]
  have g11 : W4.cell? ⟨w.heap.size + 1, 11, none⟩ = some (Value.bool false) := by simp [World.cell?, r5]
  have gf : ∀ o, W4.frozen? ⟨w.heap.size + 1, o, none⟩ = false := fun o => by simp [World.frozen?, r5]
  have d0 := hk4.c0
  have d1 := hk4.c1
  have d2 := hk4.c2
  have d3 := hk4.c3
  have d4 := hk4.c4
  have d5 := hk4.c5
  have d6 := hk4.c6
  have d7 := hk4.c7
  have d8 := hk4.c8
  have d9 := hk4.c9
  have d10 := hk4.c10
  have d11 := hk4.c11
  have HI4 := Lib.hid hi4
  have HR5 := Lib.hid r5
  have hend4 : Below w0.heap.size w0 W4 := hfr4.below0 HW03.out hb0 (by omega)
  have HE4 := Lib.hid hend4
  clear hi4 r5 hinv4 hk4 hfr4 hend4
  go_wp2_with (fail)
  refine bodyPost_ret (v := .agg #[.int .i64 rr.many, .int .i64 rr.few, .int .i64 rr.wt, .slice ya rr.best.length yc, .bool (rr.used 0), .bool (rr.used 1), .bool (rr.used 2), .bool (rr.used 3), .bool (rr.used 4), .bool (rr.used 5), .bool (rr.used 6), .bool (rr.used 7)]) (by simp only [results, Try.results46]; go_simp) rfl ⟨_, congrArg Ending.returned (rdV_is _ _).symm, ?_, ?_⟩
  · refine HI4.out.keepT (fun g cur hg => ?_)
    have hne : g ≠ w.heap.size + 1 := fun e => by
      subst e
      rw [HR5.out] at hg
      simp at hg
    repeat rw [Below.heap_setCell _ _ _ _ (by simp; omega)]
  · have hlo : w0.heap.size ≤ w.heap.size + 1 := by omega
    have hE := HE4.out
    repeat' (first | (with_reducible exact hE) | (with_reducible refine Below.setCell ?_ ?_ _) | (show w0.heap.size ≤ w.heap.size + 1; omega))
end Go.Proofs.Ytjhigjbfnemdjaa
