/-
  The exact law of PsalmSing: for every psalm tone and every text the function answers as its model, in memory of its own, and leaves its argument alone.
-/
import Derived.Test.YtcmcdomfmmjogaaPsr
import Derived.Test.YtcmcdomfmmjogaaPsk
import Derived.Test.YtcmcdomfmmjogaaOpenP
import Derived.ChangeMaps5
import Derived.Deep.DeepRowAt
import Derived.Deep.DeepHandedRow
import Derived.Deep.RegionHeld3
import Derived.OpenVars
namespace Go.Proofs.Ytcmcdomfmmjogaa
open Go.RowKit Go.ChangeShapes Go.WideShapes Go.ChangeAt Go.ChangeMaps
set_option maxRecDepth 100000
set_option linter.unusedVariables false

set_option maxHeartbeats 8000000 in
theorem Pss_walk (v0 v1 v2 : Value) (p : Psa) (s : ByteArray) (hs0 : s.size ≤ maxLen) (w : World) (u0 : ArgL w v0 p.st) (u1 : ArgL w v1 p.mi) (u2 : ArgL w v2 p.en) (hm : MaxAt w) :
    Calls Try.prog 11 #[.agg #[v0, .int .i64 p.tn.1, .bool p.tn.2, v1, v2], .string s] w fun e w' => e = .returned (.bool true) ∧ Below w.heap.size w w' := by
  obtain ⟨a0, c0, rfl, h0, k0, m0⟩ := u0
  obtain ⟨a1, c1, rfl, h1, k1, m1⟩ := u1
  obtain ⟨a2, c2, rfl, h2, k2, m2⟩ := u2
  unfold maxLen at m0 m1 m2
  unfold maxLen at hs0
  by_cases hbig : 1048576 < s.size
  · have g : (1048576 : Int) < (s.size : Int) := by omega
    clear h0 h1 h2 hm
    generalize p.st.length = n0 at *
    generalize p.mi.length = n1 at *
    generalize p.en.length = n2 at *
    go_enter Try.func11, Try.ntmps11
    go_wp2
    go_ret
    exact ⟨rfl, by (repeat' (first | (with_reducible exact Below.refl _ _) | (with_reducible refine Below.alloc ?_ ?_ _) | (with_reducible refine Below.drew ?_) | (with_reducible refine Below.setCell ?_ ?_ _) | (with_reducible refine bl_step ?_ (by assumption)) | go_size))⟩
  have gb : decide ((1048576 : Int) < (s.size : Int)) = false := decide_eq_false (by omega)
  have gb2 : decide (1048576 < s.size) = false := decide_eq_false hbig
  have KZ := Lib.hid (fun W => szPsalm_any a0 a1 a2 p.st.length p.mi.length p.en.length c0 c1 c2 1048576 p.tn.1 p.tn.2 (by omega) (by omega) (by omega) (by omega) W)
  have ecz : ((1048576 : Nat) : Int) = 1048576 := rfl
  rw [ecz] at KZ
  by_cases hn : p.st.length + p.mi.length + p.en.length ≤ 1048576
  case neg =>
    rw [if_neg hn] at KZ
    clear h0 h1 h2 hn hm
    generalize p.st.length = n0 at *
    generalize p.mi.length = n1 at *
    generalize p.en.length = n2 at *
    go_enter Try.func11, Try.ntmps11
    go_wp2_with (fail)
    (go_at_call 38; refine (KZ.out _).mono ?_; rintro e w1 ⟨rfl, hb1⟩; obtain ⟨hc1, hf1, hz1⟩ := bl hb1; (try simp at hz1); (try (refine got (p := w.heap.size < w1.heap.size) ?_ ?_; (focus (go_size; done)); intro q1_w0)); (try (refine got (p := w1.cell? ⟨w.heap.size, 0, none⟩ = some (.slice a0 n0 c0)) ?_ ?_; (focus (refine (hc1 _ _ ?_).trans ?_; (focus (go_size; done)); go_simp; done)); intro c1_w0_0)); (try (refine got (p := w1.cell? ⟨w.heap.size, 1, none⟩ = some (.int .i64 p.tn.1)) ?_ ?_; (focus (refine (hc1 _ _ ?_).trans ?_; (focus (go_size; done)); go_simp; done)); intro c1_w0_1)); (try (refine got (p := w1.cell? ⟨w.heap.size, 2, none⟩ = some (.bool p.tn.2)) ?_ ?_; (focus (refine (hc1 _ _ ?_).trans ?_; (focus (go_size; done)); go_simp; done)); intro c1_w0_2)); (try (refine got (p := w1.cell? ⟨w.heap.size, 3, none⟩ = some (.slice a1 n1 c1)) ?_ ?_; (focus (refine (hc1 _ _ ?_).trans ?_; (focus (go_size; done)); go_simp; done)); intro c1_w0_3)); (try (refine got (p := w1.cell? ⟨w.heap.size, 4, none⟩ = some (.slice a2 n2 c2)) ?_ ?_; (focus (refine (hc1 _ _ ?_).trans ?_; (focus (go_size; done)); go_simp; done)); intro c1_w0_4)); (try (refine got (p := ∀ o, w1.frozen? ⟨w.heap.size, o, none⟩ = false) ?_ ?_; (focus (intro o; refine (hf1 _ _ ?_).trans ?_; (focus (go_size; done)); go_simp; done)); intro f1_w0)); clear hc1 hf1)
    go_wp2
    go_ret
    exact ⟨rfl, by (repeat' (first | (with_reducible exact Below.refl _ _) | (with_reducible refine Below.alloc ?_ ?_ _) | (with_reducible refine Below.drew ?_) | (with_reducible refine Below.setCell ?_ ?_ _) | (with_reducible refine bl_step ?_ (by assumption)) | go_size))⟩
  rw [if_pos hn] at KZ
  obtain ⟨Z, hZ⟩ : ∃ Z : Nat, (1048576 : Int) - ((p.st.length + p.mi.length + p.en.length : Nat) : Int) = (Z : Int) := ⟨1048576 - (p.st.length + p.mi.length + p.en.length), by omega⟩
  rw [hZ] at KZ
  have gz : decide ((Z : Int) < 0) = false := decide_eq_false (by omega)
  have KT := Lib.hid (fun W (hb : Below w.heap.size w W) => toPsalm_any a0 a1 a2 c0 c1 c2 p W (h0.below hb) (h1.below hb) (h2.below hb) (by omega) (by omega) (by omega))
  unfold PsBuilt at KT
  have HM := Lib.hid (fun W (hb : Below w.heap.size w W) => hm.below hb)
  have KE := Lib.hid (fun v u W h k => eqPsalm_yes v u p W h k)
  have KS := Lib.hid (fun v W (hb : Below w.heap.size w W) h => sPsalmSing_any v p s (by omega) W h)
  have KI := Lib.hid (fun v W (hb : Below w.heap.size w W) h => psalmSing_any v p s (by omega) W h (HM.out W hb))
  unfold TB2 at KS KI
  have hl : (psL p s).length ≤ 20 := psL_len p s
  have hL0 : p.st.length ≤ 1048576 := by omega
  have hL1 : p.mi.length ≤ 1048576 := by omega
  have hL2 : p.en.length ≤ 1048576 := by omega
  have HN := Lib.hid hn
  have KM := Lib.hid (fun lo m1 m2 hi u0 u1 u2 W h hh => markPsalm_any lo m1 m2 hi u0 u1 u2 p 1 (by omega) (by omega) hn W h hh)
  obtain ⟨KK, hKK⟩ : ∃ K : Int, K = 1 + 2 * ((p.st.length + p.mi.length + p.en.length : Nat) : Int) := ⟨_, rfl⟩
  have lKK : 1 ≤ KK ∧ KK ≤ 5000000 := by omega
  have nKK : decide (KK < 0) = false := decide_eq_false (by omega)
  unfold PMarked at KM
  rw [← hKK] at KM
  clear hKK
  generalize psL p s = ys at *
  generalize pfit p s = ok at *
  obtain ⟨KG, hKG⟩ : ∃ K : Int, K = 1 + 2 * (ys.length : Int) := ⟨_, rfl⟩
  have lKG : 0 ≤ KG ∧ KG ≤ 5000000 := by omega
  have nKG : decide (KG < 0) = false := decide_eq_false (by omega)
  have HMG := Lib.hid (fun lo hi v w h => markToneS_any lo hi v ys 1 (by omega) (by omega) (by omega) w h)
  unfold TMarked at HMG
  rw [← hKG] at HMG
  have HHG := Lib.hid (fun lo hi v w h => heldToneS_any lo hi v 1 ys.length (by omega) (by omega) (by omega) w h)
  rw [← hKG] at HHG
  clear hKG
  clear h0 h1 h2 hZ hm
  obtain ⟨n0, hn0⟩ : ∃ n, p.st.length = n := ⟨_, rfl⟩
  obtain ⟨n1, hn1⟩ : ∃ n, p.mi.length = n := ⟨_, rfl⟩
  obtain ⟨n2, hn2⟩ : ∃ n, p.en.length = n := ⟨_, rfl⟩
  rw [hn0, hn1, hn2] at KZ KT ⊢
  rw [hn0] at k0
  rw [hn1] at k1
  rw [hn2] at k2
  have HN0 := Lib.hid hn0
  have HN1 := Lib.hid hn1
  have HN2 := Lib.hid hn2
  clear hn0 hn1 hn2 hn
  go_enter Try.func11, Try.ntmps11
  go_wp2_with (fail)
  (go_at_call 38; refine (KZ.out _).mono ?_; rintro e w1 ⟨rfl, hb1⟩; obtain ⟨hc1, hf1, hz1⟩ := bl hb1; (try simp at hz1); (try (refine got (p := w.heap.size < w1.heap.size) ?_ ?_; (focus (go_size; done)); intro q1_w0)); (try (refine got (p := w1.cell? ⟨w.heap.size, 0, none⟩ = some (.slice a0 n0 c0)) ?_ ?_; (focus (refine (hc1 _ _ ?_).trans ?_; (focus (go_size; done)); go_simp; done)); intro c1_w0_0)); (try (refine got (p := w1.cell? ⟨w.heap.size, 1, none⟩ = some (.int .i64 p.tn.1)) ?_ ?_; (focus (refine (hc1 _ _ ?_).trans ?_; (focus (go_size; done)); go_simp; done)); intro c1_w0_1)); (try (refine got (p := w1.cell? ⟨w.heap.size, 2, none⟩ = some (.bool p.tn.2)) ?_ ?_; (focus (refine (hc1 _ _ ?_).trans ?_; (focus (go_size; done)); go_simp; done)); intro c1_w0_2)); (try (refine got (p := w1.cell? ⟨w.heap.size, 3, none⟩ = some (.slice a1 n1 c1)) ?_ ?_; (focus (refine (hc1 _ _ ?_).trans ?_; (focus (go_size; done)); go_simp; done)); intro c1_w0_3)); (try (refine got (p := w1.cell? ⟨w.heap.size, 4, none⟩ = some (.slice a2 n2 c2)) ?_ ?_; (focus (refine (hc1 _ _ ?_).trans ?_; (focus (go_size; done)); go_simp; done)); intro c1_w0_4)); (try (refine got (p := ∀ o, w1.frozen? ⟨w.heap.size, o, none⟩ = false) ?_ ?_; (focus (intro o; refine (hf1 _ _ ?_).trans ?_; (focus (go_size; done)); go_simp; done)); intro f1_w0)); clear hc1 hf1)
  have hbw1 : Below w.heap.size w w1 := by (repeat' (first | (with_reducible exact Below.refl _ _) | (with_reducible refine Below.alloc ?_ ?_ _) | (with_reducible refine Below.drew ?_) | (with_reducible refine Below.setCell ?_ ?_ _) | (with_reducible refine bl_step ?_ (by assumption)) | go_size))
  have z1 : w.heap.size + 1 ≤ w1.heap.size := by have := hb1.size; simpa using this
  clear hb1
  go_wp2_with (fail)
  (go_at_call 40; refine (KT.out _ hbw1).mono ?_; rintro e w2 ⟨va0, va1, va2, ma1, ma2, rfl, ra, hb2⟩; obtain ⟨hc2, hf2, hz2⟩ := bl hb2; (try simp at hz2); (try (refine got (p := w.heap.size < w2.heap.size) ?_ ?_; (focus (go_size; done)); intro q2_w0)); (try (refine got (p := w2.cell? ⟨w.heap.size, 0, none⟩ = some (.slice a0 n0 c0)) ?_ ?_; (focus (refine (hc2 _ _ ?_).trans ?_; (focus (go_size; done)); go_simp; done)); intro c2_w0_0)); (try (refine got (p := w2.cell? ⟨w.heap.size, 1, none⟩ = some (.int .i64 p.tn.1)) ?_ ?_; (focus (refine (hc2 _ _ ?_).trans ?_; (focus (go_size; done)); go_simp; done)); intro c2_w0_1)); (try (refine got (p := w2.cell? ⟨w.heap.size, 2, none⟩ = some (.bool p.tn.2)) ?_ ?_; (focus (refine (hc2 _ _ ?_).trans ?_; (focus (go_size; done)); go_simp; done)); intro c2_w0_2)); (try (refine got (p := w2.cell? ⟨w.heap.size, 3, none⟩ = some (.slice a1 n1 c1)) ?_ ?_; (focus (refine (hc2 _ _ ?_).trans ?_; (focus (go_size; done)); go_simp; done)); intro c2_w0_3)); (try (refine got (p := w2.cell? ⟨w.heap.size, 4, none⟩ = some (.slice a2 n2 c2)) ?_ ?_; (focus (refine (hc2 _ _ ?_).trans ?_; (focus (go_size; done)); go_simp; done)); intro c2_w0_4)); (try (refine got (p := ∀ o, w2.frozen? ⟨w.heap.size, o, none⟩ = false) ?_ ?_; (focus (intro o; refine (hf2 _ _ ?_).trans ?_; (focus (go_size; done)); go_simp; done)); intro f2_w0)); clear hc2 hf2)
  have hbw2 := bl_step hbw1 hb2
  have z2 := hb2.size
  obtain ⟨ba0, fa0, rfl⟩ : ∃ a c, va0 = .slice a n0 c := by obtain ⟨a, c, e, _⟩ := (LV.sl ⟨_, _, ra.st⟩); exact ⟨a, c, by rw [e, HN0.out]⟩
  obtain ⟨ba1, fa1, rfl⟩ : ∃ a c, va1 = .slice a n1 c := by obtain ⟨a, c, e, _⟩ := (LV.sl ⟨_, _, ra.mi⟩); exact ⟨a, c, by rw [e, HN1.out]⟩
  obtain ⟨ba2, fa2, rfl⟩ : ∃ a c, va2 = .slice a n2 c := by obtain ⟨a, c, e, _⟩ := (LV.sl ⟨_, _, ra.en⟩); exact ⟨a, c, by rw [e, HN2.out]⟩
  clear hb2
  go_wp2_with (fail)
  (go_at_call 16; refine (KS.out _ _ hbw2 ra.view).mono ?_; rintro e w3 ⟨us, rfl, gs, hb3⟩; obtain ⟨hc3, hf3, hz3⟩ := bl hb3; (try simp at hz3); (try (refine got (p := w.heap.size < w3.heap.size) ?_ ?_; (focus (go_size; done)); intro q3_w0)); (try (refine got (p := w3.cell? ⟨w.heap.size, 0, none⟩ = some (.slice a0 n0 c0)) ?_ ?_; (focus (refine (hc3 _ _ ?_).trans ?_; (focus (go_size; done)); go_simp; done)); intro c3_w0_0)); (try (refine got (p := w3.cell? ⟨w.heap.size, 1, none⟩ = some (.int .i64 p.tn.1)) ?_ ?_; (focus (refine (hc3 _ _ ?_).trans ?_; (focus (go_size; done)); go_simp; done)); intro c3_w0_1)); (try (refine got (p := w3.cell? ⟨w.heap.size, 2, none⟩ = some (.bool p.tn.2)) ?_ ?_; (focus (refine (hc3 _ _ ?_).trans ?_; (focus (go_size; done)); go_simp; done)); intro c3_w0_2)); (try (refine got (p := w3.cell? ⟨w.heap.size, 3, none⟩ = some (.slice a1 n1 c1)) ?_ ?_; (focus (refine (hc3 _ _ ?_).trans ?_; (focus (go_size; done)); go_simp; done)); intro c3_w0_3)); (try (refine got (p := w3.cell? ⟨w.heap.size, 4, none⟩ = some (.slice a2 n2 c2)) ?_ ?_; (focus (refine (hc3 _ _ ?_).trans ?_; (focus (go_size; done)); go_simp; done)); intro c3_w0_4)); (try (refine got (p := ∀ o, w3.frozen? ⟨w.heap.size, o, none⟩ = false) ?_ ?_; (focus (intro o; refine (hf3 _ _ ?_).trans ?_; (focus (go_size; done)); go_simp; done)); intro f3_w0)); clear hc3 hf3)
  have hbw3 := bl_step hbw2 hb3
  have z3 := hb3.size
  clear hb3 ra
  go_wp2_with (fail)
  (go_at_call 40; refine (KT.out _ hbw3).mono ?_; rintro e w4 ⟨vx0, vx1, vx2, mx1, mx2, rfl, rx, hb4⟩; obtain ⟨hc4, hf4, hz4⟩ := bl hb4; (try simp at hz4); (try (refine got (p := w.heap.size < w4.heap.size) ?_ ?_; (focus (go_size; done)); intro q4_w0)); (try (refine got (p := w4.cell? ⟨w.heap.size, 0, none⟩ = some (.slice a0 n0 c0)) ?_ ?_; (focus (refine (hc4 _ _ ?_).trans ?_; (focus (go_size; done)); go_simp; done)); intro c4_w0_0)); (try (refine got (p := w4.cell? ⟨w.heap.size, 1, none⟩ = some (.int .i64 p.tn.1)) ?_ ?_; (focus (refine (hc4 _ _ ?_).trans ?_; (focus (go_size; done)); go_simp; done)); intro c4_w0_1)); (try (refine got (p := w4.cell? ⟨w.heap.size, 2, none⟩ = some (.bool p.tn.2)) ?_ ?_; (focus (refine (hc4 _ _ ?_).trans ?_; (focus (go_size; done)); go_simp; done)); intro c4_w0_2)); (try (refine got (p := w4.cell? ⟨w.heap.size, 3, none⟩ = some (.slice a1 n1 c1)) ?_ ?_; (focus (refine (hc4 _ _ ?_).trans ?_; (focus (go_size; done)); go_simp; done)); intro c4_w0_3)); (try (refine got (p := w4.cell? ⟨w.heap.size, 4, none⟩ = some (.slice a2 n2 c2)) ?_ ?_; (focus (refine (hc4 _ _ ?_).trans ?_; (focus (go_size; done)); go_simp; done)); intro c4_w0_4)); (try (refine got (p := ∀ o, w4.frozen? ⟨w.heap.size, o, none⟩ = false) ?_ ?_; (focus (intro o; refine (hf4 _ _ ?_).trans ?_; (focus (go_size; done)); go_simp; done)); intro f4_w0)); clear hc4 hf4)
  have hbw4 := bl_step hbw3 hb4
  have z4 := hb4.size
  obtain ⟨bx0, fx0, rfl⟩ : ∃ a c, vx0 = .slice a n0 c := by obtain ⟨a, c, e, _⟩ := (LV.sl ⟨_, _, rx.st⟩); exact ⟨a, c, by rw [e, HN0.out]⟩
  obtain ⟨bx1, fx1, rfl⟩ : ∃ a c, vx1 = .slice a n1 c := by obtain ⟨a, c, e, _⟩ := (LV.sl ⟨_, _, rx.mi⟩); exact ⟨a, c, by rw [e, HN1.out]⟩
  obtain ⟨bx2, fx2, rfl⟩ : ∃ a c, vx2 = .slice a n2 c := by obtain ⟨a, c, e, _⟩ := (LV.sl ⟨_, _, rx.en⟩); exact ⟨a, c, by rw [e, HN2.out]⟩
  have gs := gs.below hb4 (.inl (Nat.le_refl _))
  clear hb4
  go_wp2_with (fail)
  have rx := rx.below ((Below.refl _ w4).alloc (Nat.le_refl _) (.cells #[.slice bx0 n0 fx0, .int .i64 p.tn.1, .bool p.tn.2, .slice bx1 n1 fx1, .slice bx2 n2 fx2] 27)) (.inl (Nat.le_refl _))
  have hbw4' := hbw4.alloc hbw4.size (.cells #[.slice bx0 n0 fx0, .int .i64 p.tn.1, .bool p.tn.2, .slice bx1 n1 fx1, .slice bx2 n2 fx2] 27)
  have gs := gs.below ((Below.refl _ w4).alloc (Nat.le_refl _) (.cells #[.slice bx0 n0 fx0, .int .i64 p.tn.1, .bool p.tn.2, .slice bx1 n1 fx1, .slice bx2 n2 fx2] 27)) (.inl (by omega))
  (go_at_call 15; refine (KI.out _ _ hbw4' rx.view).mono ?_; rintro e w5 ⟨ui, rfl, gi, hb5⟩; obtain ⟨hc5, hf5, hz5⟩ := bl hb5; (try simp at hz5); (try (refine got (p := w.heap.size < w5.heap.size) ?_ ?_; (focus (go_size; done)); intro q5_w0)); (try (refine got (p := w5.cell? ⟨w.heap.size, 0, none⟩ = some (.slice a0 n0 c0)) ?_ ?_; (focus (refine (hc5 _ _ ?_).trans ?_; (focus (go_size; done)); go_simp; done)); intro c5_w0_0)); (try (refine got (p := w5.cell? ⟨w.heap.size, 1, none⟩ = some (.int .i64 p.tn.1)) ?_ ?_; (focus (refine (hc5 _ _ ?_).trans ?_; (focus (go_size; done)); go_simp; done)); intro c5_w0_1)); (try (refine got (p := w5.cell? ⟨w.heap.size, 2, none⟩ = some (.bool p.tn.2)) ?_ ?_; (focus (refine (hc5 _ _ ?_).trans ?_; (focus (go_size; done)); go_simp; done)); intro c5_w0_2)); (try (refine got (p := w5.cell? ⟨w.heap.size, 3, none⟩ = some (.slice a1 n1 c1)) ?_ ?_; (focus (refine (hc5 _ _ ?_).trans ?_; (focus (go_size; done)); go_simp; done)); intro c5_w0_3)); (try (refine got (p := w5.cell? ⟨w.heap.size, 4, none⟩ = some (.slice a2 n2 c2)) ?_ ?_; (focus (refine (hc5 _ _ ?_).trans ?_; (focus (go_size; done)); go_simp; done)); intro c5_w0_4)); (try (refine got (p := ∀ o, w5.frozen? ⟨w.heap.size, o, none⟩ = false) ?_ ?_; (focus (intro o; refine (hf5 _ _ ?_).trans ?_; (focus (go_size; done)); go_simp; done)); intro f5_w0)); (try (refine got (p := w4.heap.size < w5.heap.size) ?_ ?_; (focus (go_size; done)); intro q5_w40)); (try (refine got (p := w5.cell? ⟨w4.heap.size, 0, none⟩ = some (.slice bx0 n0 fx0)) ?_ ?_; (focus (refine (hc5 _ _ ?_).trans ?_; (focus (go_size; done)); go_simp; done)); intro c5_w40_0)); (try (refine got (p := w5.cell? ⟨w4.heap.size, 1, none⟩ = some (.int .i64 p.tn.1)) ?_ ?_; (focus (refine (hc5 _ _ ?_).trans ?_; (focus (go_size; done)); go_simp; done)); intro c5_w40_1)); (try (refine got (p := w5.cell? ⟨w4.heap.size, 2, none⟩ = some (.bool p.tn.2)) ?_ ?_; (focus (refine (hc5 _ _ ?_).trans ?_; (focus (go_size; done)); go_simp; done)); intro c5_w40_2)); (try (refine got (p := w5.cell? ⟨w4.heap.size, 3, none⟩ = some (.slice bx1 n1 fx1)) ?_ ?_; (focus (refine (hc5 _ _ ?_).trans ?_; (focus (go_size; done)); go_simp; done)); intro c5_w40_3)); (try (refine got (p := w5.cell? ⟨w4.heap.size, 4, none⟩ = some (.slice bx2 n2 fx2)) ?_ ?_; (focus (refine (hc5 _ _ ?_).trans ?_; (focus (go_size; done)); go_simp; done)); intro c5_w40_4)); (try (refine got (p := ∀ o, w5.frozen? ⟨w4.heap.size, o, none⟩ = false) ?_ ?_; (focus (intro o; refine (hf5 _ _ ?_).trans ?_; (focus (go_size; done)); go_simp; done)); intro f5_w40)); clear hc5 hf5)
  have hbw5 := bl_step hbw4' hb5
  have z5 : w4.heap.size + 1 ≤ w5.heap.size := by have := hb5.size; simpa using this
  have rx := rx.below hb5 (.inl (by simp))
  have gs := gs.below hb5 (.inl (by simp; omega))
  have gi : TRow w5 (w4.heap.size + 1) w5.heap.size ui ys := by simpa using gi
  clear hb5 hbw4' hbw4
  go_wp2_with (fail)
  (go_at_call 42; refine (eqToneS_any _ _ _ _ _ _ ys _ gi gs).mono ?_; rintro e w6 ⟨rfl, hb6⟩; obtain ⟨hc6, hf6, hz6⟩ := bl hb6; (try simp at hz6); (try (refine got (p := w.heap.size < w6.heap.size) ?_ ?_; (focus (go_size; done)); intro q6_w0)); (try (refine got (p := w6.cell? ⟨w.heap.size, 0, none⟩ = some (.slice a0 n0 c0)) ?_ ?_; (focus (refine (hc6 _ _ ?_).trans ?_; (focus (go_size; done)); go_simp; done)); intro c6_w0_0)); (try (refine got (p := w6.cell? ⟨w.heap.size, 1, none⟩ = some (.int .i64 p.tn.1)) ?_ ?_; (focus (refine (hc6 _ _ ?_).trans ?_; (focus (go_size; done)); go_simp; done)); intro c6_w0_1)); (try (refine got (p := w6.cell? ⟨w.heap.size, 2, none⟩ = some (.bool p.tn.2)) ?_ ?_; (focus (refine (hc6 _ _ ?_).trans ?_; (focus (go_size; done)); go_simp; done)); intro c6_w0_2)); (try (refine got (p := w6.cell? ⟨w.heap.size, 3, none⟩ = some (.slice a1 n1 c1)) ?_ ?_; (focus (refine (hc6 _ _ ?_).trans ?_; (focus (go_size; done)); go_simp; done)); intro c6_w0_3)); (try (refine got (p := w6.cell? ⟨w.heap.size, 4, none⟩ = some (.slice a2 n2 c2)) ?_ ?_; (focus (refine (hc6 _ _ ?_).trans ?_; (focus (go_size; done)); go_simp; done)); intro c6_w0_4)); (try (refine got (p := ∀ o, w6.frozen? ⟨w.heap.size, o, none⟩ = false) ?_ ?_; (focus (intro o; refine (hf6 _ _ ?_).trans ?_; (focus (go_size; done)); go_simp; done)); intro f6_w0)); (try (refine got (p := w4.heap.size < w6.heap.size) ?_ ?_; (focus (go_size; done)); intro q6_w40)); (try (refine got (p := w6.cell? ⟨w4.heap.size, 0, none⟩ = some (.slice bx0 n0 fx0)) ?_ ?_; (focus (refine (hc6 _ _ ?_).trans ?_; (focus (go_size; done)); go_simp; done)); intro c6_w40_0)); (try (refine got (p := w6.cell? ⟨w4.heap.size, 1, none⟩ = some (.int .i64 p.tn.1)) ?_ ?_; (focus (refine (hc6 _ _ ?_).trans ?_; (focus (go_size; done)); go_simp; done)); intro c6_w40_1)); (try (refine got (p := w6.cell? ⟨w4.heap.size, 2, none⟩ = some (.bool p.tn.2)) ?_ ?_; (focus (refine (hc6 _ _ ?_).trans ?_; (focus (go_size; done)); go_simp; done)); intro c6_w40_2)); (try (refine got (p := w6.cell? ⟨w4.heap.size, 3, none⟩ = some (.slice bx1 n1 fx1)) ?_ ?_; (focus (refine (hc6 _ _ ?_).trans ?_; (focus (go_size; done)); go_simp; done)); intro c6_w40_3)); (try (refine got (p := w6.cell? ⟨w4.heap.size, 4, none⟩ = some (.slice bx2 n2 fx2)) ?_ ?_; (focus (refine (hc6 _ _ ?_).trans ?_; (focus (go_size; done)); go_simp; done)); intro c6_w40_4)); (try (refine got (p := ∀ o, w6.frozen? ⟨w4.heap.size, o, none⟩ = false) ?_ ?_; (focus (intro o; refine (hf6 _ _ ?_).trans ?_; (focus (go_size; done)); go_simp; done)); intro f6_w40)); clear hc6 hf6)
  have hbw6 := bl_step hbw5 hb6
  have z6 := hb6.size
  have rx := rx.below hb6 (.inl (by omega))
  have gs := gs.below hb6 (.inl (by omega))
  have gi := gi.below hb6 (.inl (by omega))
  clear hb6 hbw5
  go_wp2_with (fail)
  go_region_with (first
      | (go_at_call 40; refine (KT.out _ (by (repeat' (first | (with_reducible assumption) | (with_reducible exact Below.refl _ _) | (with_reducible refine Below.alloc ?_ ?_ _) | (with_reducible refine Below.drew ?_) | (with_reducible refine Below.setCell ?_ ?_ _) | (with_reducible refine below_gb ?_ (by assumption) ?_) | (with_reducible refine bl_step ?_ (by assumption)) | go_size)))).mono ?_; rintro e wa ⟨vq0, vq1, vq2, mq1, mq2, rfl, rq, hba⟩; have hbba : Below w6.heap.size w6 wa := (by (repeat' (first | (with_reducible assumption) | (with_reducible exact Below.refl _ _) | (with_reducible refine Below.alloc ?_ ?_ _) | (with_reducible refine Below.drew ?_) | (with_reducible refine Below.setCell ?_ ?_ _) | (with_reducible refine below_gb ?_ (by assumption) ?_) | (with_reducible refine bl_step ?_ (by assumption)) | go_size))); have hza := hbba.size; have rxa := rx.below hbba (.inl (by omega)); have gsa := gs.below hbba (.inl (by omega)); have gia := gi.below hbba (.inl (by omega)); have ja_0_p := (hbba.cell (p := ⟨w.heap.size, 0, none⟩) q6_w0).trans c6_w0_0; have ja_1_p := (hbba.cell (p := ⟨w.heap.size, 1, none⟩) q6_w0).trans c6_w0_1; have ja_2_p := (hbba.cell (p := ⟨w.heap.size, 2, none⟩) q6_w0).trans c6_w0_2; have ja_3_p := (hbba.cell (p := ⟨w.heap.size, 3, none⟩) q6_w0).trans c6_w0_3; have ja_4_p := (hbba.cell (p := ⟨w.heap.size, 4, none⟩) q6_w0).trans c6_w0_4; have ja_0_x := (hbba.cell (p := ⟨w4.heap.size, 0, none⟩) q6_w40).trans c6_w40_0; have ja_1_x := (hbba.cell (p := ⟨w4.heap.size, 1, none⟩) q6_w40).trans c6_w40_1; have ja_2_x := (hbba.cell (p := ⟨w4.heap.size, 2, none⟩) q6_w40).trans c6_w40_2; have ja_3_x := (hbba.cell (p := ⟨w4.heap.size, 3, none⟩) q6_w40).trans c6_w40_3; have ja_4_x := (hbba.cell (p := ⟨w4.heap.size, 4, none⟩) q6_w40).trans c6_w40_4)
      | (go_at_call 41; refine (KE.out _ _ _ (rxa.view.below (by (repeat' (first | (with_reducible assumption) | (with_reducible exact Below.refl _ _) | (with_reducible refine Below.alloc ?_ ?_ _) | (with_reducible refine Below.drew ?_) | (with_reducible refine Below.setCell ?_ ?_ _) | (with_reducible refine below_gb ?_ (by assumption) ?_) | (with_reducible refine bl_step ?_ (by assumption)) | go_size)))) (rq.view.below (by (repeat' (first | (with_reducible assumption) | (with_reducible exact Below.refl _ _) | (with_reducible refine Below.alloc ?_ ?_ _) | (with_reducible refine Below.drew ?_) | (with_reducible refine Below.setCell ?_ ?_ _) | (with_reducible refine below_gb ?_ (by assumption) ?_) | (with_reducible refine bl_step ?_ (by assumption)) | go_size))))).mono ?_; rintro e wb ⟨rfl, hbb⟩; have hbbb : Below wa.heap.size wa wb := (by (repeat' (first | (with_reducible assumption) | (with_reducible exact Below.refl _ _) | (with_reducible refine Below.alloc ?_ ?_ _) | (with_reducible refine Below.drew ?_) | (with_reducible refine Below.setCell ?_ ?_ _) | (with_reducible refine below_gb ?_ (by assumption) ?_) | (with_reducible refine bl_step ?_ (by assumption)) | go_size))); have hzb := hbbb.size; have hbbb2 := bl_step hbba hbbb; have jb_0_p := (hbbb2.cell (p := ⟨w.heap.size, 0, none⟩) q6_w0).trans c6_w0_0; have jb_1_p := (hbbb2.cell (p := ⟨w.heap.size, 1, none⟩) q6_w0).trans c6_w0_1; have jb_2_p := (hbbb2.cell (p := ⟨w.heap.size, 2, none⟩) q6_w0).trans c6_w0_2; have jb_3_p := (hbbb2.cell (p := ⟨w.heap.size, 3, none⟩) q6_w0).trans c6_w0_3; have jb_4_p := (hbbb2.cell (p := ⟨w.heap.size, 4, none⟩) q6_w0).trans c6_w0_4; have jb_0_x := (hbbb2.cell (p := ⟨w4.heap.size, 0, none⟩) q6_w40).trans c6_w40_0; have jb_1_x := (hbbb2.cell (p := ⟨w4.heap.size, 1, none⟩) q6_w40).trans c6_w40_1; have jb_2_x := (hbbb2.cell (p := ⟨w4.heap.size, 2, none⟩) q6_w40).trans c6_w40_2; have jb_3_x := (hbbb2.cell (p := ⟨w4.heap.size, 3, none⟩) q6_w40).trans c6_w40_3; have jb_4_x := (hbbb2.cell (p := ⟨w4.heap.size, 4, none⟩) q6_w40).trans c6_w40_4))
  all_goals
    have hbwb := bl_step hbw6 hbbb2
    have rxb := rxa.below hbbb (.inl (by omega))
    have gsb := gsa.below hbbb (.inl (by omega))
    have gib := gia.below hbbb (.inl (by omega))
    clear rq rxa rx gsa gia gs gi hba hbb
    trace "M"
    go_wp2_with (fail)
    (go_at_call 43; refine (KM.out _ _ _ _ _ _ _ _ rxb (by omega)).mono ?_; rintro e w7 ⟨rfl, ht7⟩)
    have z7 := ht7.size
    have hbw7 : Below w.heap.size w w7 := hbwb.trans (ht7.below (by omega) (by omega))
    have gs7 := gsb.turned ht7 (.inl (by omega))
    have gi7 := gib.turned ht7 (.inr (by omega))
    have p7 : w7.heap[w.heap.size]? = wb.heap[w.heap.size]? := ht7.block _ (by omega) (.inl (by omega))
    have i7_0 : w7.cell? ⟨w.heap.size, 0, none⟩ = some (.slice a0 n0 c0) := by unfold World.cell?; rw [p7]; exact jb_0_p
    have i7_1 : w7.cell? ⟨w.heap.size, 1, none⟩ = some (.int .i64 p.tn.1) := by unfold World.cell?; rw [p7]; exact jb_1_p
    have i7_2 : w7.cell? ⟨w.heap.size, 2, none⟩ = some (.bool p.tn.2) := by unfold World.cell?; rw [p7]; exact jb_2_p
    have i7_3 : w7.cell? ⟨w.heap.size, 3, none⟩ = some (.slice a1 n1 c1) := by unfold World.cell?; rw [p7]; exact jb_3_p
    have i7_4 : w7.cell? ⟨w.heap.size, 4, none⟩ = some (.slice a2 n2 c2) := by unfold World.cell?; rw [p7]; exact jb_4_p
    clear rxb gsb gib ht7 p7
    go_wp2_with (fail)
    (go_at_call 42; refine (eqToneS_any _ _ _ _ _ _ ys _ gi7 gs7).mono ?_; rintro e w8 ⟨rfl, hb8⟩)
    have hbw8 := bl_step hbw7 hb8
    have z8 := hb8.size
    have gs8 := gs7.below hb8 (.inl (by omega))
    have gi8 := gi7.below hb8 (.inl (by omega))
    have i8_0 := keepc i7_0 hb8
    have i8_1 := keepc i7_1 hb8
    have i8_2 := keepc i7_2 hb8
    have i8_3 := keepc i7_3 hb8
    have i8_4 := keepc i7_4 hb8
    clear hb8 gs7 gi7
    go_wp2_with (fail)
    (go_at_call 44; refine (HMG.out _ _ _ _ gi8).mono ?_; rintro e w9 ⟨rfl, gq, ht9⟩)
    have z9 := ht9.size
    have hbw9 : Below w.heap.size w w9 := hbw8.trans (ht9.below (by omega) (by omega))
    have gs9 := gs8.turned ht9 (.inl (by omega))
    have p9 : w9.heap[w.heap.size]? = w8.heap[w.heap.size]? := ht9.block _ (by omega) (.inl (by omega))
    have i9_0 : w9.cell? ⟨w.heap.size, 0, none⟩ = some (.slice a0 n0 c0) := by unfold World.cell?; rw [p9]; exact i8_0
    have i9_1 : w9.cell? ⟨w.heap.size, 1, none⟩ = some (.int .i64 p.tn.1) := by unfold World.cell?; rw [p9]; exact i8_1
    have i9_2 : w9.cell? ⟨w.heap.size, 2, none⟩ = some (.bool p.tn.2) := by unfold World.cell?; rw [p9]; exact i8_2
    have i9_3 : w9.cell? ⟨w.heap.size, 3, none⟩ = some (.slice a1 n1 c1) := by unfold World.cell?; rw [p9]; exact i8_3
    have i9_4 : w9.cell? ⟨w.heap.size, 4, none⟩ = some (.slice a2 n2 c2) := by unfold World.cell?; rw [p9]; exact i8_4
    clear ht9 p9 gs8 gi8
    go_wp2_with (fail)
    (go_at_call 45; refine (HHG.out _ _ _ _ gq).mono ?_; rintro e wx ⟨rfl, rfl⟩)
    go_wp2_with (fail)
    (go_at_call 40; refine (KT.out _ hbw9).mono ?_; rintro e w10 ⟨vh0, vh1, vh2, mh1, mh2, rfl, rh, hb10⟩)
    have hbw10 := bl_step hbw9 hb10
    have z10 := hb10.size
    have gs10 := gs9.below hb10 (.inl (by omega))
    have gq10 := gq.below hb10 (.inl (by omega))
    clear hb10
    go_wp2_with (fail)
    (go_at_call 15; refine (KI.out _ _ hbw10 rh.view).mono ?_; rintro e w11 ⟨uh, rfl, gh, hb11⟩)
    have hbw11 := bl_step hbw10 hb11
    have z11 := hb11.size
    have gs11 := gs10.below hb11 (.inl (by omega))
    have gq11 := gq10.below hb11 (.inl (by omega))
    clear hb11 rh
    go_wp2_with (fail)
    (go_at_call 42; refine (eqToneS_any _ _ _ _ _ _ ys _ gh gs11).mono ?_; rintro e w12 ⟨rfl, hb12⟩)
    have hbw12 := bl_step hbw11 hb12
    have gq12 := gq11.below hb12 (.inl (by omega))
    clear hb12 gh gs11
    go_wp2_with (fail)
    (go_at_call 45; refine (HHG.out _ _ _ _ gq12).mono ?_; rintro e wx ⟨rfl, rfl⟩)
    go_wp2
    go_ret
    exact ⟨rfl, hbw12⟩

noncomputable def fnExactPsalmSing_world (os : Os) : World := { World.holding Try.prog os ⟨#[], #[], []⟩ with heap := (World.holding Try.prog os ⟨#[], #[], []⟩).heap }
theorem fnExactPsalmSing_met (os : Os) : laidMet Try.prog Rows.fnExactPsalmSingRow.laid ((fnExactPsalmSing_world os).forCall (fun _ _ => 0) ⟨#[], #[.agg #[.slice none 0 0, .int .i64 0, .bool false, .slice none 0 0, .slice none 0 0], .string ⟨#[]⟩], []⟩).memory :=
  laidMet_of_run' 8 (by kernel_rfl) (by kernel_rfl)
theorem fnExactPsalmSing_reads (os : Os) {H : Type} (enc : TypeId × Value → H) : ∃ places, DataW.whole enc Try.prog ((fnExactPsalmSing_world os).forCall (fun _ _ => 0) ⟨#[], #[.agg #[.slice none 0 0, .int .i64 0, .bool false, .slice none 0 0, .slice none 0 0], .string ⟨#[]⟩], []⟩).memory Try.f11.params.toList Rows.fnExactPsalmSingSpec.vars false (#[.agg #[.slice none 0 0, .int .i64 0, .bool false, .slice none 0 0, .slice none 0 0], .string ⟨#[]⟩] : Array Value).toList 8 = some ([.agg [.nil, .agg [.lit (.int .i64 0), .lit (.bool false)], .nil, .nil], .lit (.string [])], [], places) :=
  ⟨((DataW.whole enc Try.prog ((fnExactPsalmSing_world os).forCall (fun _ _ => 0) ⟨#[], #[.agg #[.slice none 0 0, .int .i64 0, .bool false, .slice none 0 0, .slice none 0 0], .string ⟨#[]⟩], []⟩).memory Try.f11.params.toList Rows.fnExactPsalmSingSpec.vars false (#[.agg #[.slice none 0 0, .int .i64 0, .bool false, .slice none 0 0, .slice none 0 0], .string ⟨#[]⟩] : Array Value).toList 8).getD ([], [], [])).2.2, by kernel_rfl⟩
set_option maxRecDepth 100000 in
theorem fnExactPsalmSing_lifted (os : Os) (started : os.Started) (H : Type) (enc : TypeId × Value → H) (F : Stop.Interp) :
    ReturnsInHanded {} Try.checked os 11 .any ((OpenSpec.ofChange Rows.fnExactPsalmSingSpec).preRow enc Try.prog Try.f11 Rows.fnExactPsalmSingRow.domain false Rows.fnExactPsalmSingRow.laid) (((OpenSpec.ofChange Rows.fnExactPsalmSingSpec).at F).post enc Try.prog Try.f11 false true false false) := by
  obtain ⟨places, hx⟩ := fnExactPsalmSing_reads os enc
  refine returnsInHanded_of_row (C := Try.checked) (s := OpenSpec.ofChange Rows.fnExactPsalmSingSpec) own started (by kernel_rfl) Try.func11
    (witness_row_at (enc := enc) (C := Try.checked) false (fnExactPsalmSing_world os) #[.agg #[.slice none 0 0, .int .i64 0, .bool false, .slice none 0 0, .slice none 0 0], .string ⟨#[]⟩] rfl (by kernel_rfl) (by kernel_rfl) (by kernel_rfl)
      (OpenSpec.preRow_of_cond 8 hx (by kernel_rfl) (fun k hk => by cases hk) (by kernel_rfl) (fnExactPsalmSing_met os))) ?_
  intro W base args ds gs before hval0 hW _ _ _ hL hSh _
  have hval : ∀ (j : Nat) t v, Try.f11.params[j]? = some t → args[j]? = some v → Value.okWide Try.prog W .any base t v := hval0
  have hW' := hW
  obtain ⟨p, q, hA0, hV, rfl, _, _⟩ := hW
  have hA : DataW.TrodAll enc Try.prog W 0 (fun _ => true) true Try.f11.params.toList args.toList ds p := hA0
  rw [Try.params11] at hA hval
  obtain ⟨v0, vs0, d0, ds0, p0, q0, hargs, rfl, rfl, h0, r0⟩ := trodAll_cons hA
  obtain ⟨v1, vs1, d1, ds1, p1, q1, rfl, rfl, rfl, h1, r1⟩ := trodAll_cons r0
  obtain ⟨rfl, rfl, rfl⟩ := trodAll_nil r1
  obtain rfl : args = #[v0, v1] := by cases args; simp_all
  obtain ⟨rfl, rfl⟩ := trodVars_none hV
  have k0 := h0
  have lt0 : ∀ x ∈ p0, x.block < W.heap.size := by obtain ⟨m, hm⟩ := k0; exact DataW.trod_lt m _ _ _ hm
  obtain ⟨a0, s0, b0, e0, g0, x0, y0, z0, rfl, ws0, ua0, ub0, uc0⟩ := psalm_in (hval 0 55 v0 rfl rfl) h0
  obtain ⟨x1, rfl, rfl, rfl, y1⟩ := open_string Try.underlying9 (hval 1 9 v1 rfl rfl) h1
  clear hA0 hval0
  refine (Pss_walk a0 e0 g0 ⟨x0, (s0, b0), y0, z0⟩ x1 y1 W ua0 ub0 uc0 (Try.laysM145.s1_3 W hSh)).mono fun e W' ⟨he, hb⟩ => ?_
  subst he
  exact ⟨_, rfl, _, _, _, [], _, [], hW', trodAll_cons_mk (shut_bool Try.underlying4 _) trodAll_mk0, trodAll_cons_mk (Below.trod laidOut (by kernel_rfl) (of_decide_eq_true (by kernel_rfl)) k0 hb lt0) (trodAll_cons_mk (shut_string Try.underlying9 y1) (trodAll_mk0)), rfl, hb.frame _, fun h => by cases h⟩


end Go.Proofs.Ytcmcdomfmmjogaa
