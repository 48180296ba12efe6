/-
  PsalmFits, PsalmSing, PsalmTenors and PsalmAccents in the model.
-/
import Derived.Test.YtcmcdomfmmjogaaPsq
import Derived.Test.YtcmcdomfmmjogaaVx
import Derived.Laws.AppendOwnNone
namespace Go.Proofs.Ytcmcdomfmmjogaa
open Go.RowKit
set_option maxRecDepth 100000
set_option linter.unusedVariables false

set_option maxHeartbeats 4000000 in
theorem sPsalmFits_any (v : Value) (p : Psa) (s : ByteArray) (hs : s.size ≤ 1048577) (w : World) (h : PV w v p) :
    Calls Try.prog 26 #[v, .string s] w fun e w' => e = .returned (.bool (pfit p s)) ∧ Below w.heap.size w w' := by
  have KP := Lib.hid (fun W (hb : Below w.heap.size w W) => sPsalmValid_any v p W (h.below hb))
  have KH := Lib.hid (l4Halves_any s (by omega))
  have KV := Lib.hid (sVerseValid_any s (by omega))
  obtain ⟨v0, v1, v2, rfl, h0, h1, h2⟩ := h
  obtain ⟨a0, c0, rfl, l0, m0⟩ := h0.sl
  obtain ⟨a1, c1, rfl, l1, m1⟩ := h1.sl
  obtain ⟨a2, c2, rfl, l2, m2⟩ := h2.sl
  unfold maxLen at m0 m1 m2
  clear h0 h1 h2
  have HF1 := Lib.hid (fun h => pfit_no1 (p := p) (s := s) h)
  have HF2 := Lib.hid (fun h => pfit_no2 (p := p) (s := s) h)
  have HF3 := Lib.hid (fun h => pfit_no3 (p := p) (s := s) h)
  have HF4 := Lib.hid (fun h => pfit_no4 (p := p) (s := s) h)
  have HY := Lib.hid (fun h1 h2 h3 h4 => pfit_yes (p := p) (s := s) h1 h2 h3 h4)
  have HVY := Lib.hid (fun h => vFst_yes (s := s) h)
  have HPV : Hid (pv p = true → p.st.length ≤ 10 ∧ p.mi.length ≤ 10 ∧ p.en.length ≤ 10) := fun h => by
    obtain ⟨_, pa, pb, pc⟩ := pv_in h
    have := (partV_in pa).2.1; have := (partV_in pb).2.1; have := (partV_in pc).2.1
    omega
  have hXs := vhalf_size s
  generalize p.st.length = n0 at *
  generalize p.mi.length = n1 at *
  generalize p.en.length = n2 at *
  generalize pfit p s = ok at *
  generalize pv p = pvv at *
  generalize vvl s.data.toList = vv at *
  cases pvv with
  | false =>
    obtain rfl := HF1.out rfl
    generalize (⟨(vA s.data.toList).toArray⟩ : ByteArray) = x at KH
    generalize (⟨(vB s.data.toList).toArray⟩ : ByteArray) = y at KH
    clear HVY
    go_enter Try.func26, Try.ntmps26
    go_wp2_with (fail)
    go_at_call 49; refine (KH.out _).mono ?_; rintro e w1 ⟨rfl, hb1⟩; obtain ⟨hc1, hf1, hz1⟩ := bl hb1; (try simp at hz1); (try (refine got (p := w.heap.size < w1.heap.size) ?_ ?_; (focus (go_size; done)); intro q1_w0)); (try (refine got (p := w1.cell? ⟨w.heap.size, 0, none⟩ = some (.slice a0 n0 c0)) ?_ ?_; (focus (refine (hc1 _ _ ?_).trans ?_; (focus (go_size; done)); go_simp; done)); intro c1_w0_0)); (try (refine got (p := w1.cell? ⟨w.heap.size, 1, none⟩ = some (.int .i64 p.tn.1)) ?_ ?_; (focus (refine (hc1 _ _ ?_).trans ?_; (focus (go_size; done)); go_simp; done)); intro c1_w0_1)); (try (refine got (p := w1.cell? ⟨w.heap.size, 2, none⟩ = some (.bool p.tn.2)) ?_ ?_; (focus (refine (hc1 _ _ ?_).trans ?_; (focus (go_size; done)); go_simp; done)); intro c1_w0_2)); (try (refine got (p := w1.cell? ⟨w.heap.size, 3, none⟩ = some (.slice a1 n1 c1)) ?_ ?_; (focus (refine (hc1 _ _ ?_).trans ?_; (focus (go_size; done)); go_simp; done)); intro c1_w0_3)); (try (refine got (p := w1.cell? ⟨w.heap.size, 4, none⟩ = some (.slice a2 n2 c2)) ?_ ?_; (focus (refine (hc1 _ _ ?_).trans ?_; (focus (go_size; done)); go_simp; done)); intro c1_w0_4)); (try (refine got (p := ∀ o, w1.frozen? ⟨w.heap.size, o, none⟩ = false) ?_ ?_; (focus (intro o; refine (hf1 _ _ ?_).trans ?_; (focus (go_size; done)); go_simp; done)); intro f1_w0)); clear hc1 hf1
    go_wp2_with (fail)
    go_at_call 39; refine (KP.out _ (by (repeat' (first | (with_reducible assumption) | (with_reducible exact Below.refl _ _) | (with_reducible refine Below.alloc ?_ ?_ _) | (with_reducible refine Below.drew ?_) | (with_reducible refine Below.setCell ?_ ?_ _) | (with_reducible refine below_gb ?_ (by assumption) ?_) | (with_reducible refine bl_step ?_ (by assumption)) | go_size)))).mono ?_; rintro e w2 ⟨rfl, hb2⟩; obtain ⟨hc2, hf2, hz2⟩ := bl hb2; (try simp at hz2); (try (refine got (p := w.heap.size < w2.heap.size) ?_ ?_; (focus (go_size; done)); intro q2_w0)); (try (refine got (p := w2.cell? ⟨w.heap.size, 0, none⟩ = some (.slice a0 n0 c0)) ?_ ?_; (focus (refine (hc2 _ _ ?_).trans ?_; (focus (go_size; done)); go_simp; done)); intro c2_w0_0)); (try (refine got (p := w2.cell? ⟨w.heap.size, 1, none⟩ = some (.int .i64 p.tn.1)) ?_ ?_; (focus (refine (hc2 _ _ ?_).trans ?_; (focus (go_size; done)); go_simp; done)); intro c2_w0_1)); (try (refine got (p := w2.cell? ⟨w.heap.size, 2, none⟩ = some (.bool p.tn.2)) ?_ ?_; (focus (refine (hc2 _ _ ?_).trans ?_; (focus (go_size; done)); go_simp; done)); intro c2_w0_2)); (try (refine got (p := w2.cell? ⟨w.heap.size, 3, none⟩ = some (.slice a1 n1 c1)) ?_ ?_; (focus (refine (hc2 _ _ ?_).trans ?_; (focus (go_size; done)); go_simp; done)); intro c2_w0_3)); (try (refine got (p := w2.cell? ⟨w.heap.size, 4, none⟩ = some (.slice a2 n2 c2)) ?_ ?_; (focus (refine (hc2 _ _ ?_).trans ?_; (focus (go_size; done)); go_simp; done)); intro c2_w0_4)); (try (refine got (p := ∀ o, w2.frozen? ⟨w.heap.size, o, none⟩ = false) ?_ ?_; (focus (intro o; refine (hf2 _ _ ?_).trans ?_; (focus (go_size; done)); go_simp; done)); intro f2_w0)); clear hc2 hf2
    go_wp2
    go_ret
    exact ⟨rfl, by (repeat' (first | (with_reducible exact Below.refl _ _) | (with_reducible refine Below.alloc ?_ ?_ _) | (with_reducible refine Below.drew ?_) | (with_reducible refine Below.setCell ?_ ?_ _) | (with_reducible refine bl_step ?_ (by assumption)) | go_size))⟩
  | true =>
    obtain ⟨s0, s1, s2⟩ := HPV.out rfl
    cases vv with
    | false =>
      obtain rfl := HF2.out rfl
      generalize (⟨(vA s.data.toList).toArray⟩ : ByteArray) = x at KH
      generalize (⟨(vB s.data.toList).toArray⟩ : ByteArray) = y at KH
      clear HVY
      go_enter Try.func26, Try.ntmps26
      go_wp2_with (fail)
      go_at_call 49; refine (KH.out _).mono ?_; rintro e w1 ⟨rfl, hb1⟩; obtain ⟨hc1, hf1, hz1⟩ := bl hb1; (try simp at hz1); (try (refine got (p := w.heap.size < w1.heap.size) ?_ ?_; (focus (go_size; done)); intro q1_w0)); (try (refine got (p := w1.cell? ⟨w.heap.size, 0, none⟩ = some (.slice a0 n0 c0)) ?_ ?_; (focus (refine (hc1 _ _ ?_).trans ?_; (focus (go_size; done)); go_simp; done)); intro c1_w0_0)); (try (refine got (p := w1.cell? ⟨w.heap.size, 1, none⟩ = some (.int .i64 p.tn.1)) ?_ ?_; (focus (refine (hc1 _ _ ?_).trans ?_; (focus (go_size; done)); go_simp; done)); intro c1_w0_1)); (try (refine got (p := w1.cell? ⟨w.heap.size, 2, none⟩ = some (.bool p.tn.2)) ?_ ?_; (focus (refine (hc1 _ _ ?_).trans ?_; (focus (go_size; done)); go_simp; done)); intro c1_w0_2)); (try (refine got (p := w1.cell? ⟨w.heap.size, 3, none⟩ = some (.slice a1 n1 c1)) ?_ ?_; (focus (refine (hc1 _ _ ?_).trans ?_; (focus (go_size; done)); go_simp; done)); intro c1_w0_3)); (try (refine got (p := w1.cell? ⟨w.heap.size, 4, none⟩ = some (.slice a2 n2 c2)) ?_ ?_; (focus (refine (hc1 _ _ ?_).trans ?_; (focus (go_size; done)); go_simp; done)); intro c1_w0_4)); (try (refine got (p := ∀ o, w1.frozen? ⟨w.heap.size, o, none⟩ = false) ?_ ?_; (focus (intro o; refine (hf1 _ _ ?_).trans ?_; (focus (go_size; done)); go_simp; done)); intro f1_w0)); clear hc1 hf1
      go_wp2_with (fail)
      go_at_call 39; refine (KP.out _ (by (repeat' (first | (with_reducible assumption) | (with_reducible exact Below.refl _ _) | (with_reducible refine Below.alloc ?_ ?_ _) | (with_reducible refine Below.drew ?_) | (with_reducible refine Below.setCell ?_ ?_ _) | (with_reducible refine below_gb ?_ (by assumption) ?_) | (with_reducible refine bl_step ?_ (by assumption)) | go_size)))).mono ?_; rintro e w2 ⟨rfl, hb2⟩; obtain ⟨hc2, hf2, hz2⟩ := bl hb2; (try simp at hz2); (try (refine got (p := w.heap.size < w2.heap.size) ?_ ?_; (focus (go_size; done)); intro q2_w0)); (try (refine got (p := w2.cell? ⟨w.heap.size, 0, none⟩ = some (.slice a0 n0 c0)) ?_ ?_; (focus (refine (hc2 _ _ ?_).trans ?_; (focus (go_size; done)); go_simp; done)); intro c2_w0_0)); (try (refine got (p := w2.cell? ⟨w.heap.size, 1, none⟩ = some (.int .i64 p.tn.1)) ?_ ?_; (focus (refine (hc2 _ _ ?_).trans ?_; (focus (go_size; done)); go_simp; done)); intro c2_w0_1)); (try (refine got (p := w2.cell? ⟨w.heap.size, 2, none⟩ = some (.bool p.tn.2)) ?_ ?_; (focus (refine (hc2 _ _ ?_).trans ?_; (focus (go_size; done)); go_simp; done)); intro c2_w0_2)); (try (refine got (p := w2.cell? ⟨w.heap.size, 3, none⟩ = some (.slice a1 n1 c1)) ?_ ?_; (focus (refine (hc2 _ _ ?_).trans ?_; (focus (go_size; done)); go_simp; done)); intro c2_w0_3)); (try (refine got (p := w2.cell? ⟨w.heap.size, 4, none⟩ = some (.slice a2 n2 c2)) ?_ ?_; (focus (refine (hc2 _ _ ?_).trans ?_; (focus (go_size; done)); go_simp; done)); intro c2_w0_4)); (try (refine got (p := ∀ o, w2.frozen? ⟨w.heap.size, o, none⟩ = false) ?_ ?_; (focus (intro o; refine (hf2 _ _ ?_).trans ?_; (focus (go_size; done)); go_simp; done)); intro f2_w0)); clear hc2 hf2
      go_wp2_with (fail)
      go_at_call 55; refine (KV.out _).mono ?_; rintro e w3 ⟨rfl, hb3⟩; obtain ⟨hc3, hf3, hz3⟩ := bl hb3; (try simp at hz3); (try (refine got (p := w.heap.size < w3.heap.size) ?_ ?_; (focus (go_size; done)); intro q3_w0)); (try (refine got (p := w3.cell? ⟨w.heap.size, 0, none⟩ = some (.slice a0 n0 c0)) ?_ ?_; (focus (refine (hc3 _ _ ?_).trans ?_; (focus (go_size; done)); go_simp; done)); intro c3_w0_0)); (try (refine got (p := w3.cell? ⟨w.heap.size, 1, none⟩ = some (.int .i64 p.tn.1)) ?_ ?_; (focus (refine (hc3 _ _ ?_).trans ?_; (focus (go_size; done)); go_simp; done)); intro c3_w0_1)); (try (refine got (p := w3.cell? ⟨w.heap.size, 2, none⟩ = some (.bool p.tn.2)) ?_ ?_; (focus (refine (hc3 _ _ ?_).trans ?_; (focus (go_size; done)); go_simp; done)); intro c3_w0_2)); (try (refine got (p := w3.cell? ⟨w.heap.size, 3, none⟩ = some (.slice a1 n1 c1)) ?_ ?_; (focus (refine (hc3 _ _ ?_).trans ?_; (focus (go_size; done)); go_simp; done)); intro c3_w0_3)); (try (refine got (p := w3.cell? ⟨w.heap.size, 4, none⟩ = some (.slice a2 n2 c2)) ?_ ?_; (focus (refine (hc3 _ _ ?_).trans ?_; (focus (go_size; done)); go_simp; done)); intro c3_w0_4)); (try (refine got (p := ∀ o, w3.frozen? ⟨w.heap.size, o, none⟩ = false) ?_ ?_; (focus (intro o; refine (hf3 _ _ ?_).trans ?_; (focus (go_size; done)); go_simp; done)); intro f3_w0)); clear hc3 hf3
      go_wp2
      go_ret
      exact ⟨rfl, by (repeat' (first | (with_reducible exact Below.refl _ _) | (with_reducible refine Below.alloc ?_ ?_ _) | (with_reducible refine Below.drew ?_) | (with_reducible refine Below.setCell ?_ ?_ _) | (with_reducible refine bl_step ?_ (by assumption)) | go_size))⟩
    | true =>
      obtain ⟨e1, e2⟩ := HVY.out rfl
      rw [← e1, ← e2] at KH
      have HY := Lib.hid (HY.out rfl rfl)
      clear e1 e2 HVY
      generalize vFst s = x at *
      generalize vSnd s = y at *
      have w1 : IntKind.i64.wrap ((n0 : Int) + (n1 : Int)) = (n0 : Int) + (n1 : Int) := IntWalk.i64_in _ (by omega)
      by_cases g3 : n0 + n1 ≤ x.size
      case neg =>
        obtain rfl := HF3.out (by omega)
        have t1 : decide ((n0 : Int) + (n1 : Int) ≤ (x.size : Int)) = false := decide_eq_false (by omega)
        have t2 : decide (n0 + n1 ≤ x.size) = false := decide_eq_false g3
        go_enter Try.func26, Try.ntmps26
        go_wp2_with (fail)
        go_at_call 49; refine (KH.out _).mono ?_; rintro e w1 ⟨rfl, hb1⟩; obtain ⟨hc1, hf1, hz1⟩ := bl hb1; (try simp at hz1); (try (refine got (p := w.heap.size < w1.heap.size) ?_ ?_; (focus (go_size; done)); intro q1_w0)); (try (refine got (p := w1.cell? ⟨w.heap.size, 0, none⟩ = some (.slice a0 n0 c0)) ?_ ?_; (focus (refine (hc1 _ _ ?_).trans ?_; (focus (go_size; done)); go_simp; done)); intro c1_w0_0)); (try (refine got (p := w1.cell? ⟨w.heap.size, 1, none⟩ = some (.int .i64 p.tn.1)) ?_ ?_; (focus (refine (hc1 _ _ ?_).trans ?_; (focus (go_size; done)); go_simp; done)); intro c1_w0_1)); (try (refine got (p := w1.cell? ⟨w.heap.size, 2, none⟩ = some (.bool p.tn.2)) ?_ ?_; (focus (refine (hc1 _ _ ?_).trans ?_; (focus (go_size; done)); go_simp; done)); intro c1_w0_2)); (try (refine got (p := w1.cell? ⟨w.heap.size, 3, none⟩ = some (.slice a1 n1 c1)) ?_ ?_; (focus (refine (hc1 _ _ ?_).trans ?_; (focus (go_size; done)); go_simp; done)); intro c1_w0_3)); (try (refine got (p := w1.cell? ⟨w.heap.size, 4, none⟩ = some (.slice a2 n2 c2)) ?_ ?_; (focus (refine (hc1 _ _ ?_).trans ?_; (focus (go_size; done)); go_simp; done)); intro c1_w0_4)); (try (refine got (p := ∀ o, w1.frozen? ⟨w.heap.size, o, none⟩ = false) ?_ ?_; (focus (intro o; refine (hf1 _ _ ?_).trans ?_; (focus (go_size; done)); go_simp; done)); intro f1_w0)); clear hc1 hf1
        go_wp2_with (fail)
        go_at_call 39; refine (KP.out _ (by (repeat' (first | (with_reducible assumption) | (with_reducible exact Below.refl _ _) | (with_reducible refine Below.alloc ?_ ?_ _) | (with_reducible refine Below.drew ?_) | (with_reducible refine Below.setCell ?_ ?_ _) | (with_reducible refine below_gb ?_ (by assumption) ?_) | (with_reducible refine bl_step ?_ (by assumption)) | go_size)))).mono ?_; rintro e w2 ⟨rfl, hb2⟩; obtain ⟨hc2, hf2, hz2⟩ := bl hb2; (try simp at hz2); (try (refine got (p := w.heap.size < w2.heap.size) ?_ ?_; (focus (go_size; done)); intro q2_w0)); (try (refine got (p := w2.cell? ⟨w.heap.size, 0, none⟩ = some (.slice a0 n0 c0)) ?_ ?_; (focus (refine (hc2 _ _ ?_).trans ?_; (focus (go_size; done)); go_simp; done)); intro c2_w0_0)); (try (refine got (p := w2.cell? ⟨w.heap.size, 1, none⟩ = some (.int .i64 p.tn.1)) ?_ ?_; (focus (refine (hc2 _ _ ?_).trans ?_; (focus (go_size; done)); go_simp; done)); intro c2_w0_1)); (try (refine got (p := w2.cell? ⟨w.heap.size, 2, none⟩ = some (.bool p.tn.2)) ?_ ?_; (focus (refine (hc2 _ _ ?_).trans ?_; (focus (go_size; done)); go_simp; done)); intro c2_w0_2)); (try (refine got (p := w2.cell? ⟨w.heap.size, 3, none⟩ = some (.slice a1 n1 c1)) ?_ ?_; (focus (refine (hc2 _ _ ?_).trans ?_; (focus (go_size; done)); go_simp; done)); intro c2_w0_3)); (try (refine got (p := w2.cell? ⟨w.heap.size, 4, none⟩ = some (.slice a2 n2 c2)) ?_ ?_; (focus (refine (hc2 _ _ ?_).trans ?_; (focus (go_size; done)); go_simp; done)); intro c2_w0_4)); (try (refine got (p := ∀ o, w2.frozen? ⟨w.heap.size, o, none⟩ = false) ?_ ?_; (focus (intro o; refine (hf2 _ _ ?_).trans ?_; (focus (go_size; done)); go_simp; done)); intro f2_w0)); clear hc2 hf2
        go_wp2_with (fail)
        go_at_call 55; refine (KV.out _).mono ?_; rintro e w3 ⟨rfl, hb3⟩; obtain ⟨hc3, hf3, hz3⟩ := bl hb3; (try simp at hz3); (try (refine got (p := w.heap.size < w3.heap.size) ?_ ?_; (focus (go_size; done)); intro q3_w0)); (try (refine got (p := w3.cell? ⟨w.heap.size, 0, none⟩ = some (.slice a0 n0 c0)) ?_ ?_; (focus (refine (hc3 _ _ ?_).trans ?_; (focus (go_size; done)); go_simp; done)); intro c3_w0_0)); (try (refine got (p := w3.cell? ⟨w.heap.size, 1, none⟩ = some (.int .i64 p.tn.1)) ?_ ?_; (focus (refine (hc3 _ _ ?_).trans ?_; (focus (go_size; done)); go_simp; done)); intro c3_w0_1)); (try (refine got (p := w3.cell? ⟨w.heap.size, 2, none⟩ = some (.bool p.tn.2)) ?_ ?_; (focus (refine (hc3 _ _ ?_).trans ?_; (focus (go_size; done)); go_simp; done)); intro c3_w0_2)); (try (refine got (p := w3.cell? ⟨w.heap.size, 3, none⟩ = some (.slice a1 n1 c1)) ?_ ?_; (focus (refine (hc3 _ _ ?_).trans ?_; (focus (go_size; done)); go_simp; done)); intro c3_w0_3)); (try (refine got (p := w3.cell? ⟨w.heap.size, 4, none⟩ = some (.slice a2 n2 c2)) ?_ ?_; (focus (refine (hc3 _ _ ?_).trans ?_; (focus (go_size; done)); go_simp; done)); intro c3_w0_4)); (try (refine got (p := ∀ o, w3.frozen? ⟨w.heap.size, o, none⟩ = false) ?_ ?_; (focus (intro o; refine (hf3 _ _ ?_).trans ?_; (focus (go_size; done)); go_simp; done)); intro f3_w0)); clear hc3 hf3
        go_wp2
        go_ret
        exact ⟨rfl, by (repeat' (first | (with_reducible exact Below.refl _ _) | (with_reducible refine Below.alloc ?_ ?_ _) | (with_reducible refine Below.drew ?_) | (with_reducible refine Below.setCell ?_ ?_ _) | (with_reducible refine bl_step ?_ (by assumption)) | go_size))⟩
      have t1 : decide ((n0 : Int) + (n1 : Int) ≤ (x.size : Int)) = true := decide_eq_true (by omega)
      have t2 : decide (n0 + n1 ≤ x.size) = true := decide_eq_true g3
      by_cases g4 : n2 ≤ y.size
      case neg =>
        obtain rfl := HF4.out (by omega)
        have t3 : decide ((n2 : Int) ≤ (y.size : Int)) = false := decide_eq_false (by omega)
        have t4 : decide (n2 ≤ y.size) = false := decide_eq_false g4
        go_enter Try.func26, Try.ntmps26
        go_wp2_with (fail)
        go_at_call 49; refine (KH.out _).mono ?_; rintro e w1 ⟨rfl, hb1⟩; obtain ⟨hc1, hf1, hz1⟩ := bl hb1; (try simp at hz1); (try (refine got (p := w.heap.size < w1.heap.size) ?_ ?_; (focus (go_size; done)); intro q1_w0)); (try (refine got (p := w1.cell? ⟨w.heap.size, 0, none⟩ = some (.slice a0 n0 c0)) ?_ ?_; (focus (refine (hc1 _ _ ?_).trans ?_; (focus (go_size; done)); go_simp; done)); intro c1_w0_0)); (try (refine got (p := w1.cell? ⟨w.heap.size, 1, none⟩ = some (.int .i64 p.tn.1)) ?_ ?_; (focus (refine (hc1 _ _ ?_).trans ?_; (focus (go_size; done)); go_simp; done)); intro c1_w0_1)); (try (refine got (p := w1.cell? ⟨w.heap.size, 2, none⟩ = some (.bool p.tn.2)) ?_ ?_; (focus (refine (hc1 _ _ ?_).trans ?_; (focus (go_size; done)); go_simp; done)); intro c1_w0_2)); (try (refine got (p := w1.cell? ⟨w.heap.size, 3, none⟩ = some (.slice a1 n1 c1)) ?_ ?_; (focus (refine (hc1 _ _ ?_).trans ?_; (focus (go_size; done)); go_simp; done)); intro c1_w0_3)); (try (refine got (p := w1.cell? ⟨w.heap.size, 4, none⟩ = some (.slice a2 n2 c2)) ?_ ?_; (focus (refine (hc1 _ _ ?_).trans ?_; (focus (go_size; done)); go_simp; done)); intro c1_w0_4)); (try (refine got (p := ∀ o, w1.frozen? ⟨w.heap.size, o, none⟩ = false) ?_ ?_; (focus (intro o; refine (hf1 _ _ ?_).trans ?_; (focus (go_size; done)); go_simp; done)); intro f1_w0)); clear hc1 hf1
        go_wp2_with (fail)
        go_at_call 39; refine (KP.out _ (by (repeat' (first | (with_reducible assumption) | (with_reducible exact Below.refl _ _) | (with_reducible refine Below.alloc ?_ ?_ _) | (with_reducible refine Below.drew ?_) | (with_reducible refine Below.setCell ?_ ?_ _) | (with_reducible refine below_gb ?_ (by assumption) ?_) | (with_reducible refine bl_step ?_ (by assumption)) | go_size)))).mono ?_; rintro e w2 ⟨rfl, hb2⟩; obtain ⟨hc2, hf2, hz2⟩ := bl hb2; (try simp at hz2); (try (refine got (p := w.heap.size < w2.heap.size) ?_ ?_; (focus (go_size; done)); intro q2_w0)); (try (refine got (p := w2.cell? ⟨w.heap.size, 0, none⟩ = some (.slice a0 n0 c0)) ?_ ?_; (focus (refine (hc2 _ _ ?_).trans ?_; (focus (go_size; done)); go_simp; done)); intro c2_w0_0)); (try (refine got (p := w2.cell? ⟨w.heap.size, 1, none⟩ = some (.int .i64 p.tn.1)) ?_ ?_; (focus (refine (hc2 _ _ ?_).trans ?_; (focus (go_size; done)); go_simp; done)); intro c2_w0_1)); (try (refine got (p := w2.cell? ⟨w.heap.size, 2, none⟩ = some (.bool p.tn.2)) ?_ ?_; (focus (refine (hc2 _ _ ?_).trans ?_; (focus (go_size; done)); go_simp; done)); intro c2_w0_2)); (try (refine got (p := w2.cell? ⟨w.heap.size, 3, none⟩ = some (.slice a1 n1 c1)) ?_ ?_; (focus (refine (hc2 _ _ ?_).trans ?_; (focus (go_size; done)); go_simp; done)); intro c2_w0_3)); (try (refine got (p := w2.cell? ⟨w.heap.size, 4, none⟩ = some (.slice a2 n2 c2)) ?_ ?_; (focus (refine (hc2 _ _ ?_).trans ?_; (focus (go_size; done)); go_simp; done)); intro c2_w0_4)); (try (refine got (p := ∀ o, w2.frozen? ⟨w.heap.size, o, none⟩ = false) ?_ ?_; (focus (intro o; refine (hf2 _ _ ?_).trans ?_; (focus (go_size; done)); go_simp; done)); intro f2_w0)); clear hc2 hf2
        go_wp2_with (fail)
        go_at_call 55; refine (KV.out _).mono ?_; rintro e w3 ⟨rfl, hb3⟩; obtain ⟨hc3, hf3, hz3⟩ := bl hb3; (try simp at hz3); (try (refine got (p := w.heap.size < w3.heap.size) ?_ ?_; (focus (go_size; done)); intro q3_w0)); (try (refine got (p := w3.cell? ⟨w.heap.size, 0, none⟩ = some (.slice a0 n0 c0)) ?_ ?_; (focus (refine (hc3 _ _ ?_).trans ?_; (focus (go_size; done)); go_simp; done)); intro c3_w0_0)); (try (refine got (p := w3.cell? ⟨w.heap.size, 1, none⟩ = some (.int .i64 p.tn.1)) ?_ ?_; (focus (refine (hc3 _ _ ?_).trans ?_; (focus (go_size; done)); go_simp; done)); intro c3_w0_1)); (try (refine got (p := w3.cell? ⟨w.heap.size, 2, none⟩ = some (.bool p.tn.2)) ?_ ?_; (focus (refine (hc3 _ _ ?_).trans ?_; (focus (go_size; done)); go_simp; done)); intro c3_w0_2)); (try (refine got (p := w3.cell? ⟨w.heap.size, 3, none⟩ = some (.slice a1 n1 c1)) ?_ ?_; (focus (refine (hc3 _ _ ?_).trans ?_; (focus (go_size; done)); go_simp; done)); intro c3_w0_3)); (try (refine got (p := w3.cell? ⟨w.heap.size, 4, none⟩ = some (.slice a2 n2 c2)) ?_ ?_; (focus (refine (hc3 _ _ ?_).trans ?_; (focus (go_size; done)); go_simp; done)); intro c3_w0_4)); (try (refine got (p := ∀ o, w3.frozen? ⟨w.heap.size, o, none⟩ = false) ?_ ?_; (focus (intro o; refine (hf3 _ _ ?_).trans ?_; (focus (go_size; done)); go_simp; done)); intro f3_w0)); clear hc3 hf3
        go_wp2
        go_ret
        exact ⟨rfl, by (repeat' (first | (with_reducible exact Below.refl _ _) | (with_reducible refine Below.alloc ?_ ?_ _) | (with_reducible refine Below.drew ?_) | (with_reducible refine Below.setCell ?_ ?_ _) | (with_reducible refine bl_step ?_ (by assumption)) | go_size))⟩
      obtain rfl := HY.out g3 g4
      have t3 : decide ((n2 : Int) ≤ (y.size : Int)) = true := decide_eq_true (by omega)
      have t4 : decide (n2 ≤ y.size) = true := decide_eq_true g4
      go_enter Try.func26, Try.ntmps26
      go_wp2_with (fail)
      go_at_call 49; refine (KH.out _).mono ?_; rintro e w1 ⟨rfl, hb1⟩; obtain ⟨hc1, hf1, hz1⟩ := bl hb1; (try simp at hz1); (try (refine got (p := w.heap.size < w1.heap.size) ?_ ?_; (focus (go_size; done)); intro q1_w0)); (try (refine got (p := w1.cell? ⟨w.heap.size, 0, none⟩ = some (.slice a0 n0 c0)) ?_ ?_; (focus (refine (hc1 _ _ ?_).trans ?_; (focus (go_size; done)); go_simp; done)); intro c1_w0_0)); (try (refine got (p := w1.cell? ⟨w.heap.size, 1, none⟩ = some (.int .i64 p.tn.1)) ?_ ?_; (focus (refine (hc1 _ _ ?_).trans ?_; (focus (go_size; done)); go_simp; done)); intro c1_w0_1)); (try (refine got (p := w1.cell? ⟨w.heap.size, 2, none⟩ = some (.bool p.tn.2)) ?_ ?_; (focus (refine (hc1 _ _ ?_).trans ?_; (focus (go_size; done)); go_simp; done)); intro c1_w0_2)); (try (refine got (p := w1.cell? ⟨w.heap.size, 3, none⟩ = some (.slice a1 n1 c1)) ?_ ?_; (focus (refine (hc1 _ _ ?_).trans ?_; (focus (go_size; done)); go_simp; done)); intro c1_w0_3)); (try (refine got (p := w1.cell? ⟨w.heap.size, 4, none⟩ = some (.slice a2 n2 c2)) ?_ ?_; (focus (refine (hc1 _ _ ?_).trans ?_; (focus (go_size; done)); go_simp; done)); intro c1_w0_4)); (try (refine got (p := ∀ o, w1.frozen? ⟨w.heap.size, o, none⟩ = false) ?_ ?_; (focus (intro o; refine (hf1 _ _ ?_).trans ?_; (focus (go_size; done)); go_simp; done)); intro f1_w0)); clear hc1 hf1
      go_wp2_with (fail)
      go_at_call 39; refine (KP.out _ (by (repeat' (first | (with_reducible assumption) | (with_reducible exact Below.refl _ _) | (with_reducible refine Below.alloc ?_ ?_ _) | (with_reducible refine Below.drew ?_) | (with_reducible refine Below.setCell ?_ ?_ _) | (with_reducible refine below_gb ?_ (by assumption) ?_) | (with_reducible refine bl_step ?_ (by assumption)) | go_size)))).mono ?_; rintro e w2 ⟨rfl, hb2⟩; obtain ⟨hc2, hf2, hz2⟩ := bl hb2; (try simp at hz2); (try (refine got (p := w.heap.size < w2.heap.size) ?_ ?_; (focus (go_size; done)); intro q2_w0)); (try (refine got (p := w2.cell? ⟨w.heap.size, 0, none⟩ = some (.slice a0 n0 c0)) ?_ ?_; (focus (refine (hc2 _ _ ?_).trans ?_; (focus (go_size; done)); go_simp; done)); intro c2_w0_0)); (try (refine got (p := w2.cell? ⟨w.heap.size, 1, none⟩ = some (.int .i64 p.tn.1)) ?_ ?_; (focus (refine (hc2 _ _ ?_).trans ?_; (focus (go_size; done)); go_simp; done)); intro c2_w0_1)); (try (refine got (p := w2.cell? ⟨w.heap.size, 2, none⟩ = some (.bool p.tn.2)) ?_ ?_; (focus (refine (hc2 _ _ ?_).trans ?_; (focus (go_size; done)); go_simp; done)); intro c2_w0_2)); (try (refine got (p := w2.cell? ⟨w.heap.size, 3, none⟩ = some (.slice a1 n1 c1)) ?_ ?_; (focus (refine (hc2 _ _ ?_).trans ?_; (focus (go_size; done)); go_simp; done)); intro c2_w0_3)); (try (refine got (p := w2.cell? ⟨w.heap.size, 4, none⟩ = some (.slice a2 n2 c2)) ?_ ?_; (focus (refine (hc2 _ _ ?_).trans ?_; (focus (go_size; done)); go_simp; done)); intro c2_w0_4)); (try (refine got (p := ∀ o, w2.frozen? ⟨w.heap.size, o, none⟩ = false) ?_ ?_; (focus (intro o; refine (hf2 _ _ ?_).trans ?_; (focus (go_size; done)); go_simp; done)); intro f2_w0)); clear hc2 hf2
      go_wp2_with (fail)
      go_at_call 55; refine (KV.out _).mono ?_; rintro e w3 ⟨rfl, hb3⟩; obtain ⟨hc3, hf3, hz3⟩ := bl hb3; (try simp at hz3); (try (refine got (p := w.heap.size < w3.heap.size) ?_ ?_; (focus (go_size; done)); intro q3_w0)); (try (refine got (p := w3.cell? ⟨w.heap.size, 0, none⟩ = some (.slice a0 n0 c0)) ?_ ?_; (focus (refine (hc3 _ _ ?_).trans ?_; (focus (go_size; done)); go_simp; done)); intro c3_w0_0)); (try (refine got (p := w3.cell? ⟨w.heap.size, 1, none⟩ = some (.int .i64 p.tn.1)) ?_ ?_; (focus (refine (hc3 _ _ ?_).trans ?_; (focus (go_size; done)); go_simp; done)); intro c3_w0_1)); (try (refine got (p := w3.cell? ⟨w.heap.size, 2, none⟩ = some (.bool p.tn.2)) ?_ ?_; (focus (refine (hc3 _ _ ?_).trans ?_; (focus (go_size; done)); go_simp; done)); intro c3_w0_2)); (try (refine got (p := w3.cell? ⟨w.heap.size, 3, none⟩ = some (.slice a1 n1 c1)) ?_ ?_; (focus (refine (hc3 _ _ ?_).trans ?_; (focus (go_size; done)); go_simp; done)); intro c3_w0_3)); (try (refine got (p := w3.cell? ⟨w.heap.size, 4, none⟩ = some (.slice a2 n2 c2)) ?_ ?_; (focus (refine (hc3 _ _ ?_).trans ?_; (focus (go_size; done)); go_simp; done)); intro c3_w0_4)); (try (refine got (p := ∀ o, w3.frozen? ⟨w.heap.size, o, none⟩ = false) ?_ ?_; (focus (intro o; refine (hf3 _ _ ?_).trans ?_; (focus (go_size; done)); go_simp; done)); intro f3_w0)); clear hc3 hf3
      go_wp2
      go_ret
      exact ⟨rfl, by (repeat' (first | (with_reducible exact Below.refl _ _) | (with_reducible refine Below.alloc ?_ ?_ _) | (with_reducible refine Below.drew ?_) | (with_reducible refine Below.setCell ?_ ?_ _) | (with_reducible refine bl_step ?_ (by assumption)) | go_size))⟩

theorem append_tn {w : World} {ops : Array Oper} {rest : List Oper} {o : Oper} {a : Act} {Q : Exit → Act → World → Prop} (hgd : o.guard = none) (s x : Operand)
    (ho : o.op = .call { callee := .builtin .append, args := #[s, x], argTypes := #[23, 23] })
    (w0 : World) (v u : Value) (n : Nat) (xs ys : List (Int × Bool)) (hs : a.eval s = v) (hI : ToI w0 w v xs) (hl : xs.length = n) (hx : a.eval x = u) (hu : LV w u ys)
    (hn : n ≤ 4000000) (hy : ys.length ≤ 4000000)
    (h : ∀ v' w', ToI w0 w' v' (xs ++ ys) → wpList Try.prog ops Q rest (a.put o.dst v') w') : wpList Try.prog ops Q (o :: rest) a w := by
  obtain ⟨i0, hi, hq0, hq1, hq2⟩ := info_parts infoToneP
  obtain ⟨lo, hi', hu⟩ := hu
  have hown := hI.own
  have hbase := hI.bl.size
  have key : ∀ v' w', w'.ownsRow w0.heap.size 25 2 v' (xs.length + ys.length) (tcs xs ++ tcs ys) → w.grownBy w' v.ownBlock → wpList Try.prog ops Q rest (a.put o.dst v') w' := fun v' w' h1 h2 =>
    h v' w' ⟨by rw [tcs_app, List.length_append]; exact h1, hI.bl.grown h2 hbase (fun k hk => (hown.lt k hk).1)⟩
  rcases hu.1.2 with ⟨rfl, h0⟩ | ⟨g, cap, cur, rfl, _, hh, hc, _, hsz, htk⟩
  · have hy0 : ys = [] := List.eq_nil_of_length_eq_zero h0
    subst hy0
    exact wpList_append_own_none hgd s x _ ho w0.heap.size _ i0 2 Try.underlying23 hi v _ _ hs hown hx (key v w (by simpa [tcs] using hown) (World.grownBy.refl _ _))
  · refine wpList_append_own w hgd s x _ ho w0.heap.size _ i0 (.agg #[.int .i64 0, .bool false]) 2 16 Try.underlying23 hi hq0 hq1 hq2 rfl (by decide) v _ _ hs hown ⟨g, 0, none⟩ ys.length cap (tcs ys) hx (tcs_len ys) (fun j z hz => ?_) (tcs_one ys) (by unfold maxLen; omega) (by omega) hbase
      (fun v' w' h1 h2 _ => key v' w' h1 h2)
    exact hu.1.cells (g := g) rfl j z hz
def slLen : Value → Nat
  | .slice _ n _ => n
  | _ => 0
theorem ToI.box {w0 wr : World} {v : Value} {xs : List (Int × Bool)} (h : ToI w0 wr v xs) {B o : Nat} {z : Value} (hc : w0.cell? ⟨B, o, none⟩ = some z) : wr.cell? ⟨B, o, none⟩ = some z := keepc hc h.bl

set_option maxHeartbeats 8000000 in
theorem sPsalmSing_any (v : Value) (p : Psa) (s : ByteArray) (hs : s.size ≤ 1048577) (w : World) (h : PV w v p) :
    Calls Try.prog 16 #[v, .string s] w (TB2 w (psL p s) (pfit p s)) := by
  have KF := Lib.hid (fun W (hb : Below w.heap.size w W) => sPsalmFits_any v p s hs W (h.below hb))
  have KH := Lib.hid (l4Halves_any s (by omega))
  obtain ⟨i0, hi0, hq0, hq1, hq2⟩ := info_parts infoToneP
  obtain ⟨v0, v1, v2, rfl, h0, h1, h2⟩ := h
  obtain ⟨a0, c0, rfl, l0, m0⟩ := h0.sl
  obtain ⟨a1, c1, rfl, l1, m1⟩ := h1.sl
  obtain ⟨a2, c2, rfl, l2, m2⟩ := h2.sl
  unfold maxLen at m0 m1 m2
  have HL0 := Lib.hid (fun W (hb : Below w.heap.size w W) => h0.below hb)
  have HL1 := Lib.hid (fun W (hb : Below w.heap.size w W) => h1.below hb)
  have HL2 := Lib.hid (fun W (hb : Below w.heap.size w W) => h2.below hb)
  clear h0 h1 h2
  cases hok : pfit p s with
  | false =>
    have HN := Lib.hid (psL_no hok)
    rw [hok] at KF
    rw [HN.out]
    clear hok
    generalize p.st.length = n0 at *
    generalize p.mi.length = n1 at *
    generalize p.en.length = n2 at *
    go_enter Try.func16, Try.ntmps16
    go_wp2_with (fail)
    (go_at_call 26; refine (KF.out _ (by (repeat' (first | (with_reducible exact Below.refl _ _) | (with_reducible refine Below.alloc ?_ ?_ _) | (with_reducible refine Below.drew ?_) | (with_reducible refine Below.setCell ?_ ?_ _) | (with_reducible refine bl_step ?_ (by assumption)) | go_size)))).mono ?_; rintro e w1 ⟨rfl, hb1⟩; obtain ⟨hc1, hf1, hz1⟩ := bl hb1; (try simp at hz1); (try (refine got (p := w.heap.size < w1.heap.size) ?_ ?_; (focus (go_size; done)); intro q1_w0)); (try (refine got (p := w1.cell? ⟨w.heap.size, 0, none⟩ = some (.slice a0 n0 c0)) ?_ ?_; (focus (refine (hc1 _ _ ?_).trans ?_; (focus (go_size; done)); go_simp; done)); intro c1_w0_0)); (try (refine got (p := w1.cell? ⟨w.heap.size, 1, none⟩ = some (.int .i64 p.tn.1)) ?_ ?_; (focus (refine (hc1 _ _ ?_).trans ?_; (focus (go_size; done)); go_simp; done)); intro c1_w0_1)); (try (refine got (p := w1.cell? ⟨w.heap.size, 2, none⟩ = some (.bool p.tn.2)) ?_ ?_; (focus (refine (hc1 _ _ ?_).trans ?_; (focus (go_size; done)); go_simp; done)); intro c1_w0_2)); (try (refine got (p := w1.cell? ⟨w.heap.size, 3, none⟩ = some (.slice a1 n1 c1)) ?_ ?_; (focus (refine (hc1 _ _ ?_).trans ?_; (focus (go_size; done)); go_simp; done)); intro c1_w0_3)); (try (refine got (p := w1.cell? ⟨w.heap.size, 4, none⟩ = some (.slice a2 n2 c2)) ?_ ?_; (focus (refine (hc1 _ _ ?_).trans ?_; (focus (go_size; done)); go_simp; done)); intro c1_w0_4)); (try (refine got (p := ∀ o, w1.frozen? ⟨w.heap.size, o, none⟩ = false) ?_ ?_; (focus (intro o; refine (hf1 _ _ ?_).trans ?_; (focus (go_size; done)); go_simp; done)); intro f1_w0)); clear hc1 hf1)
    have hbw1 : Below w.heap.size w w1 := by (repeat' (first | (with_reducible exact Below.refl _ _) | (with_reducible refine Below.alloc ?_ ?_ _) | (with_reducible refine Below.drew ?_) | (with_reducible refine Below.setCell ?_ ?_ _) | (with_reducible refine bl_step ?_ (by assumption)) | go_size))
    have HS := Lib.hid (ToI.start w1)
    go_wp2
    go_ret2
    exact ⟨_, rfl, HS.out.row.lohi hbw1.size (Nat.le_refl _), bl_step hbw1 HS.out.bl⟩
  | true =>
    obtain ⟨hpv, hvv, h3, h4⟩ := pfit_in hok
    obtain ⟨_, pa, pb, pc⟩ := pv_in hpv
    have s0 := (partV_in pa).2.1
    have s1 := (partV_in pb).2.1
    have s2 := (partV_in pc).2.1
    obtain ⟨e1, e2⟩ := vFst_yes hvv
    rw [← e1, ← e2] at KH
    have hXs := vhalf_size s
    have HY : Hid (psL p s = (p.st ++ List.replicate ((vFst s).size - p.st.length - p.mi.length) p.tn ++ p.mi) ++ List.replicate ((vSnd s).size - p.en.length) p.tn ++ p.en) := by
      show _ = _
      rw [psL_yes hok]
      unfold sgH
      simp only [List.length_nil, Nat.sub_zero, List.nil_append, List.append_assoc]
    rw [hok] at KF
    clear hok hpv hvv pa pb pc e1 e2
    obtain ⟨n0, hn0⟩ : ∃ n, p.st.length = n := ⟨_, rfl⟩
    obtain ⟨n1, hn1⟩ : ∃ n, p.mi.length = n := ⟨_, rfl⟩
    obtain ⟨n2, hn2⟩ : ∃ n, p.en.length = n := ⟨_, rfl⟩
    have HN0 := Lib.hid hn0
    have HN1 := Lib.hid hn1
    have HN2 := Lib.hid hn2
    rw [hn0] at KF HL0 HY h3 s0 l0 ⊢
    rw [hn1] at KF HL1 HY h3 s1 l1 ⊢
    rw [hn2] at KF HL2 HY h4 s2 l2 ⊢
    clear hn0 hn1 hn2
    generalize vFst s = x at *
    generalize vSnd s = y at *
    generalize psL p s = ys at *
    obtain ⟨X, hX⟩ : ∃ n, x.size = n := ⟨_, rfl⟩
    obtain ⟨Y, hY⟩ : ∃ n, y.size = n := ⟨_, rfl⟩
    have HX := Lib.hid hX
    have HYY := Lib.hid hY
    rw [hX] at h3 hXs HY
    rw [hY] at h4 hXs HY
    obtain ⟨q1, hq1'⟩ : ∃ q, X - n1 = q := ⟨_, rfl⟩
    obtain ⟨q2, hq2'⟩ : ∃ q, X + Y - n2 = q := ⟨_, rfl⟩
    have wr1 : IntKind.i64.wrap ((X : Int) - (n1 : Int)) = (q1 : Int) := by rw [IntWalk.i64_in _ (by omega)]; omega
    have wr2 : IntKind.i64.wrap ((X : Int) + (Y : Int)) = (X : Int) + (Y : Int) := IntWalk.i64_in _ (by omega)
    have wr3 : IntKind.i64.wrap ((X : Int) + (Y : Int) - (n2 : Int)) = (q2 : Int) := by rw [IntWalk.i64_in _ (by omega)]; omega
    have hq1b : n0 ≤ q1 ∧ q1 + n1 = X := by omega
    have hq2b : X ≤ q2 ∧ q2 + n2 = X + Y := by omega
    clear hq1' hq2'
    go_enter Try.func16, Try.ntmps16
    go_wp2_with (fail)
    (go_at_call 26; refine (KF.out _ (by (repeat' (first | (with_reducible exact Below.refl _ _) | (with_reducible refine Below.alloc ?_ ?_ _) | (with_reducible refine Below.drew ?_) | (with_reducible refine Below.setCell ?_ ?_ _) | (with_reducible refine bl_step ?_ (by assumption)) | go_size)))).mono ?_; rintro e w1 ⟨rfl, hb1⟩; obtain ⟨hc1, hf1, hz1⟩ := bl hb1; (try simp at hz1); (try (refine got (p := w.heap.size < w1.heap.size) ?_ ?_; (focus (go_size; done)); intro q1_w0)); (try (refine got (p := w1.cell? ⟨w.heap.size, 0, none⟩ = some (.slice a0 n0 c0)) ?_ ?_; (focus (refine (hc1 _ _ ?_).trans ?_; (focus (go_size; done)); go_simp; done)); intro c1_w0_0)); (try (refine got (p := w1.cell? ⟨w.heap.size, 1, none⟩ = some (.int .i64 p.tn.1)) ?_ ?_; (focus (refine (hc1 _ _ ?_).trans ?_; (focus (go_size; done)); go_simp; done)); intro c1_w0_1)); (try (refine got (p := w1.cell? ⟨w.heap.size, 2, none⟩ = some (.bool p.tn.2)) ?_ ?_; (focus (refine (hc1 _ _ ?_).trans ?_; (focus (go_size; done)); go_simp; done)); intro c1_w0_2)); (try (refine got (p := w1.cell? ⟨w.heap.size, 3, none⟩ = some (.slice a1 n1 c1)) ?_ ?_; (focus (refine (hc1 _ _ ?_).trans ?_; (focus (go_size; done)); go_simp; done)); intro c1_w0_3)); (try (refine got (p := w1.cell? ⟨w.heap.size, 4, none⟩ = some (.slice a2 n2 c2)) ?_ ?_; (focus (refine (hc1 _ _ ?_).trans ?_; (focus (go_size; done)); go_simp; done)); intro c1_w0_4)); (try (refine got (p := ∀ o, w1.frozen? ⟨w.heap.size, o, none⟩ = false) ?_ ?_; (focus (intro o; refine (hf1 _ _ ?_).trans ?_; (focus (go_size; done)); go_simp; done)); intro f1_w0)); clear hc1 hf1)
    go_wp2_with (fail)
    (go_at_call 49; refine (KH.out _).mono ?_; rintro e w2 ⟨rfl, hb2⟩; obtain ⟨hc2, hf2, hz2⟩ := bl hb2; (try simp at hz2); (try (refine got (p := w.heap.size < w2.heap.size) ?_ ?_; (focus (go_size; done)); intro q2_w0)); (try (refine got (p := w2.cell? ⟨w.heap.size, 0, none⟩ = some (.slice a0 n0 c0)) ?_ ?_; (focus (refine (hc2 _ _ ?_).trans ?_; (focus (go_size; done)); go_simp; done)); intro c2_w0_0)); (try (refine got (p := w2.cell? ⟨w.heap.size, 1, none⟩ = some (.int .i64 p.tn.1)) ?_ ?_; (focus (refine (hc2 _ _ ?_).trans ?_; (focus (go_size; done)); go_simp; done)); intro c2_w0_1)); (try (refine got (p := w2.cell? ⟨w.heap.size, 2, none⟩ = some (.bool p.tn.2)) ?_ ?_; (focus (refine (hc2 _ _ ?_).trans ?_; (focus (go_size; done)); go_simp; done)); intro c2_w0_2)); (try (refine got (p := w2.cell? ⟨w.heap.size, 3, none⟩ = some (.slice a1 n1 c1)) ?_ ?_; (focus (refine (hc2 _ _ ?_).trans ?_; (focus (go_size; done)); go_simp; done)); intro c2_w0_3)); (try (refine got (p := w2.cell? ⟨w.heap.size, 4, none⟩ = some (.slice a2 n2 c2)) ?_ ?_; (focus (refine (hc2 _ _ ?_).trans ?_; (focus (go_size; done)); go_simp; done)); intro c2_w0_4)); (try (refine got (p := ∀ o, w2.frozen? ⟨w.heap.size, o, none⟩ = false) ?_ ?_; (focus (intro o; refine (hf2 _ _ ?_).trans ?_; (focus (go_size; done)); go_simp; done)); intro f2_w0)); clear hc2 hf2)
    have hbw2 : Below w.heap.size w w2 := by (repeat' (first | (with_reducible exact Below.refl _ _) | (with_reducible refine Below.alloc ?_ ?_ _) | (with_reducible refine Below.drew ?_) | (with_reducible refine Below.setCell ?_ ?_ _) | (with_reducible refine bl_step ?_ (by assumption)) | go_size))
    have HB2 := Lib.hid hbw2
    have HI0 := Lib.hid (ToI.start w2)
    have zz : w2.heap.size = w2.heap.size := rfl
    have HT0 := HL0.out (w2.alloc (.cells #[] 25)) (hbw2.alloc hbw2.size _)
    clear hbw2 hb1 hb2
    go_wp2_with (at_builtin; refine append_tn rfl (.tmp 19) (.tmp 21) rfl w2 _ _ 0 [] p.st rfl HI0.out rfl rfl HT0 (by omega) (by rw [HN0.out]; omega) ?_)
    intro vo w3 hI3
    have HI3 := Lib.hid hI3
    clear HT0 HI0 hI3
    go_wp2
    go_loopw [8] (fun v wr => ∃ k : Nat, n0 ≤ k ∧ k ≤ q1 ∧ slLen v = k ∧ ToI w2 wr v (p.st ++ List.replicate (k - n0) p.tn)) (fun v _ => q1 - slLen v)
    case atStart =>
      obtain ⟨va, vc, rfl⟩ := HI3.out.sl
      exact ⟨n0, Nat.le_refl _, by omega, by simp [slLen]; exact HN0.out, by simpa using HI3.out⟩
    case round =>
      obtain ⟨k, hk0, hk, hsl, hI⟩ := hrel
      have hll : (p.st ++ List.replicate (k - n0) p.tn).length = k := by rw [List.length_append, List.length_replicate, HN0.out]; omega
      obtain ⟨va, vc, rfl⟩ := hI.sl
      rw [hll] at hI ⊢
      have HI := Lib.hid hI
      have d0 := hI.box c2_w0_0
      have d1 := hI.box c2_w0_1
      have d2 := hI.box c2_w0_2
      have d3 := hI.box c2_w0_3
      have d4 := hI.box c2_w0_4
      clear hsl
      by_cases hlt : k < q1
      · have t1 : (k : Int) < (q1 : Int) := by omega
        have HXX : Hid (p.st ++ List.replicate (k + 1 - n0) p.tn = (p.st ++ List.replicate (k - n0) p.tn) ++ [p.tn]) := by
          show _ = _
          rw [show k + 1 - n0 = (k - n0) + 1 by omega, List.replicate_succ', List.append_assoc]
        have hown := hI.own
        rw [hll] at hown
        have hsz := hI.bl.size
        generalize p.st ++ List.replicate (k - n0) p.tn = zs at hown HI HXX hll
        clear hI
        go_wp2_with (at_builtin; refine wpList_append_own _ rfl _ _ 23 rfl w2.heap.size 25 i0 (.agg #[.int .i64 0, .bool false]) 2 16 Try.underlying23 hi0 hq0 hq1 hq2 rfl (by decide) _ _ _ rfl (hown.alloc _) ⟨wr.heap.size, 0, none⟩ 1 1 [.int .i64 p.tn.1, .bool p.tn.2] rfl rfl new2 new2_one (by unfold maxLen; omega) (by omega) (by simp; omega) ?_)
        intro v' w7 hown' hgrow _
        have hI7 : ToI w2 w7 v' (zs ++ [p.tn]) := HI.out.app (by rw [hll]; exact hown') hgrow
        have HV7 : Hid (slLen v' = k + 1) := by
          obtain ⟨va', vc', rfl⟩ := hI7.sl
          show (zs ++ [p.tn]).length = _
          rw [List.length_append, hll]; rfl
        rw [← HXX.out] at hI7
        have HI7 := Lib.hid hI7
        clear hown' hgrow hown hI7
        go_wp2
        go_roundw
        case rel => exact ⟨k + 1, by omega, by omega, HV7.out, HI7.out⟩
        case measure => show _ - slLen v' < _ - k; have := HV7.out; omega
      · have hke : k = q1 := by omega
        subst hke
        have t1 : decide ((k : Int) < (k : Int)) = false := by simp
        have HT1 := HL1.out wr (bl_step HB2.out hI.bl)
        clear hI
        go_wp2_with (at_builtin; refine append_tn rfl (.tmp 37) (.tmp 39) rfl w2 _ _ k _ p.mi rfl HI.out hll rfl HT1 (by omega) (by rw [HN1.out]; omega) ?_)
        intro vo2 w4 hI4
        have HI4 : Hid (ToI w2 w4 vo2 (p.st ++ List.replicate (k - n0) p.tn ++ p.mi)) := by first | exact hI4 | (show ToI _ _ _ _; rw [List.append_assoc]; exact hI4)
        clear HT1 hI4 HI d0 d1 d2 d3 d4
        have hl1 : (p.st ++ List.replicate (k - n0) p.tn ++ p.mi).length = X := by rw [List.length_append, hll, HN1.out]; omega
        rw [show X - n0 - n1 = k - n0 by omega] at HY
        generalize p.st ++ List.replicate (k - n0) p.tn ++ p.mi = L1 at HI4 HY hl1
        have HL1' := Lib.hid hl1
        clear hl1 hll
        go_wp2
        go_loopw [8] (fun v wr => ∃ j : Nat, X ≤ j ∧ j ≤ q2 ∧ slLen v = j ∧ ToI w2 wr v (L1 ++ List.replicate (j - X) p.tn)) (fun v _ => q2 - slLen v)
        case atStart =>
          obtain ⟨va, vc, rfl⟩ := HI4.out.sl
          exact ⟨X, Nat.le_refl _, by omega, by simp [slLen]; exact HL1'.out, by simpa using HI4.out⟩
        case round =>
          obtain ⟨j, hj0, hj, hsl, hI⟩ := hrel
          have hll : (L1 ++ List.replicate (j - X) p.tn).length = j := by rw [List.length_append, List.length_replicate, HL1'.out]; omega
          obtain ⟨va, vc, rfl⟩ := hI.sl
          rw [hll] at hI ⊢
          have HI := Lib.hid hI
          have d0 := hI.box c2_w0_0
          have d1 := hI.box c2_w0_1
          have d2 := hI.box c2_w0_2
          have d3 := hI.box c2_w0_3
          have d4 := hI.box c2_w0_4
          have xz : (x.size : Int) = (X : Int) := by rw [HX.out]
          have yz : (y.size : Int) = (Y : Int) := by rw [HYY.out]
          clear hsl
          by_cases hlt : j < q2
          · have t1 : (j : Int) < (q2 : Int) := by omega
            have HXX : Hid (L1 ++ List.replicate (j + 1 - X) p.tn = (L1 ++ List.replicate (j - X) p.tn) ++ [p.tn]) := by
              show _ = _
              rw [show j + 1 - X = (j - X) + 1 by omega, List.replicate_succ', List.append_assoc]
            have hown := hI.own
            rw [hll] at hown
            have hsz := hI.bl.size
            generalize L1 ++ List.replicate (j - X) p.tn = zs at hown HI HXX hll
            clear hI
            go_wp2_with (at_builtin; refine wpList_append_own _ rfl _ _ 23 rfl w2.heap.size 25 i0 (.agg #[.int .i64 0, .bool false]) 2 16 Try.underlying23 hi0 hq0 hq1 hq2 rfl (by decide) _ _ _ rfl (hown.alloc _) ⟨wr.heap.size, 0, none⟩ 1 1 [.int .i64 p.tn.1, .bool p.tn.2] rfl rfl new2 new2_one (by unfold maxLen; omega) (by omega) (by simp; omega) ?_)
            intro v' w7 hown' hgrow _
            have hI7 : ToI w2 w7 v' (zs ++ [p.tn]) := HI.out.app (by rw [hll]; exact hown') hgrow
            have HV7 : Hid (slLen v' = j + 1) := by
              obtain ⟨va', vc', rfl⟩ := hI7.sl
              show (zs ++ [p.tn]).length = _
              rw [List.length_append, hll]; rfl
            rw [← HXX.out] at hI7
            have HI7 := Lib.hid hI7
            clear hown' hgrow hown hI7
            go_wp2
            go_roundw
            case rel => exact ⟨j + 1, by omega, by omega, HV7.out, HI7.out⟩
            case measure => show _ - slLen v' < _ - j; have := HV7.out; omega
          · have hje : j = q2 := by omega
            subst hje
            have t1 : decide ((j : Int) < (j : Int)) = false := by simp
            have HT2 := HL2.out wr (bl_step HB2.out hI.bl)
            clear hI
            go_wp2_with (at_builtin; refine append_tn rfl (.tmp 58) (.tmp 60) rfl w2 _ _ j _ p.en rfl HI.out hll rfl HT2 (by omega) (by rw [HN2.out]; omega) ?_)
            intro vo5 w5 hI5
            have HI5 : Hid (ToI w2 w5 vo5 (L1 ++ List.replicate (j - X) p.tn ++ p.en)) := by first | exact hI5 | (show ToI _ _ _ _; rw [List.append_assoc]; exact hI5)
            clear HT2 hI5 HI d0 d1 d2 d3 d4
            go_wp2
            go_ret2
            refine ⟨_, rfl, ?_, bl_step HB2.out HI5.out.bl⟩
            rw [HY.out, show Y - n2 = j - X by omega]
            exact HI5.out.row.lohi HB2.out.size (Nat.le_refl _)

end Go.Proofs.Ytcmcdomfmmjogaa
