/-
  What are psalm tones, in both programs.
-/
import Derived.Test.YtcmcdomfmmjogaaPsa
namespace Go.Proofs.Ytcmcdomfmmjogaa
open Go.RowKit
set_option maxRecDepth 100000
set_option linter.unusedVariables false

theorem partValid_any (v : Value) (xs : List (Int × Bool)) (l m : Nat) (hl : l ≤ 10) (hm : m ≤ 10) (w : World) (h : LV w v xs) :
    Calls Try.prog 57 #[v, .int .i64 l, .int .i64 m] w fun e w' => e = .returned (.bool (partV xs l m)) ∧ Below w.heap.size w w' := by
  have HM := Lib.hid (melodyValid_lv _ xs w h)
  obtain ⟨a, c, rfl, h1, h2⟩ := h.sl
  unfold maxLen at h2
  clear h
  by_cases hA : l ≤ xs.length
  case neg =>
    rw [partV_no1 (by omega)]
    have g1 : decide ((l : Int) ≤ (xs.length : Int)) = false := decide_eq_false (by omega)
    have g2 : decide (l ≤ xs.length) = false := decide_eq_false hA
    go_enter Try.func57, Try.ntmps57
    go_wp2
    go_ret
    exact ⟨rfl, Below.refl _ _⟩
  by_cases hB : xs.length ≤ m
  case neg =>
    rw [partV_no2 (by omega)]
    have g1 : decide ((l : Int) ≤ (xs.length : Int)) = true := decide_eq_true (by omega)
    have g2 : decide (l ≤ xs.length) = true := decide_eq_true hA
    have g3 : decide ((xs.length : Int) ≤ (m : Int)) = false := decide_eq_false (by omega)
    have g4 : decide (xs.length ≤ m) = false := decide_eq_false hB
    go_enter Try.func57, Try.ntmps57
    go_wp2
    go_ret
    exact ⟨rfl, Below.refl _ _⟩
  have e : partV xs l m = mv xs := by simp [partV, hA, hB]
  rw [e]
  have g1 : decide ((l : Int) ≤ (xs.length : Int)) = true := decide_eq_true (by omega)
  have g2 : decide (l ≤ xs.length) = true := decide_eq_true hA
  have g3 : decide ((xs.length : Int) ≤ (m : Int)) = true := decide_eq_true (by omega)
  have g4 : decide (xs.length ≤ m) = true := decide_eq_true hB
  clear e
  go_enter Try.func57, Try.ntmps57
  go_wp2_with (fail)
  (go_at_call 65; refine HM.out.mono ?_; rintro e w1 ⟨rfl, hb1⟩)
  go_wp2
  go_ret
  exact ⟨rfl, hb1⟩

theorem l4Tones_any (v : Value) (xs : List (Int × Bool)) (l m : Nat) (hl : l ≤ 10) (hm : m ≤ 10) (w : World) (h : LV w v xs) :
    Calls Try.prog 70 #[v, .int .i64 l, .int .i64 m] w fun e w' => e = .returned (.bool (partV xs l m)) ∧ Below w.heap.size w w' := by
  have HM := Lib.hid (sMelodyValid_lv _ xs w h)
  obtain ⟨a, c, rfl, h1, h2⟩ := h.sl
  unfold maxLen at h2
  clear h
  have HP : Hid (partV xs l m = (decide (l ≤ xs.length) && (decide (xs.length ≤ m) && mv xs))) := rfl
  have HI : Hid (∀ w, Calls Try.prog 84 #[.int .i64 (xs.length : Int), .int .i64 l, .int .i64 m] w fun e w' => e = .returned (.bool (decide (l ≤ xs.length) && decide (xs.length ≤ m))) ∧ w = w') := fun w => by
    have := in_any (xs.length : Int) l m w
    rwa [show decide ((l : Int) ≤ (xs.length : Int)) = decide (l ≤ xs.length) by simp, show decide ((xs.length : Int) ≤ (m : Int)) = decide (xs.length ≤ m) by simp] at this
  generalize partV xs l m = r at HP ⊢
  generalize mv xs = y at HM HP
  generalize decide (l ≤ xs.length) = b1 at HP HI
  generalize decide (xs.length ≤ m) = b2 at HP HI
  cases y
  · obtain rfl : r = false := by rw [HP.out]; simp
    go_enter Try.func70, Try.ntmps70
    go_wp2_with (fail)
    (go_at_call 67; refine HM.out.mono ?_; rintro e w1 ⟨rfl, hb1⟩)
    go_wp2
    go_ret
    exact ⟨rfl, hb1⟩
  · obtain rfl : r = (b1 && b2) := by rw [HP.out]; simp
    go_enter Try.func70, Try.ntmps70
    go_wp2_with (fail)
    (go_at_call 67; refine HM.out.mono ?_; rintro e w1 ⟨rfl, hb1⟩)
    go_wp2_with (fail)
    (go_at_call 84; refine (HI.out _).mono ?_; rintro e wx ⟨rfl, rfl⟩)
    go_wp2
    go_ret
    exact ⟨rfl, hb1⟩

set_option maxHeartbeats 1000000 in
theorem psalmValid_any (v : Value) (p : Psa) (w : World) (h : PV w v p) :
    Calls Try.prog 27 #[v] w fun e w' => e = .returned (.bool (pv p)) ∧ Below w.heap.size w w' := by
  obtain ⟨v0, v1, v2, rfl, hs, hm, he⟩ := h
  have KS := Lib.hid (fun W (hb : Below w.heap.size w W) => partValid_any _ p.st 0 3 (by omega) (by omega) W (hs.below hb))
  have KM := Lib.hid (fun W (hb : Below w.heap.size w W) => partValid_any _ p.mi 1 4 (by omega) (by omega) W (hm.below hb))
  have KE := Lib.hid (fun W (hb : Below w.heap.size w W) => partValid_any _ p.en 1 4 (by omega) (by omega) W (he.below hb))
  have KT := Lib.hid (toneValid_any p.tn.1 p.tn.2)
  obtain ⟨a0, c0, rfl, _, _⟩ := hs.sl
  obtain ⟨a1, c1, rfl, _, _⟩ := hm.sl
  obtain ⟨a2, c2, rfl, _, _⟩ := he.sl
  have HP : Hid (pv p = (vd p.tn.1 p.tn.2 && (partV p.st 0 3 && (partV p.mi 1 4 && partV p.en 1 4)))) := rfl
  clear hs hm he
  generalize pv p = r at HP ⊢
  generalize partV p.st 0 3 = x at KS HP
  generalize partV p.mi 1 4 = y at KM HP
  generalize partV p.en 1 4 = z at KE HP
  generalize vd p.tn.1 p.tn.2 = t at KT HP
  generalize p.st.length = n0 at *
  generalize p.mi.length = n1 at *
  generalize p.en.length = n2 at *
  generalize p.tn.1 = s at *
  generalize p.tn.2 = b at *
  cases t
  · obtain rfl : r = false := HP.out
    go_enter Try.func27, Try.ntmps27
    go_wp2_with (fail)
    go_at_call 56; refine (KT.out _).mono ?_; rintro e w1 ⟨rfl, hb1⟩; obtain ⟨hc1, hf1, hz1⟩ := bl hb1; (try simp at hz1); (try (refine got (p := w.heap.size < w1.heap.size) ?_ ?_; (focus (go_size; done)); intro q1_w0)); (try (refine got (p := w1.cell? ⟨w.heap.size, 0, none⟩ = some (.slice a0 n0 c0)) ?_ ?_; (focus (refine (hc1 _ _ ?_).trans ?_; (focus (go_size; done)); go_simp; done)); intro c1_w0_0)); (try (refine got (p := w1.cell? ⟨w.heap.size, 1, none⟩ = some (.int .i64 s)) ?_ ?_; (focus (refine (hc1 _ _ ?_).trans ?_; (focus (go_size; done)); go_simp; done)); intro c1_w0_1)); (try (refine got (p := w1.cell? ⟨w.heap.size, 2, none⟩ = some (.bool b)) ?_ ?_; (focus (refine (hc1 _ _ ?_).trans ?_; (focus (go_size; done)); go_simp; done)); intro c1_w0_2)); (try (refine got (p := w1.cell? ⟨w.heap.size, 3, none⟩ = some (.slice a1 n1 c1)) ?_ ?_; (focus (refine (hc1 _ _ ?_).trans ?_; (focus (go_size; done)); go_simp; done)); intro c1_w0_3)); (try (refine got (p := w1.cell? ⟨w.heap.size, 4, none⟩ = some (.slice a2 n2 c2)) ?_ ?_; (focus (refine (hc1 _ _ ?_).trans ?_; (focus (go_size; done)); go_simp; done)); intro c1_w0_4)); (try (refine got (p := ∀ o, w1.frozen? ⟨w.heap.size, o, none⟩ = false) ?_ ?_; (focus (intro o; refine (hf1 _ _ ?_).trans ?_; (focus (go_size; done)); go_simp; done)); intro f1_w0)); clear hc1 hf1
    go_wp2
    go_ret
    exact ⟨rfl, by (repeat' (first | (with_reducible exact Below.refl _ _) | (with_reducible refine Below.alloc ?_ ?_ _) | (with_reducible refine Below.drew ?_) | (with_reducible refine Below.setCell ?_ ?_ _) | (with_reducible refine bl_step ?_ (by assumption)) | go_size))⟩
  cases x
  · obtain rfl : r = false := HP.out
    go_enter Try.func27, Try.ntmps27
    go_wp2_with (fail)
    go_at_call 56; refine (KT.out _).mono ?_; rintro e w1 ⟨rfl, hb1⟩; obtain ⟨hc1, hf1, hz1⟩ := bl hb1; (try simp at hz1); (try (refine got (p := w.heap.size < w1.heap.size) ?_ ?_; (focus (go_size; done)); intro q1_w0)); (try (refine got (p := w1.cell? ⟨w.heap.size, 0, none⟩ = some (.slice a0 n0 c0)) ?_ ?_; (focus (refine (hc1 _ _ ?_).trans ?_; (focus (go_size; done)); go_simp; done)); intro c1_w0_0)); (try (refine got (p := w1.cell? ⟨w.heap.size, 1, none⟩ = some (.int .i64 s)) ?_ ?_; (focus (refine (hc1 _ _ ?_).trans ?_; (focus (go_size; done)); go_simp; done)); intro c1_w0_1)); (try (refine got (p := w1.cell? ⟨w.heap.size, 2, none⟩ = some (.bool b)) ?_ ?_; (focus (refine (hc1 _ _ ?_).trans ?_; (focus (go_size; done)); go_simp; done)); intro c1_w0_2)); (try (refine got (p := w1.cell? ⟨w.heap.size, 3, none⟩ = some (.slice a1 n1 c1)) ?_ ?_; (focus (refine (hc1 _ _ ?_).trans ?_; (focus (go_size; done)); go_simp; done)); intro c1_w0_3)); (try (refine got (p := w1.cell? ⟨w.heap.size, 4, none⟩ = some (.slice a2 n2 c2)) ?_ ?_; (focus (refine (hc1 _ _ ?_).trans ?_; (focus (go_size; done)); go_simp; done)); intro c1_w0_4)); (try (refine got (p := ∀ o, w1.frozen? ⟨w.heap.size, o, none⟩ = false) ?_ ?_; (focus (intro o; refine (hf1 _ _ ?_).trans ?_; (focus (go_size; done)); go_simp; done)); intro f1_w0)); clear hc1 hf1
    go_wp2_with (fail)
    go_at_call 57; refine (KS.out _ (by (repeat' (first | (with_reducible assumption) | (with_reducible exact Below.refl _ _) | (with_reducible refine Below.alloc ?_ ?_ _) | (with_reducible refine Below.drew ?_) | (with_reducible refine Below.setCell ?_ ?_ _) | (with_reducible refine below_gb ?_ (by assumption) ?_) | (with_reducible refine bl_step ?_ (by assumption)) | go_size)))).mono ?_; rintro e w2 ⟨rfl, hb2⟩; obtain ⟨hc2, hf2, hz2⟩ := bl hb2; (try simp at hz2); (try (refine got (p := w.heap.size < w2.heap.size) ?_ ?_; (focus (go_size; done)); intro q2_w0)); (try (refine got (p := w2.cell? ⟨w.heap.size, 0, none⟩ = some (.slice a0 n0 c0)) ?_ ?_; (focus (refine (hc2 _ _ ?_).trans ?_; (focus (go_size; done)); go_simp; done)); intro c2_w0_0)); (try (refine got (p := w2.cell? ⟨w.heap.size, 1, none⟩ = some (.int .i64 s)) ?_ ?_; (focus (refine (hc2 _ _ ?_).trans ?_; (focus (go_size; done)); go_simp; done)); intro c2_w0_1)); (try (refine got (p := w2.cell? ⟨w.heap.size, 2, none⟩ = some (.bool b)) ?_ ?_; (focus (refine (hc2 _ _ ?_).trans ?_; (focus (go_size; done)); go_simp; done)); intro c2_w0_2)); (try (refine got (p := w2.cell? ⟨w.heap.size, 3, none⟩ = some (.slice a1 n1 c1)) ?_ ?_; (focus (refine (hc2 _ _ ?_).trans ?_; (focus (go_size; done)); go_simp; done)); intro c2_w0_3)); (try (refine got (p := w2.cell? ⟨w.heap.size, 4, none⟩ = some (.slice a2 n2 c2)) ?_ ?_; (focus (refine (hc2 _ _ ?_).trans ?_; (focus (go_size; done)); go_simp; done)); intro c2_w0_4)); (try (refine got (p := ∀ o, w2.frozen? ⟨w.heap.size, o, none⟩ = false) ?_ ?_; (focus (intro o; refine (hf2 _ _ ?_).trans ?_; (focus (go_size; done)); go_simp; done)); intro f2_w0)); clear hc2 hf2
    go_wp2
    go_ret
    exact ⟨rfl, by (repeat' (first | (with_reducible exact Below.refl _ _) | (with_reducible refine Below.alloc ?_ ?_ _) | (with_reducible refine Below.drew ?_) | (with_reducible refine Below.setCell ?_ ?_ _) | (with_reducible refine bl_step ?_ (by assumption)) | go_size))⟩
  cases y
  · obtain rfl : r = false := HP.out
    go_enter Try.func27, Try.ntmps27
    go_wp2_with (fail)
    go_at_call 56; refine (KT.out _).mono ?_; rintro e w1 ⟨rfl, hb1⟩; obtain ⟨hc1, hf1, hz1⟩ := bl hb1; (try simp at hz1); (try (refine got (p := w.heap.size < w1.heap.size) ?_ ?_; (focus (go_size; done)); intro q1_w0)); (try (refine got (p := w1.cell? ⟨w.heap.size, 0, none⟩ = some (.slice a0 n0 c0)) ?_ ?_; (focus (refine (hc1 _ _ ?_).trans ?_; (focus (go_size; done)); go_simp; done)); intro c1_w0_0)); (try (refine got (p := w1.cell? ⟨w.heap.size, 1, none⟩ = some (.int .i64 s)) ?_ ?_; (focus (refine (hc1 _ _ ?_).trans ?_; (focus (go_size; done)); go_simp; done)); intro c1_w0_1)); (try (refine got (p := w1.cell? ⟨w.heap.size, 2, none⟩ = some (.bool b)) ?_ ?_; (focus (refine (hc1 _ _ ?_).trans ?_; (focus (go_size; done)); go_simp; done)); intro c1_w0_2)); (try (refine got (p := w1.cell? ⟨w.heap.size, 3, none⟩ = some (.slice a1 n1 c1)) ?_ ?_; (focus (refine (hc1 _ _ ?_).trans ?_; (focus (go_size; done)); go_simp; done)); intro c1_w0_3)); (try (refine got (p := w1.cell? ⟨w.heap.size, 4, none⟩ = some (.slice a2 n2 c2)) ?_ ?_; (focus (refine (hc1 _ _ ?_).trans ?_; (focus (go_size; done)); go_simp; done)); intro c1_w0_4)); (try (refine got (p := ∀ o, w1.frozen? ⟨w.heap.size, o, none⟩ = false) ?_ ?_; (focus (intro o; refine (hf1 _ _ ?_).trans ?_; (focus (go_size; done)); go_simp; done)); intro f1_w0)); clear hc1 hf1
    go_wp2_with (fail)
    go_at_call 57; refine (KS.out _ (by (repeat' (first | (with_reducible assumption) | (with_reducible exact Below.refl _ _) | (with_reducible refine Below.alloc ?_ ?_ _) | (with_reducible refine Below.drew ?_) | (with_reducible refine Below.setCell ?_ ?_ _) | (with_reducible refine below_gb ?_ (by assumption) ?_) | (with_reducible refine bl_step ?_ (by assumption)) | go_size)))).mono ?_; rintro e w2 ⟨rfl, hb2⟩; obtain ⟨hc2, hf2, hz2⟩ := bl hb2; (try simp at hz2); (try (refine got (p := w.heap.size < w2.heap.size) ?_ ?_; (focus (go_size; done)); intro q2_w0)); (try (refine got (p := w2.cell? ⟨w.heap.size, 0, none⟩ = some (.slice a0 n0 c0)) ?_ ?_; (focus (refine (hc2 _ _ ?_).trans ?_; (focus (go_size; done)); go_simp; done)); intro c2_w0_0)); (try (refine got (p := w2.cell? ⟨w.heap.size, 1, none⟩ = some (.int .i64 s)) ?_ ?_; (focus (refine (hc2 _ _ ?_).trans ?_; (focus (go_size; done)); go_simp; done)); intro c2_w0_1)); (try (refine got (p := w2.cell? ⟨w.heap.size, 2, none⟩ = some (.bool b)) ?_ ?_; (focus (refine (hc2 _ _ ?_).trans ?_; (focus (go_size; done)); go_simp; done)); intro c2_w0_2)); (try (refine got (p := w2.cell? ⟨w.heap.size, 3, none⟩ = some (.slice a1 n1 c1)) ?_ ?_; (focus (refine (hc2 _ _ ?_).trans ?_; (focus (go_size; done)); go_simp; done)); intro c2_w0_3)); (try (refine got (p := w2.cell? ⟨w.heap.size, 4, none⟩ = some (.slice a2 n2 c2)) ?_ ?_; (focus (refine (hc2 _ _ ?_).trans ?_; (focus (go_size; done)); go_simp; done)); intro c2_w0_4)); (try (refine got (p := ∀ o, w2.frozen? ⟨w.heap.size, o, none⟩ = false) ?_ ?_; (focus (intro o; refine (hf2 _ _ ?_).trans ?_; (focus (go_size; done)); go_simp; done)); intro f2_w0)); clear hc2 hf2
    go_wp2_with (fail)
    go_at_call 57; refine (KM.out _ (by (repeat' (first | (with_reducible assumption) | (with_reducible exact Below.refl _ _) | (with_reducible refine Below.alloc ?_ ?_ _) | (with_reducible refine Below.drew ?_) | (with_reducible refine Below.setCell ?_ ?_ _) | (with_reducible refine below_gb ?_ (by assumption) ?_) | (with_reducible refine bl_step ?_ (by assumption)) | go_size)))).mono ?_; rintro e w3 ⟨rfl, hb3⟩; obtain ⟨hc3, hf3, hz3⟩ := bl hb3; (try simp at hz3); (try (refine got (p := w.heap.size < w3.heap.size) ?_ ?_; (focus (go_size; done)); intro q3_w0)); (try (refine got (p := w3.cell? ⟨w.heap.size, 0, none⟩ = some (.slice a0 n0 c0)) ?_ ?_; (focus (refine (hc3 _ _ ?_).trans ?_; (focus (go_size; done)); go_simp; done)); intro c3_w0_0)); (try (refine got (p := w3.cell? ⟨w.heap.size, 1, none⟩ = some (.int .i64 s)) ?_ ?_; (focus (refine (hc3 _ _ ?_).trans ?_; (focus (go_size; done)); go_simp; done)); intro c3_w0_1)); (try (refine got (p := w3.cell? ⟨w.heap.size, 2, none⟩ = some (.bool b)) ?_ ?_; (focus (refine (hc3 _ _ ?_).trans ?_; (focus (go_size; done)); go_simp; done)); intro c3_w0_2)); (try (refine got (p := w3.cell? ⟨w.heap.size, 3, none⟩ = some (.slice a1 n1 c1)) ?_ ?_; (focus (refine (hc3 _ _ ?_).trans ?_; (focus (go_size; done)); go_simp; done)); intro c3_w0_3)); (try (refine got (p := w3.cell? ⟨w.heap.size, 4, none⟩ = some (.slice a2 n2 c2)) ?_ ?_; (focus (refine (hc3 _ _ ?_).trans ?_; (focus (go_size; done)); go_simp; done)); intro c3_w0_4)); (try (refine got (p := ∀ o, w3.frozen? ⟨w.heap.size, o, none⟩ = false) ?_ ?_; (focus (intro o; refine (hf3 _ _ ?_).trans ?_; (focus (go_size; done)); go_simp; done)); intro f3_w0)); clear hc3 hf3
    go_wp2
    go_ret
    exact ⟨rfl, by (repeat' (first | (with_reducible exact Below.refl _ _) | (with_reducible refine Below.alloc ?_ ?_ _) | (with_reducible refine Below.drew ?_) | (with_reducible refine Below.setCell ?_ ?_ _) | (with_reducible refine bl_step ?_ (by assumption)) | go_size))⟩
  · obtain rfl : r = z := HP.out
    go_enter Try.func27, Try.ntmps27
    go_wp2_with (fail)
    go_at_call 56; refine (KT.out _).mono ?_; rintro e w1 ⟨rfl, hb1⟩; obtain ⟨hc1, hf1, hz1⟩ := bl hb1; (try simp at hz1); (try (refine got (p := w.heap.size < w1.heap.size) ?_ ?_; (focus (go_size; done)); intro q1_w0)); (try (refine got (p := w1.cell? ⟨w.heap.size, 0, none⟩ = some (.slice a0 n0 c0)) ?_ ?_; (focus (refine (hc1 _ _ ?_).trans ?_; (focus (go_size; done)); go_simp; done)); intro c1_w0_0)); (try (refine got (p := w1.cell? ⟨w.heap.size, 1, none⟩ = some (.int .i64 s)) ?_ ?_; (focus (refine (hc1 _ _ ?_).trans ?_; (focus (go_size; done)); go_simp; done)); intro c1_w0_1)); (try (refine got (p := w1.cell? ⟨w.heap.size, 2, none⟩ = some (.bool b)) ?_ ?_; (focus (refine (hc1 _ _ ?_).trans ?_; (focus (go_size; done)); go_simp; done)); intro c1_w0_2)); (try (refine got (p := w1.cell? ⟨w.heap.size, 3, none⟩ = some (.slice a1 n1 c1)) ?_ ?_; (focus (refine (hc1 _ _ ?_).trans ?_; (focus (go_size; done)); go_simp; done)); intro c1_w0_3)); (try (refine got (p := w1.cell? ⟨w.heap.size, 4, none⟩ = some (.slice a2 n2 c2)) ?_ ?_; (focus (refine (hc1 _ _ ?_).trans ?_; (focus (go_size; done)); go_simp; done)); intro c1_w0_4)); (try (refine got (p := ∀ o, w1.frozen? ⟨w.heap.size, o, none⟩ = false) ?_ ?_; (focus (intro o; refine (hf1 _ _ ?_).trans ?_; (focus (go_size; done)); go_simp; done)); intro f1_w0)); clear hc1 hf1
    go_wp2_with (fail)
    go_at_call 57; refine (KS.out _ (by (repeat' (first | (with_reducible assumption) | (with_reducible exact Below.refl _ _) | (with_reducible refine Below.alloc ?_ ?_ _) | (with_reducible refine Below.drew ?_) | (with_reducible refine Below.setCell ?_ ?_ _) | (with_reducible refine below_gb ?_ (by assumption) ?_) | (with_reducible refine bl_step ?_ (by assumption)) | go_size)))).mono ?_; rintro e w2 ⟨rfl, hb2⟩; obtain ⟨hc2, hf2, hz2⟩ := bl hb2; (try simp at hz2); (try (refine got (p := w.heap.size < w2.heap.size) ?_ ?_; (focus (go_size; done)); intro q2_w0)); (try (refine got (p := w2.cell? ⟨w.heap.size, 0, none⟩ = some (.slice a0 n0 c0)) ?_ ?_; (focus (refine (hc2 _ _ ?_).trans ?_; (focus (go_size; done)); go_simp; done)); intro c2_w0_0)); (try (refine got (p := w2.cell? ⟨w.heap.size, 1, none⟩ = some (.int .i64 s)) ?_ ?_; (focus (refine (hc2 _ _ ?_).trans ?_; (focus (go_size; done)); go_simp; done)); intro c2_w0_1)); (try (refine got (p := w2.cell? ⟨w.heap.size, 2, none⟩ = some (.bool b)) ?_ ?_; (focus (refine (hc2 _ _ ?_).trans ?_; (focus (go_size; done)); go_simp; done)); intro c2_w0_2)); (try (refine got (p := w2.cell? ⟨w.heap.size, 3, none⟩ = some (.slice a1 n1 c1)) ?_ ?_; (focus (refine (hc2 _ _ ?_).trans ?_; (focus (go_size; done)); go_simp; done)); intro c2_w0_3)); (try (refine got (p := w2.cell? ⟨w.heap.size, 4, none⟩ = some (.slice a2 n2 c2)) ?_ ?_; (focus (refine (hc2 _ _ ?_).trans ?_; (focus (go_size; done)); go_simp; done)); intro c2_w0_4)); (try (refine got (p := ∀ o, w2.frozen? ⟨w.heap.size, o, none⟩ = false) ?_ ?_; (focus (intro o; refine (hf2 _ _ ?_).trans ?_; (focus (go_size; done)); go_simp; done)); intro f2_w0)); clear hc2 hf2
    go_wp2_with (fail)
    go_at_call 57; refine (KM.out _ (by (repeat' (first | (with_reducible assumption) | (with_reducible exact Below.refl _ _) | (with_reducible refine Below.alloc ?_ ?_ _) | (with_reducible refine Below.drew ?_) | (with_reducible refine Below.setCell ?_ ?_ _) | (with_reducible refine below_gb ?_ (by assumption) ?_) | (with_reducible refine bl_step ?_ (by assumption)) | go_size)))).mono ?_; rintro e w3 ⟨rfl, hb3⟩; obtain ⟨hc3, hf3, hz3⟩ := bl hb3; (try simp at hz3); (try (refine got (p := w.heap.size < w3.heap.size) ?_ ?_; (focus (go_size; done)); intro q3_w0)); (try (refine got (p := w3.cell? ⟨w.heap.size, 0, none⟩ = some (.slice a0 n0 c0)) ?_ ?_; (focus (refine (hc3 _ _ ?_).trans ?_; (focus (go_size; done)); go_simp; done)); intro c3_w0_0)); (try (refine got (p := w3.cell? ⟨w.heap.size, 1, none⟩ = some (.int .i64 s)) ?_ ?_; (focus (refine (hc3 _ _ ?_).trans ?_; (focus (go_size; done)); go_simp; done)); intro c3_w0_1)); (try (refine got (p := w3.cell? ⟨w.heap.size, 2, none⟩ = some (.bool b)) ?_ ?_; (focus (refine (hc3 _ _ ?_).trans ?_; (focus (go_size; done)); go_simp; done)); intro c3_w0_2)); (try (refine got (p := w3.cell? ⟨w.heap.size, 3, none⟩ = some (.slice a1 n1 c1)) ?_ ?_; (focus (refine (hc3 _ _ ?_).trans ?_; (focus (go_size; done)); go_simp; done)); intro c3_w0_3)); (try (refine got (p := w3.cell? ⟨w.heap.size, 4, none⟩ = some (.slice a2 n2 c2)) ?_ ?_; (focus (refine (hc3 _ _ ?_).trans ?_; (focus (go_size; done)); go_simp; done)); intro c3_w0_4)); (try (refine got (p := ∀ o, w3.frozen? ⟨w.heap.size, o, none⟩ = false) ?_ ?_; (focus (intro o; refine (hf3 _ _ ?_).trans ?_; (focus (go_size; done)); go_simp; done)); intro f3_w0)); clear hc3 hf3
    go_wp2_with (fail)
    go_at_call 57; refine (KE.out _ (by (repeat' (first | (with_reducible assumption) | (with_reducible exact Below.refl _ _) | (with_reducible refine Below.alloc ?_ ?_ _) | (with_reducible refine Below.drew ?_) | (with_reducible refine Below.setCell ?_ ?_ _) | (with_reducible refine below_gb ?_ (by assumption) ?_) | (with_reducible refine bl_step ?_ (by assumption)) | go_size)))).mono ?_; rintro e w4 ⟨rfl, hb4⟩; obtain ⟨hc4, hf4, hz4⟩ := bl hb4; (try simp at hz4); (try (refine got (p := w.heap.size < w4.heap.size) ?_ ?_; (focus (go_size; done)); intro q4_w0)); (try (refine got (p := w4.cell? ⟨w.heap.size, 0, none⟩ = some (.slice a0 n0 c0)) ?_ ?_; (focus (refine (hc4 _ _ ?_).trans ?_; (focus (go_size; done)); go_simp; done)); intro c4_w0_0)); (try (refine got (p := w4.cell? ⟨w.heap.size, 1, none⟩ = some (.int .i64 s)) ?_ ?_; (focus (refine (hc4 _ _ ?_).trans ?_; (focus (go_size; done)); go_simp; done)); intro c4_w0_1)); (try (refine got (p := w4.cell? ⟨w.heap.size, 2, none⟩ = some (.bool b)) ?_ ?_; (focus (refine (hc4 _ _ ?_).trans ?_; (focus (go_size; done)); go_simp; done)); intro c4_w0_2)); (try (refine got (p := w4.cell? ⟨w.heap.size, 3, none⟩ = some (.slice a1 n1 c1)) ?_ ?_; (focus (refine (hc4 _ _ ?_).trans ?_; (focus (go_size; done)); go_simp; done)); intro c4_w0_3)); (try (refine got (p := w4.cell? ⟨w.heap.size, 4, none⟩ = some (.slice a2 n2 c2)) ?_ ?_; (focus (refine (hc4 _ _ ?_).trans ?_; (focus (go_size; done)); go_simp; done)); intro c4_w0_4)); (try (refine got (p := ∀ o, w4.frozen? ⟨w.heap.size, o, none⟩ = false) ?_ ?_; (focus (intro o; refine (hf4 _ _ ?_).trans ?_; (focus (go_size; done)); go_simp; done)); intro f4_w0)); clear hc4 hf4
    go_wp2
    go_ret
    exact ⟨rfl, by (repeat' (first | (with_reducible exact Below.refl _ _) | (with_reducible refine Below.alloc ?_ ?_ _) | (with_reducible refine Below.drew ?_) | (with_reducible refine Below.setCell ?_ ?_ _) | (with_reducible refine bl_step ?_ (by assumption)) | go_size))⟩

set_option maxHeartbeats 1000000 in
theorem sPsalmValid_any (v : Value) (p : Psa) (w : World) (h : PV w v p) :
    Calls Try.prog 39 #[v] w fun e w' => e = .returned (.bool (pv p)) ∧ Below w.heap.size w w' := by
  obtain ⟨v0, v1, v2, rfl, hs, hm, he⟩ := h
  have KS := Lib.hid (fun W (hb : Below w.heap.size w W) => l4Tones_any _ p.st 0 3 (by omega) (by omega) W (hs.below hb))
  have KM := Lib.hid (fun W (hb : Below w.heap.size w W) => l4Tones_any _ p.mi 1 4 (by omega) (by omega) W (hm.below hb))
  have KE := Lib.hid (fun W (hb : Below w.heap.size w W) => l4Tones_any _ p.en 1 4 (by omega) (by omega) W (he.below hb))
  have KT := Lib.hid (sToneValid_any p.tn.1 p.tn.2)
  obtain ⟨a0, c0, rfl, _, _⟩ := hs.sl
  obtain ⟨a1, c1, rfl, _, _⟩ := hm.sl
  obtain ⟨a2, c2, rfl, _, _⟩ := he.sl
  have HP : Hid (pv p = (partV p.st 0 3 && (vd p.tn.1 p.tn.2 && (partV p.mi 1 4 && partV p.en 1 4)))) := by
    show _ = _
    unfold pv
    cases vd p.tn.1 p.tn.2 <;> cases partV p.st 0 3 <;> rfl
  clear hs hm he
  generalize pv p = r at HP ⊢
  generalize partV p.st 0 3 = x at KS HP
  generalize partV p.mi 1 4 = y at KM HP
  generalize partV p.en 1 4 = z at KE HP
  generalize vd p.tn.1 p.tn.2 = t at KT HP
  generalize p.st.length = n0 at *
  generalize p.mi.length = n1 at *
  generalize p.en.length = n2 at *
  generalize p.tn.1 = s at *
  generalize p.tn.2 = b at *
  cases x
  · obtain rfl : r = false := HP.out
    go_enter Try.func39, Try.ntmps39
    go_wp2_with (fail)
    go_at_call 70; refine (KS.out _ (by (repeat' (first | (with_reducible assumption) | (with_reducible exact Below.refl _ _) | (with_reducible refine Below.alloc ?_ ?_ _) | (with_reducible refine Below.drew ?_) | (with_reducible refine Below.setCell ?_ ?_ _) | (with_reducible refine below_gb ?_ (by assumption) ?_) | (with_reducible refine bl_step ?_ (by assumption)) | go_size)))).mono ?_; rintro e w1 ⟨rfl, hb1⟩; obtain ⟨hc1, hf1, hz1⟩ := bl hb1; (try simp at hz1); (try (refine got (p := w.heap.size < w1.heap.size) ?_ ?_; (focus (go_size; done)); intro q1_w0)); (try (refine got (p := w1.cell? ⟨w.heap.size, 0, none⟩ = some (.slice a0 n0 c0)) ?_ ?_; (focus (refine (hc1 _ _ ?_).trans ?_; (focus (go_size; done)); go_simp; done)); intro c1_w0_0)); (try (refine got (p := w1.cell? ⟨w.heap.size, 1, none⟩ = some (.int .i64 s)) ?_ ?_; (focus (refine (hc1 _ _ ?_).trans ?_; (focus (go_size; done)); go_simp; done)); intro c1_w0_1)); (try (refine got (p := w1.cell? ⟨w.heap.size, 2, none⟩ = some (.bool b)) ?_ ?_; (focus (refine (hc1 _ _ ?_).trans ?_; (focus (go_size; done)); go_simp; done)); intro c1_w0_2)); (try (refine got (p := w1.cell? ⟨w.heap.size, 3, none⟩ = some (.slice a1 n1 c1)) ?_ ?_; (focus (refine (hc1 _ _ ?_).trans ?_; (focus (go_size; done)); go_simp; done)); intro c1_w0_3)); (try (refine got (p := w1.cell? ⟨w.heap.size, 4, none⟩ = some (.slice a2 n2 c2)) ?_ ?_; (focus (refine (hc1 _ _ ?_).trans ?_; (focus (go_size; done)); go_simp; done)); intro c1_w0_4)); (try (refine got (p := ∀ o, w1.frozen? ⟨w.heap.size, o, none⟩ = false) ?_ ?_; (focus (intro o; refine (hf1 _ _ ?_).trans ?_; (focus (go_size; done)); go_simp; done)); intro f1_w0)); clear hc1 hf1
    go_wp2
    go_ret
    exact ⟨rfl, by (repeat' (first | (with_reducible exact Below.refl _ _) | (with_reducible refine Below.alloc ?_ ?_ _) | (with_reducible refine Below.drew ?_) | (with_reducible refine Below.setCell ?_ ?_ _) | (with_reducible refine bl_step ?_ (by assumption)) | go_size))⟩
  cases t
  · obtain rfl : r = false := HP.out
    go_enter Try.func39, Try.ntmps39
    go_wp2_with (fail)
    go_at_call 70; refine (KS.out _ (by (repeat' (first | (with_reducible assumption) | (with_reducible exact Below.refl _ _) | (with_reducible refine Below.alloc ?_ ?_ _) | (with_reducible refine Below.drew ?_) | (with_reducible refine Below.setCell ?_ ?_ _) | (with_reducible refine below_gb ?_ (by assumption) ?_) | (with_reducible refine bl_step ?_ (by assumption)) | go_size)))).mono ?_; rintro e w1 ⟨rfl, hb1⟩; obtain ⟨hc1, hf1, hz1⟩ := bl hb1; (try simp at hz1); (try (refine got (p := w.heap.size < w1.heap.size) ?_ ?_; (focus (go_size; done)); intro q1_w0)); (try (refine got (p := w1.cell? ⟨w.heap.size, 0, none⟩ = some (.slice a0 n0 c0)) ?_ ?_; (focus (refine (hc1 _ _ ?_).trans ?_; (focus (go_size; done)); go_simp; done)); intro c1_w0_0)); (try (refine got (p := w1.cell? ⟨w.heap.size, 1, none⟩ = some (.int .i64 s)) ?_ ?_; (focus (refine (hc1 _ _ ?_).trans ?_; (focus (go_size; done)); go_simp; done)); intro c1_w0_1)); (try (refine got (p := w1.cell? ⟨w.heap.size, 2, none⟩ = some (.bool b)) ?_ ?_; (focus (refine (hc1 _ _ ?_).trans ?_; (focus (go_size; done)); go_simp; done)); intro c1_w0_2)); (try (refine got (p := w1.cell? ⟨w.heap.size, 3, none⟩ = some (.slice a1 n1 c1)) ?_ ?_; (focus (refine (hc1 _ _ ?_).trans ?_; (focus (go_size; done)); go_simp; done)); intro c1_w0_3)); (try (refine got (p := w1.cell? ⟨w.heap.size, 4, none⟩ = some (.slice a2 n2 c2)) ?_ ?_; (focus (refine (hc1 _ _ ?_).trans ?_; (focus (go_size; done)); go_simp; done)); intro c1_w0_4)); (try (refine got (p := ∀ o, w1.frozen? ⟨w.heap.size, o, none⟩ = false) ?_ ?_; (focus (intro o; refine (hf1 _ _ ?_).trans ?_; (focus (go_size; done)); go_simp; done)); intro f1_w0)); clear hc1 hf1
    go_wp2_with (fail)
    go_at_call 71; refine (KT.out _).mono ?_; rintro e w2 ⟨rfl, hb2⟩; obtain ⟨hc2, hf2, hz2⟩ := bl hb2; (try simp at hz2); (try (refine got (p := w.heap.size < w2.heap.size) ?_ ?_; (focus (go_size; done)); intro q2_w0)); (try (refine got (p := w2.cell? ⟨w.heap.size, 0, none⟩ = some (.slice a0 n0 c0)) ?_ ?_; (focus (refine (hc2 _ _ ?_).trans ?_; (focus (go_size; done)); go_simp; done)); intro c2_w0_0)); (try (refine got (p := w2.cell? ⟨w.heap.size, 1, none⟩ = some (.int .i64 s)) ?_ ?_; (focus (refine (hc2 _ _ ?_).trans ?_; (focus (go_size; done)); go_simp; done)); intro c2_w0_1)); (try (refine got (p := w2.cell? ⟨w.heap.size, 2, none⟩ = some (.bool b)) ?_ ?_; (focus (refine (hc2 _ _ ?_).trans ?_; (focus (go_size; done)); go_simp; done)); intro c2_w0_2)); (try (refine got (p := w2.cell? ⟨w.heap.size, 3, none⟩ = some (.slice a1 n1 c1)) ?_ ?_; (focus (refine (hc2 _ _ ?_).trans ?_; (focus (go_size; done)); go_simp; done)); intro c2_w0_3)); (try (refine got (p := w2.cell? ⟨w.heap.size, 4, none⟩ = some (.slice a2 n2 c2)) ?_ ?_; (focus (refine (hc2 _ _ ?_).trans ?_; (focus (go_size; done)); go_simp; done)); intro c2_w0_4)); (try (refine got (p := ∀ o, w2.frozen? ⟨w.heap.size, o, none⟩ = false) ?_ ?_; (focus (intro o; refine (hf2 _ _ ?_).trans ?_; (focus (go_size; done)); go_simp; done)); intro f2_w0)); clear hc2 hf2
    go_wp2
    go_ret
    exact ⟨rfl, by (repeat' (first | (with_reducible exact Below.refl _ _) | (with_reducible refine Below.alloc ?_ ?_ _) | (with_reducible refine Below.drew ?_) | (with_reducible refine Below.setCell ?_ ?_ _) | (with_reducible refine bl_step ?_ (by assumption)) | go_size))⟩
  cases y
  · obtain rfl : r = false := HP.out
    go_enter Try.func39, Try.ntmps39
    go_wp2_with (fail)
    go_at_call 70; refine (KS.out _ (by (repeat' (first | (with_reducible assumption) | (with_reducible exact Below.refl _ _) | (with_reducible refine Below.alloc ?_ ?_ _) | (with_reducible refine Below.drew ?_) | (with_reducible refine Below.setCell ?_ ?_ _) | (with_reducible refine below_gb ?_ (by assumption) ?_) | (with_reducible refine bl_step ?_ (by assumption)) | go_size)))).mono ?_; rintro e w1 ⟨rfl, hb1⟩; obtain ⟨hc1, hf1, hz1⟩ := bl hb1; (try simp at hz1); (try (refine got (p := w.heap.size < w1.heap.size) ?_ ?_; (focus (go_size; done)); intro q1_w0)); (try (refine got (p := w1.cell? ⟨w.heap.size, 0, none⟩ = some (.slice a0 n0 c0)) ?_ ?_; (focus (refine (hc1 _ _ ?_).trans ?_; (focus (go_size; done)); go_simp; done)); intro c1_w0_0)); (try (refine got (p := w1.cell? ⟨w.heap.size, 1, none⟩ = some (.int .i64 s)) ?_ ?_; (focus (refine (hc1 _ _ ?_).trans ?_; (focus (go_size; done)); go_simp; done)); intro c1_w0_1)); (try (refine got (p := w1.cell? ⟨w.heap.size, 2, none⟩ = some (.bool b)) ?_ ?_; (focus (refine (hc1 _ _ ?_).trans ?_; (focus (go_size; done)); go_simp; done)); intro c1_w0_2)); (try (refine got (p := w1.cell? ⟨w.heap.size, 3, none⟩ = some (.slice a1 n1 c1)) ?_ ?_; (focus (refine (hc1 _ _ ?_).trans ?_; (focus (go_size; done)); go_simp; done)); intro c1_w0_3)); (try (refine got (p := w1.cell? ⟨w.heap.size, 4, none⟩ = some (.slice a2 n2 c2)) ?_ ?_; (focus (refine (hc1 _ _ ?_).trans ?_; (focus (go_size; done)); go_simp; done)); intro c1_w0_4)); (try (refine got (p := ∀ o, w1.frozen? ⟨w.heap.size, o, none⟩ = false) ?_ ?_; (focus (intro o; refine (hf1 _ _ ?_).trans ?_; (focus (go_size; done)); go_simp; done)); intro f1_w0)); clear hc1 hf1
    go_wp2_with (fail)
    go_at_call 71; refine (KT.out _).mono ?_; rintro e w2 ⟨rfl, hb2⟩; obtain ⟨hc2, hf2, hz2⟩ := bl hb2; (try simp at hz2); (try (refine got (p := w.heap.size < w2.heap.size) ?_ ?_; (focus (go_size; done)); intro q2_w0)); (try (refine got (p := w2.cell? ⟨w.heap.size, 0, none⟩ = some (.slice a0 n0 c0)) ?_ ?_; (focus (refine (hc2 _ _ ?_).trans ?_; (focus (go_size; done)); go_simp; done)); intro c2_w0_0)); (try (refine got (p := w2.cell? ⟨w.heap.size, 1, none⟩ = some (.int .i64 s)) ?_ ?_; (focus (refine (hc2 _ _ ?_).trans ?_; (focus (go_size; done)); go_simp; done)); intro c2_w0_1)); (try (refine got (p := w2.cell? ⟨w.heap.size, 2, none⟩ = some (.bool b)) ?_ ?_; (focus (refine (hc2 _ _ ?_).trans ?_; (focus (go_size; done)); go_simp; done)); intro c2_w0_2)); (try (refine got (p := w2.cell? ⟨w.heap.size, 3, none⟩ = some (.slice a1 n1 c1)) ?_ ?_; (focus (refine (hc2 _ _ ?_).trans ?_; (focus (go_size; done)); go_simp; done)); intro c2_w0_3)); (try (refine got (p := w2.cell? ⟨w.heap.size, 4, none⟩ = some (.slice a2 n2 c2)) ?_ ?_; (focus (refine (hc2 _ _ ?_).trans ?_; (focus (go_size; done)); go_simp; done)); intro c2_w0_4)); (try (refine got (p := ∀ o, w2.frozen? ⟨w.heap.size, o, none⟩ = false) ?_ ?_; (focus (intro o; refine (hf2 _ _ ?_).trans ?_; (focus (go_size; done)); go_simp; done)); intro f2_w0)); clear hc2 hf2
    go_wp2_with (fail)
    go_at_call 70; refine (KM.out _ (by (repeat' (first | (with_reducible assumption) | (with_reducible exact Below.refl _ _) | (with_reducible refine Below.alloc ?_ ?_ _) | (with_reducible refine Below.drew ?_) | (with_reducible refine Below.setCell ?_ ?_ _) | (with_reducible refine below_gb ?_ (by assumption) ?_) | (with_reducible refine bl_step ?_ (by assumption)) | go_size)))).mono ?_; rintro e w3 ⟨rfl, hb3⟩; obtain ⟨hc3, hf3, hz3⟩ := bl hb3; (try simp at hz3); (try (refine got (p := w.heap.size < w3.heap.size) ?_ ?_; (focus (go_size; done)); intro q3_w0)); (try (refine got (p := w3.cell? ⟨w.heap.size, 0, none⟩ = some (.slice a0 n0 c0)) ?_ ?_; (focus (refine (hc3 _ _ ?_).trans ?_; (focus (go_size; done)); go_simp; done)); intro c3_w0_0)); (try (refine got (p := w3.cell? ⟨w.heap.size, 1, none⟩ = some (.int .i64 s)) ?_ ?_; (focus (refine (hc3 _ _ ?_).trans ?_; (focus (go_size; done)); go_simp; done)); intro c3_w0_1)); (try (refine got (p := w3.cell? ⟨w.heap.size, 2, none⟩ = some (.bool b)) ?_ ?_; (focus (refine (hc3 _ _ ?_).trans ?_; (focus (go_size; done)); go_simp; done)); intro c3_w0_2)); (try (refine got (p := w3.cell? ⟨w.heap.size, 3, none⟩ = some (.slice a1 n1 c1)) ?_ ?_; (focus (refine (hc3 _ _ ?_).trans ?_; (focus (go_size; done)); go_simp; done)); intro c3_w0_3)); (try (refine got (p := w3.cell? ⟨w.heap.size, 4, none⟩ = some (.slice a2 n2 c2)) ?_ ?_; (focus (refine (hc3 _ _ ?_).trans ?_; (focus (go_size; done)); go_simp; done)); intro c3_w0_4)); (try (refine got (p := ∀ o, w3.frozen? ⟨w.heap.size, o, none⟩ = false) ?_ ?_; (focus (intro o; refine (hf3 _ _ ?_).trans ?_; (focus (go_size; done)); go_simp; done)); intro f3_w0)); clear hc3 hf3
    go_wp2
    go_ret
    exact ⟨rfl, by (repeat' (first | (with_reducible exact Below.refl _ _) | (with_reducible refine Below.alloc ?_ ?_ _) | (with_reducible refine Below.drew ?_) | (with_reducible refine Below.setCell ?_ ?_ _) | (with_reducible refine bl_step ?_ (by assumption)) | go_size))⟩
  · obtain rfl : r = z := HP.out
    go_enter Try.func39, Try.ntmps39
    go_wp2_with (fail)
    go_at_call 70; refine (KS.out _ (by (repeat' (first | (with_reducible assumption) | (with_reducible exact Below.refl _ _) | (with_reducible refine Below.alloc ?_ ?_ _) | (with_reducible refine Below.drew ?_) | (with_reducible refine Below.setCell ?_ ?_ _) | (with_reducible refine below_gb ?_ (by assumption) ?_) | (with_reducible refine bl_step ?_ (by assumption)) | go_size)))).mono ?_; rintro e w1 ⟨rfl, hb1⟩; obtain ⟨hc1, hf1, hz1⟩ := bl hb1; (try simp at hz1); (try (refine got (p := w.heap.size < w1.heap.size) ?_ ?_; (focus (go_size; done)); intro q1_w0)); (try (refine got (p := w1.cell? ⟨w.heap.size, 0, none⟩ = some (.slice a0 n0 c0)) ?_ ?_; (focus (refine (hc1 _ _ ?_).trans ?_; (focus (go_size; done)); go_simp; done)); intro c1_w0_0)); (try (refine got (p := w1.cell? ⟨w.heap.size, 1, none⟩ = some (.int .i64 s)) ?_ ?_; (focus (refine (hc1 _ _ ?_).trans ?_; (focus (go_size; done)); go_simp; done)); intro c1_w0_1)); (try (refine got (p := w1.cell? ⟨w.heap.size, 2, none⟩ = some (.bool b)) ?_ ?_; (focus (refine (hc1 _ _ ?_).trans ?_; (focus (go_size; done)); go_simp; done)); intro c1_w0_2)); (try (refine got (p := w1.cell? ⟨w.heap.size, 3, none⟩ = some (.slice a1 n1 c1)) ?_ ?_; (focus (refine (hc1 _ _ ?_).trans ?_; (focus (go_size; done)); go_simp; done)); intro c1_w0_3)); (try (refine got (p := w1.cell? ⟨w.heap.size, 4, none⟩ = some (.slice a2 n2 c2)) ?_ ?_; (focus (refine (hc1 _ _ ?_).trans ?_; (focus (go_size; done)); go_simp; done)); intro c1_w0_4)); (try (refine got (p := ∀ o, w1.frozen? ⟨w.heap.size, o, none⟩ = false) ?_ ?_; (focus (intro o; refine (hf1 _ _ ?_).trans ?_; (focus (go_size; done)); go_simp; done)); intro f1_w0)); clear hc1 hf1
    go_wp2_with (fail)
    go_at_call 71; refine (KT.out _).mono ?_; rintro e w2 ⟨rfl, hb2⟩; obtain ⟨hc2, hf2, hz2⟩ := bl hb2; (try simp at hz2); (try (refine got (p := w.heap.size < w2.heap.size) ?_ ?_; (focus (go_size; done)); intro q2_w0)); (try (refine got (p := w2.cell? ⟨w.heap.size, 0, none⟩ = some (.slice a0 n0 c0)) ?_ ?_; (focus (refine (hc2 _ _ ?_).trans ?_; (focus (go_size; done)); go_simp; done)); intro c2_w0_0)); (try (refine got (p := w2.cell? ⟨w.heap.size, 1, none⟩ = some (.int .i64 s)) ?_ ?_; (focus (refine (hc2 _ _ ?_).trans ?_; (focus (go_size; done)); go_simp; done)); intro c2_w0_1)); (try (refine got (p := w2.cell? ⟨w.heap.size, 2, none⟩ = some (.bool b)) ?_ ?_; (focus (refine (hc2 _ _ ?_).trans ?_; (focus (go_size; done)); go_simp; done)); intro c2_w0_2)); (try (refine got (p := w2.cell? ⟨w.heap.size, 3, none⟩ = some (.slice a1 n1 c1)) ?_ ?_; (focus (refine (hc2 _ _ ?_).trans ?_; (focus (go_size; done)); go_simp; done)); intro c2_w0_3)); (try (refine got (p := w2.cell? ⟨w.heap.size, 4, none⟩ = some (.slice a2 n2 c2)) ?_ ?_; (focus (refine (hc2 _ _ ?_).trans ?_; (focus (go_size; done)); go_simp; done)); intro c2_w0_4)); (try (refine got (p := ∀ o, w2.frozen? ⟨w.heap.size, o, none⟩ = false) ?_ ?_; (focus (intro o; refine (hf2 _ _ ?_).trans ?_; (focus (go_size; done)); go_simp; done)); intro f2_w0)); clear hc2 hf2
    go_wp2_with (fail)
    go_at_call 70; refine (KM.out _ (by (repeat' (first | (with_reducible assumption) | (with_reducible exact Below.refl _ _) | (with_reducible refine Below.alloc ?_ ?_ _) | (with_reducible refine Below.drew ?_) | (with_reducible refine Below.setCell ?_ ?_ _) | (with_reducible refine below_gb ?_ (by assumption) ?_) | (with_reducible refine bl_step ?_ (by assumption)) | go_size)))).mono ?_; rintro e w3 ⟨rfl, hb3⟩; obtain ⟨hc3, hf3, hz3⟩ := bl hb3; (try simp at hz3); (try (refine got (p := w.heap.size < w3.heap.size) ?_ ?_; (focus (go_size; done)); intro q3_w0)); (try (refine got (p := w3.cell? ⟨w.heap.size, 0, none⟩ = some (.slice a0 n0 c0)) ?_ ?_; (focus (refine (hc3 _ _ ?_).trans ?_; (focus (go_size; done)); go_simp; done)); intro c3_w0_0)); (try (refine got (p := w3.cell? ⟨w.heap.size, 1, none⟩ = some (.int .i64 s)) ?_ ?_; (focus (refine (hc3 _ _ ?_).trans ?_; (focus (go_size; done)); go_simp; done)); intro c3_w0_1)); (try (refine got (p := w3.cell? ⟨w.heap.size, 2, none⟩ = some (.bool b)) ?_ ?_; (focus (refine (hc3 _ _ ?_).trans ?_; (focus (go_size; done)); go_simp; done)); intro c3_w0_2)); (try (refine got (p := w3.cell? ⟨w.heap.size, 3, none⟩ = some (.slice a1 n1 c1)) ?_ ?_; (focus (refine (hc3 _ _ ?_).trans ?_; (focus (go_size; done)); go_simp; done)); intro c3_w0_3)); (try (refine got (p := w3.cell? ⟨w.heap.size, 4, none⟩ = some (.slice a2 n2 c2)) ?_ ?_; (focus (refine (hc3 _ _ ?_).trans ?_; (focus (go_size; done)); go_simp; done)); intro c3_w0_4)); (try (refine got (p := ∀ o, w3.frozen? ⟨w.heap.size, o, none⟩ = false) ?_ ?_; (focus (intro o; refine (hf3 _ _ ?_).trans ?_; (focus (go_size; done)); go_simp; done)); intro f3_w0)); clear hc3 hf3
    go_wp2_with (fail)
    go_at_call 70; refine (KE.out _ (by (repeat' (first | (with_reducible assumption) | (with_reducible exact Below.refl _ _) | (with_reducible refine Below.alloc ?_ ?_ _) | (with_reducible refine Below.drew ?_) | (with_reducible refine Below.setCell ?_ ?_ _) | (with_reducible refine below_gb ?_ (by assumption) ?_) | (with_reducible refine bl_step ?_ (by assumption)) | go_size)))).mono ?_; rintro e w4 ⟨rfl, hb4⟩; obtain ⟨hc4, hf4, hz4⟩ := bl hb4; (try simp at hz4); (try (refine got (p := w.heap.size < w4.heap.size) ?_ ?_; (focus (go_size; done)); intro q4_w0)); (try (refine got (p := w4.cell? ⟨w.heap.size, 0, none⟩ = some (.slice a0 n0 c0)) ?_ ?_; (focus (refine (hc4 _ _ ?_).trans ?_; (focus (go_size; done)); go_simp; done)); intro c4_w0_0)); (try (refine got (p := w4.cell? ⟨w.heap.size, 1, none⟩ = some (.int .i64 s)) ?_ ?_; (focus (refine (hc4 _ _ ?_).trans ?_; (focus (go_size; done)); go_simp; done)); intro c4_w0_1)); (try (refine got (p := w4.cell? ⟨w.heap.size, 2, none⟩ = some (.bool b)) ?_ ?_; (focus (refine (hc4 _ _ ?_).trans ?_; (focus (go_size; done)); go_simp; done)); intro c4_w0_2)); (try (refine got (p := w4.cell? ⟨w.heap.size, 3, none⟩ = some (.slice a1 n1 c1)) ?_ ?_; (focus (refine (hc4 _ _ ?_).trans ?_; (focus (go_size; done)); go_simp; done)); intro c4_w0_3)); (try (refine got (p := w4.cell? ⟨w.heap.size, 4, none⟩ = some (.slice a2 n2 c2)) ?_ ?_; (focus (refine (hc4 _ _ ?_).trans ?_; (focus (go_size; done)); go_simp; done)); intro c4_w0_4)); (try (refine got (p := ∀ o, w4.frozen? ⟨w.heap.size, o, none⟩ = false) ?_ ?_; (focus (intro o; refine (hf4 _ _ ?_).trans ?_; (focus (go_size; done)); go_simp; done)); intro f4_w0)); clear hc4 hf4
    go_wp2
    go_ret
    exact ⟨rfl, by (repeat' (first | (with_reducible exact Below.refl _ _) | (with_reducible refine Below.alloc ?_ ?_ _) | (with_reducible refine Below.drew ?_) | (with_reducible refine Below.setCell ?_ ?_ _) | (with_reducible refine bl_step ?_ (by assumption)) | go_size))⟩
end Go.Proofs.Ytcmcdomfmmjogaa
