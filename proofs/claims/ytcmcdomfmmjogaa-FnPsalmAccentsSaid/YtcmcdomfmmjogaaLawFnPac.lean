/-
  The law FnPsalmAccents: for every code, accents at the ends are counted.
-/
import Derived.Test.YtcmcdomfmmjogaaPsu
import Derived.Test.YtcmcdomfmmjogaaPsm3
import Derived.Test.YtcmcdomfmmjogaaDpn
import Derived.Test.YtcmcdomfmmjogaaVy
import Derived.Test.YtcmcdomfmmjogaaOpen
import Derived.ChangeMaps5
import Derived.Deep.DeepRowAt
import Derived.Deep.DeepHandedRow
namespace Go.Proofs.Ytcmcdomfmmjogaa
open Go.RowKit Go.ChangeShapes Go.WideShapes Go.ChangeAt Go.ChangeMaps
set_option maxRecDepth 100000
set_option linter.unusedVariables false

set_option maxHeartbeats 3000000 in
theorem fnPsalmAccents_walk (a : Option Addr) (n cap : Nat) (w : World) (h : CodeAt w a n) (hc : n ≤ cap) (hcap : cap ≤ maxLen) (hm : MaxAt w) :
    Calls Try.prog 6 #[.slice a n cap] w fun e w' => e = .returned (.bool true) ∧ Below w.heap.size w w' := by
  by_cases hn : 1048576 < n
  · have g : (1048576 : Int) < (n : Int) := by omega
    go_enter Try.func6, Try.ntmps6
    go_wp2
    go_ret
    exact ⟨rfl, Below.refl _ _⟩
  have g : decide ((1048576 : Int) < (n : Int)) = false := by simp; omega
  have gn : decide (1048576 < n) = false := decide_eq_false hn
  have HM := Lib.hid (fun W (hb : Below w.heap.size w W) => hm.below hb)
  clear hm
  go_enter Try.func6, Try.ntmps6
  go_wp2_with (fail)
  (go_at_call 28; refine (drawPsalmAccents_any a n cap _ h hc hcap).mono ?_; rintro e w1 ⟨v, p, s, rfl, hv, m0, m1, m2, hs, hb1⟩; obtain ⟨hc1, hf1, hz1⟩ := bl hb1; (try simp at hz1); clear hc1 hf1)
  have HB1 := Lib.hid hb1
  have HV1 := Lib.hid hv
  clear h hc hcap g gn hn hb1
  have KI := Lib.hid (fun W (hb : Below w.heap.size w W) (h : PV W v p) => psalmAccents_any v p s (by omega) W h (HM.out W hb))
  have KS := Lib.hid (fun W (h : PV W v p) => sPsalmAccents_any v p s (by omega) W h)
  have KW := Lib.hid (fun W (hb : Below w.heap.size w W) (h : PV W v p) => psalmAccents_any v p (wk2 (vFst s).size (vSnd s).size) (by have := vhalf_size s; rw [wk2_size]; omega) W h (HM.out W hb))
  have KH := Lib.hid (fun W (hb : Below w.heap.size w W) => verseHalves_any s (by omega) W (HM.out W hb))
  have KA := Lib.hid (fun W (hb : Below w.heap.size w W) => verseAccents_any s (by omega) W (HM.out W hb))
  unfold IBuiltI at KA
  have hXY := vhalf_size s
  obtain ⟨v0, v1, v2, rfl, l0, l1, l2⟩ := hv
  obtain ⟨a0, c0, rfl, _, _⟩ := l0.sl
  obtain ⟨a1, c1, rfl, _, _⟩ := l1.sl
  obtain ⟨a2, c2, rfl, _, _⟩ := l2.sl
  clear l0 l1 l2
  have HPV := Lib.hid (fun W (hb : Below w1.heap.size w1 W) => HV1.out.below hb)
  clear HV1
  cases hok : pfit p s with
  | false =>
    have HN := Lib.hid (psA_no hok)
    rw [HN.out] at KI KS
    clear hok HN
    generalize p.st.length = n0 at *
    generalize p.mi.length = n1 at *
    generalize p.en.length = n2 at *
    go_wp2_with (fail)
    (go_at_call 29; refine (KI.out _ (by have := HB1.out; (repeat' (first | (with_reducible assumption) | (with_reducible exact Below.refl _ _) | (with_reducible refine Below.alloc ?_ ?_ _) | (with_reducible refine Below.drew ?_) | (with_reducible refine Below.setCell ?_ ?_ _) | (with_reducible refine below_gb ?_ (by assumption) ?_) | (with_reducible refine bl_step ?_ (by assumption)) | go_size))) (HPV.out _ (by (repeat' (first | (with_reducible exact Below.refl _ _) | (with_reducible refine Below.alloc ?_ ?_ _) | (with_reducible refine Below.drew ?_) | (with_reducible refine Below.setCell ?_ ?_ _) | (with_reducible refine bl_step ?_ (by assumption)) | go_size))))).mono ?_; rintro e w2 ⟨rfl, hb2⟩; obtain ⟨hc2, hf2, hz2⟩ := bl hb2; (try simp at hz2); (try (refine got (p := w1.heap.size < w2.heap.size) ?_ ?_; (focus (go_size; done)); intro q2_w10)); (try (refine got (p := w2.cell? ⟨w1.heap.size, 0, none⟩ = some (.slice a0 n0 c0)) ?_ ?_; (focus (refine (hc2 _ _ ?_).trans ?_; (focus (go_size; done)); go_simp; done)); intro c2_w10_0)); (try (refine got (p := w2.cell? ⟨w1.heap.size, 1, none⟩ = some (.int .i64 p.tn.1)) ?_ ?_; (focus (refine (hc2 _ _ ?_).trans ?_; (focus (go_size; done)); go_simp; done)); intro c2_w10_1)); (try (refine got (p := w2.cell? ⟨w1.heap.size, 2, none⟩ = some (.bool p.tn.2)) ?_ ?_; (focus (refine (hc2 _ _ ?_).trans ?_; (focus (go_size; done)); go_simp; done)); intro c2_w10_2)); (try (refine got (p := w2.cell? ⟨w1.heap.size, 3, none⟩ = some (.slice a1 n1 c1)) ?_ ?_; (focus (refine (hc2 _ _ ?_).trans ?_; (focus (go_size; done)); go_simp; done)); intro c2_w10_3)); (try (refine got (p := w2.cell? ⟨w1.heap.size, 4, none⟩ = some (.slice a2 n2 c2)) ?_ ?_; (focus (refine (hc2 _ _ ?_).trans ?_; (focus (go_size; done)); go_simp; done)); intro c2_w10_4)); (try (refine got (p := ∀ o, w2.frozen? ⟨w1.heap.size, o, none⟩ = false) ?_ ?_; (focus (intro o; refine (hf2 _ _ ?_).trans ?_; (focus (go_size; done)); go_simp; done)); intro f2_w10)); clear hc2 hf2)
    have hb12 : Below w1.heap.size w1 w2 := by (repeat' (first | (with_reducible exact Below.refl _ _) | (with_reducible refine Below.alloc ?_ ?_ _) | (with_reducible refine Below.drew ?_) | (with_reducible refine Below.setCell ?_ ?_ _) | (with_reducible refine bl_step ?_ (by assumption)) | go_size))
    go_wp2_with (fail)
    (go_at_call 30; refine (KS.out _ (HPV.out _ hb12)).mono ?_; rintro e w3 ⟨rfl, hb3⟩; obtain ⟨hc3, hf3, hz3⟩ := bl hb3; (try simp at hz3); (try (refine got (p := w1.heap.size < w3.heap.size) ?_ ?_; (focus (go_size; done)); intro q3_w10)); (try (refine got (p := w3.cell? ⟨w1.heap.size, 0, none⟩ = some (.slice a0 n0 c0)) ?_ ?_; (focus (refine (hc3 _ _ ?_).trans ?_; (focus (go_size; done)); go_simp; done)); intro c3_w10_0)); (try (refine got (p := w3.cell? ⟨w1.heap.size, 1, none⟩ = some (.int .i64 p.tn.1)) ?_ ?_; (focus (refine (hc3 _ _ ?_).trans ?_; (focus (go_size; done)); go_simp; done)); intro c3_w10_1)); (try (refine got (p := w3.cell? ⟨w1.heap.size, 2, none⟩ = some (.bool p.tn.2)) ?_ ?_; (focus (refine (hc3 _ _ ?_).trans ?_; (focus (go_size; done)); go_simp; done)); intro c3_w10_2)); (try (refine got (p := w3.cell? ⟨w1.heap.size, 3, none⟩ = some (.slice a1 n1 c1)) ?_ ?_; (focus (refine (hc3 _ _ ?_).trans ?_; (focus (go_size; done)); go_simp; done)); intro c3_w10_3)); (try (refine got (p := w3.cell? ⟨w1.heap.size, 4, none⟩ = some (.slice a2 n2 c2)) ?_ ?_; (focus (refine (hc3 _ _ ?_).trans ?_; (focus (go_size; done)); go_simp; done)); intro c3_w10_4)); (try (refine got (p := ∀ o, w3.frozen? ⟨w1.heap.size, o, none⟩ = false) ?_ ?_; (focus (intro o; refine (hf3 _ _ ?_).trans ?_; (focus (go_size; done)); go_simp; done)); intro f3_w10)); clear hc3 hf3)
    go_wp2
    go_ret
    exact ⟨rfl, by have := HB1.out; (repeat' (first | (with_reducible assumption) | (with_reducible exact Below.refl _ _) | (with_reducible refine Below.alloc ?_ ?_ _) | (with_reducible refine Below.drew ?_) | (with_reducible refine Below.setCell ?_ ?_ _) | (with_reducible refine below_gb ?_ (by assumption) ?_) | (with_reducible refine bl_step ?_ (by assumption)) | go_size))⟩
  | true =>
    obtain ⟨A1, A2, A3⟩ := psA_le hok
    have HW0 := Lib.hid (psA_weak hok)
    rw [HW0.out] at KW
    obtain ⟨_, hvv, _, _⟩ := pfit_in hok
    rw [hvv] at KH
    clear hok HW0 hvv
    obtain ⟨z, hz⟩ : ∃ z, psA p s = z := ⟨_, rfl⟩
    rw [hz] at KI KS A1 A2 A3
    clear hz
    obtain ⟨L, hL⟩ : ∃ L, (vacc s).length = L := ⟨_, rfl⟩
    have HL := Lib.hid hL
    rw [hL] at A1
    have hL20 : L ≤ 20 := by rw [← hL]; exact vacc_len s
    clear hL
    have gz : decide (z < 0) = false := decide_eq_false (by omega)
    generalize vFst s = x at *
    generalize vSnd s = y at *
    obtain ⟨n0, hn0⟩ : ∃ n, p.st.length = n := ⟨_, rfl⟩
    obtain ⟨n1, hn1⟩ : ∃ n, p.mi.length = n := ⟨_, rfl⟩
    obtain ⟨n2, hn2⟩ : ∃ n, p.en.length = n := ⟨_, rfl⟩
    rw [hn0] at KI KS KW HPV m0 ⊢
    rw [hn1] at KI KS KW HPV m1 A2 ⊢
    rw [hn2] at KI KS KW HPV m2 A2 ⊢
    clear hn0 hn1 hn2
    have wr1 : IntKind.i64.wrap ((n1 : Int) + (n2 : Int)) = (n1 : Int) + (n2 : Int) := IntWalk.i64_in _ (by omega)
    go_wp2_with (fail)
    (go_at_call 29; refine (KI.out _ (by have := HB1.out; (repeat' (first | (with_reducible assumption) | (with_reducible exact Below.refl _ _) | (with_reducible refine Below.alloc ?_ ?_ _) | (with_reducible refine Below.drew ?_) | (with_reducible refine Below.setCell ?_ ?_ _) | (with_reducible refine below_gb ?_ (by assumption) ?_) | (with_reducible refine bl_step ?_ (by assumption)) | go_size))) (HPV.out _ (by (repeat' (first | (with_reducible exact Below.refl _ _) | (with_reducible refine Below.alloc ?_ ?_ _) | (with_reducible refine Below.drew ?_) | (with_reducible refine Below.setCell ?_ ?_ _) | (with_reducible refine bl_step ?_ (by assumption)) | go_size))))).mono ?_; rintro e w2 ⟨rfl, hb2⟩; obtain ⟨hc2, hf2, hz2⟩ := bl hb2; (try simp at hz2); (try (refine got (p := w1.heap.size < w2.heap.size) ?_ ?_; (focus (go_size; done)); intro q2_w10)); (try (refine got (p := w2.cell? ⟨w1.heap.size, 0, none⟩ = some (.slice a0 n0 c0)) ?_ ?_; (focus (refine (hc2 _ _ ?_).trans ?_; (focus (go_size; done)); go_simp; done)); intro c2_w10_0)); (try (refine got (p := w2.cell? ⟨w1.heap.size, 1, none⟩ = some (.int .i64 p.tn.1)) ?_ ?_; (focus (refine (hc2 _ _ ?_).trans ?_; (focus (go_size; done)); go_simp; done)); intro c2_w10_1)); (try (refine got (p := w2.cell? ⟨w1.heap.size, 2, none⟩ = some (.bool p.tn.2)) ?_ ?_; (focus (refine (hc2 _ _ ?_).trans ?_; (focus (go_size; done)); go_simp; done)); intro c2_w10_2)); (try (refine got (p := w2.cell? ⟨w1.heap.size, 3, none⟩ = some (.slice a1 n1 c1)) ?_ ?_; (focus (refine (hc2 _ _ ?_).trans ?_; (focus (go_size; done)); go_simp; done)); intro c2_w10_3)); (try (refine got (p := w2.cell? ⟨w1.heap.size, 4, none⟩ = some (.slice a2 n2 c2)) ?_ ?_; (focus (refine (hc2 _ _ ?_).trans ?_; (focus (go_size; done)); go_simp; done)); intro c2_w10_4)); (try (refine got (p := ∀ o, w2.frozen? ⟨w1.heap.size, o, none⟩ = false) ?_ ?_; (focus (intro o; refine (hf2 _ _ ?_).trans ?_; (focus (go_size; done)); go_simp; done)); intro f2_w10)); clear hc2 hf2)
    have hb12 : Below w1.heap.size w1 w2 := by (repeat' (first | (with_reducible exact Below.refl _ _) | (with_reducible refine Below.alloc ?_ ?_ _) | (with_reducible refine Below.drew ?_) | (with_reducible refine Below.setCell ?_ ?_ _) | (with_reducible refine bl_step ?_ (by assumption)) | go_size))
    go_wp2_with (fail)
    (go_at_call 30; refine (KS.out _ (HPV.out _ hb12)).mono ?_; rintro e w3 ⟨rfl, hb3⟩; obtain ⟨hc3, hf3, hz3⟩ := bl hb3; (try simp at hz3); (try (refine got (p := w1.heap.size < w3.heap.size) ?_ ?_; (focus (go_size; done)); intro q3_w10)); (try (refine got (p := w3.cell? ⟨w1.heap.size, 0, none⟩ = some (.slice a0 n0 c0)) ?_ ?_; (focus (refine (hc3 _ _ ?_).trans ?_; (focus (go_size; done)); go_simp; done)); intro c3_w10_0)); (try (refine got (p := w3.cell? ⟨w1.heap.size, 1, none⟩ = some (.int .i64 p.tn.1)) ?_ ?_; (focus (refine (hc3 _ _ ?_).trans ?_; (focus (go_size; done)); go_simp; done)); intro c3_w10_1)); (try (refine got (p := w3.cell? ⟨w1.heap.size, 2, none⟩ = some (.bool p.tn.2)) ?_ ?_; (focus (refine (hc3 _ _ ?_).trans ?_; (focus (go_size; done)); go_simp; done)); intro c3_w10_2)); (try (refine got (p := w3.cell? ⟨w1.heap.size, 3, none⟩ = some (.slice a1 n1 c1)) ?_ ?_; (focus (refine (hc3 _ _ ?_).trans ?_; (focus (go_size; done)); go_simp; done)); intro c3_w10_3)); (try (refine got (p := w3.cell? ⟨w1.heap.size, 4, none⟩ = some (.slice a2 n2 c2)) ?_ ?_; (focus (refine (hc3 _ _ ?_).trans ?_; (focus (go_size; done)); go_simp; done)); intro c3_w10_4)); (try (refine got (p := ∀ o, w3.frozen? ⟨w1.heap.size, o, none⟩ = false) ?_ ?_; (focus (intro o; refine (hf3 _ _ ?_).trans ?_; (focus (go_size; done)); go_simp; done)); intro f3_w10)); clear hc3 hf3)
    have hb13 := bl_step hb12 hb3
    go_wp2_with (fail)
    (go_at_call 18; refine (KH.out _ (bl_step HB1.out hb13)).mono ?_; rintro e w4 ⟨rfl, hb4⟩; obtain ⟨hc4, hf4, hz4⟩ := bl hb4; (try simp at hz4); (try (refine got (p := w1.heap.size < w4.heap.size) ?_ ?_; (focus (go_size; done)); intro q4_w10)); (try (refine got (p := w4.cell? ⟨w1.heap.size, 0, none⟩ = some (.slice a0 n0 c0)) ?_ ?_; (focus (refine (hc4 _ _ ?_).trans ?_; (focus (go_size; done)); go_simp; done)); intro c4_w10_0)); (try (refine got (p := w4.cell? ⟨w1.heap.size, 1, none⟩ = some (.int .i64 p.tn.1)) ?_ ?_; (focus (refine (hc4 _ _ ?_).trans ?_; (focus (go_size; done)); go_simp; done)); intro c4_w10_1)); (try (refine got (p := w4.cell? ⟨w1.heap.size, 2, none⟩ = some (.bool p.tn.2)) ?_ ?_; (focus (refine (hc4 _ _ ?_).trans ?_; (focus (go_size; done)); go_simp; done)); intro c4_w10_2)); (try (refine got (p := w4.cell? ⟨w1.heap.size, 3, none⟩ = some (.slice a1 n1 c1)) ?_ ?_; (focus (refine (hc4 _ _ ?_).trans ?_; (focus (go_size; done)); go_simp; done)); intro c4_w10_3)); (try (refine got (p := w4.cell? ⟨w1.heap.size, 4, none⟩ = some (.slice a2 n2 c2)) ?_ ?_; (focus (refine (hc4 _ _ ?_).trans ?_; (focus (go_size; done)); go_simp; done)); intro c4_w10_4)); (try (refine got (p := ∀ o, w4.frozen? ⟨w1.heap.size, o, none⟩ = false) ?_ ?_; (focus (intro o; refine (hf4 _ _ ?_).trans ?_; (focus (go_size; done)); go_simp; done)); intro f4_w10)); clear hc4 hf4)
    have hb14 := bl_step hb13 hb4
    have HB14 := Lib.hid hb14
    clear hb2 hb3 hb4 hb12 hb13 hb14
    go_wp2
    go_loop [10, 11] (fun q i => ∃ k : Nat, k ≤ x.size ∧ i = .int .i64 k ∧ q = .string (wk k)) (fun _ i => x.size - (intOf i).toNat)
    case atStart => exact ⟨0, by omega, rfl, rfl⟩
    case round =>
      obtain ⟨k, hk, rfl, rfl⟩ := hrel
      have hws := wk_size k
      have hwc := wk_succ k
      have hwb := wk_bar k
      by_cases hlt : k < x.size
      · have k0 : (0 : Int) ≤ (k : Int) := by omega
        have k1 : (k : Int) < (x.size : Int) := by omega
        generalize wk k = q at *
        have hadd : ∀ W : World, (Op.stringOp .add q ⟨#[120]⟩).run Try.prog W = .ok (.string (q ++ ⟨#[120]⟩)) W := fun W => run_string_add_sum W _ _ (by show q.size + 1 ≤ _; omega)
        obtain ⟨q2, hq2⟩ : ∃ q2, wk (k + 1) = q2 := ⟨_, rfl⟩
        rw [hwc, hq2] at hadd
        have HW := Lib.hid hq2
        clear hwc hws hwb hq2
        go_wp2
        go_round
        case rel => exact ⟨k + 1, by omega, by go_num, by rw [HW.out]⟩
        case measure => simp [intOf]; omega
      · have hke : k = x.size := by omega
        subst hke
        generalize wk x.size = q at *
        have hadd : ∀ W : World, (Op.stringOp .add q ⟨#[124]⟩).run Try.prog W = .ok (.string (q ++ ⟨#[124]⟩)) W := fun W => run_string_add_sum W _ _ (by show q.size + 1 ≤ _; omega)
        rw [hwb] at hadd
        clear hwb hws hwc
        go_wp2
        go_loop [10, 12] (fun q i => ∃ k : Nat, k ≤ y.size ∧ i = .int .i64 k ∧ q = .string (wk2 x.size k)) (fun _ i => y.size - (intOf i).toNat)
        case atStart => exact ⟨0, by omega, rfl, rfl⟩
        case round =>
          obtain ⟨k, hk, rfl, rfl⟩ := hrel
          have hws := wk2_size x.size k
          have hwc := wk2_succ x.size k
          by_cases hlt : k < y.size
          · have k0 : (0 : Int) ≤ (k : Int) := by omega
            have k1 : (k : Int) < (y.size : Int) := by omega
            generalize wk2 x.size k = q at *
            have hadd : ∀ W : World, (Op.stringOp .add q ⟨#[120]⟩).run Try.prog W = .ok (.string (q ++ ⟨#[120]⟩)) W := fun W => run_string_add_sum W _ _ (by show q.size + 1 ≤ _; omega)
            obtain ⟨q2, hq2⟩ : ∃ q2, wk2 x.size (k + 1) = q2 := ⟨_, rfl⟩
            rw [hwc, hq2] at hadd
            have HW := Lib.hid hq2
            clear hwc hws hq2
            go_wp2
            go_round
            case rel => exact ⟨k + 1, by omega, by go_num, by rw [HW.out]⟩
            case measure => simp [intOf]; omega
          · have hke : k = y.size := by omega
            subst hke
            clear hws hwc
            generalize wk2 x.size y.size = q at *
            have t1 : decide (z ≤ (L : Int)) = true := decide_eq_true (by omega)
            have t2 : decide (z ≤ (n1 : Int) + (n2 : Int)) = true := decide_eq_true (by omega)
            go_wp2_with (fail)
            (go_at_call 31; refine (KA.out _ (bl_step HB1.out HB14.out)).mono ?_; rintro e w5 ⟨va, rfl, hra, hb5⟩)
            obtain ⟨aa, ca, rfl⟩ : ∃ a c, va = .slice a (vacc s).length c := by
              rcases hra.form with ⟨e, e2⟩ | ⟨g, cap, cur, e, _⟩
              · exact ⟨none, 0, by rw [e, e2]; rfl⟩
              · exact ⟨_, _, e⟩
            have hb15 := bl_step HB14.out hb5
            have j0 := keepc c4_w10_0 hb5
            have j1 := keepc c4_w10_1 hb5
            have j2 := keepc c4_w10_2 hb5
            have j3 := keepc c4_w10_3 hb5
            have j4 := keepc c4_w10_4 hb5
            rw [HL.out]
            clear hra hb5
            go_wp2_with (fail)
            (go_at_call 29; refine (KW.out _ (bl_step HB1.out hb15) (HPV.out _ hb15)).mono ?_; rintro e w6 ⟨rfl, hb6⟩)
            go_wp2
            go_ret
            exact ⟨rfl, bl_step HB1.out (bl_step hb15 hb6)⟩

noncomputable def fnPsalmAccents_world (os : Os) : World := { World.holding Try.prog os ⟨#[], #[], []⟩ with heap := (World.holding Try.prog os ⟨#[], #[], []⟩).heap }
theorem fnPsalmAccents_met (os : Os) : laidMet Try.prog Rows.fnPsalmAccentsRow.laid ((fnPsalmAccents_world os).forCall (fun _ _ => 0) ⟨#[], #[.slice none 0 0], []⟩).memory :=
  laidMet_of_run' 8 (by kernel_rfl) (by kernel_rfl)
theorem fnPsalmAccents_reads (os : Os) {H : Type} (enc : TypeId × Value → H) : ∃ places, DataW.whole enc Try.prog ((fnPsalmAccents_world os).forCall (fun _ _ => 0) ⟨#[], #[.slice none 0 0], []⟩).memory Try.f6.params.toList Rows.fnPsalmAccentsSpec.vars false (#[.slice none 0 0] : Array Value).toList 8 = some ([.nil], [], places) :=
  ⟨((DataW.whole enc Try.prog ((fnPsalmAccents_world os).forCall (fun _ _ => 0) ⟨#[], #[.slice none 0 0], []⟩).memory Try.f6.params.toList Rows.fnPsalmAccentsSpec.vars false (#[.slice none 0 0] : Array Value).toList 8).getD ([], [], [])).2.2, by kernel_rfl⟩
set_option maxRecDepth 100000 in
theorem fnPsalmAccents_lifted (os : Os) (started : os.Started) (H : Type) (enc : TypeId × Value → H) (F : Stop.Interp) :
    ReturnsInHanded {} Try.checked os 6 .any ((OpenSpec.ofChange Rows.fnPsalmAccentsSpec).preRow enc Try.prog Try.f6 Rows.fnPsalmAccentsRow.domain false Rows.fnPsalmAccentsRow.laid) (((OpenSpec.ofChange Rows.fnPsalmAccentsSpec).at F).post enc Try.prog Try.f6 false true false false) := by
  obtain ⟨places, hx⟩ := fnPsalmAccents_reads os enc
  refine returnsInHanded_of_row (C := Try.checked) (s := OpenSpec.ofChange Rows.fnPsalmAccentsSpec) own started (by kernel_rfl) Try.func6
    (witness_row_at (enc := enc) (C := Try.checked) false (fnPsalmAccents_world os) #[.slice none 0 0] rfl (by kernel_rfl) (by kernel_rfl) (by kernel_rfl)
      (OpenSpec.preRow_of_cond 8 hx (by kernel_rfl) (fun k hk => by cases hk) (by kernel_rfl) (fnPsalmAccents_met os))) ?_
  intro W base args ds gs before hval0 hW _ _ _ hL hSh _
  have hval : ∀ (j : Nat) t v, Try.f6.params[j]? = some t → args[j]? = some v → Value.okWide Try.prog W .any base t v := hval0
  have hW' := hW
  obtain ⟨p, q, hA0, hV, rfl, _, _⟩ := hW
  have hA : DataW.TrodAll enc Try.prog W 0 (fun _ => true) true Try.f6.params.toList args.toList ds p := hA0
  rw [Try.params6] at hA hval
  obtain ⟨v0, vs0, d0, ds0, p0, q0, hargs, rfl, rfl, h0, r0⟩ := trodAll_cons hA
  obtain ⟨rfl, rfl, rfl⟩ := trodAll_nil r0
  obtain rfl : args = #[v0] := by cases args; simp_all
  obtain ⟨rfl, rfl⟩ := trodVars_none hV
  obtain ⟨a0, n0, c0, rfl⟩ := okWide_slice Try.underlying22 (hval 0 22 v0 rfl rfl)
  have k0 := h0
  have lt0 : ∀ x ∈ p0, x.block < W.heap.size := by obtain ⟨m, hm⟩ := k0; exact DataW.trod_lt m _ _ _ hm
  have y0 := code_in h0
  clear hA0 hval0
  refine (fnPsalmAccents_walk a0 n0 c0 W y0.1 y0.2.1 y0.2.2 (Try.laysM145.s1_3 W hSh)).mono fun e W' ⟨he, hb⟩ => ?_
  subst he
  exact ⟨_, rfl, _, _, _, [], _, [], hW', trodAll_cons_mk (shut_bool Try.underlying4 _) trodAll_mk0, trodAll_cons_mk (Below.trod laidOut (by kernel_rfl) (of_decide_eq_true (by kernel_rfl)) k0 hb lt0) (trodAll_mk0), rfl, hb.frame _, fun h => by cases h⟩


end Go.Proofs.Ytcmcdomfmmjogaa
