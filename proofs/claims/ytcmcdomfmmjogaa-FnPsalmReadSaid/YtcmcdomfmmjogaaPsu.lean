/-
  PsalmAccents in the model.
-/
import Derived.Test.YtcmcdomfmmjogaaPsr
namespace Go.Proofs.Ytcmcdomfmmjogaa
open Go.RowKit
set_option maxRecDepth 100000
set_option linter.unusedVariables false

set_option maxHeartbeats 8000000 in
theorem sPsalmAccents_any (v : Value) (p : Psa) (s : ByteArray) (hs : s.size ≤ 1048577) (w : World) (h : PV w v p) :
    Calls Try.prog 30 #[v, .string s] w fun e w' => e = .returned (.int .i64 (psA p s)) ∧ Below w.heap.size w w' := by
  have KF := Lib.hid (fun W (hb : Below w.heap.size w W) => sPsalmFits_any v p s hs W (h.below hb))
  have KH := Lib.hid (l4Halves_any s (by omega))
  obtain ⟨v0, v1, v2, rfl, h0, h1, h2⟩ := h
  obtain ⟨a0, c0, rfl, l0, m0⟩ := h0.sl
  obtain ⟨a1, c1, rfl, l1, m1⟩ := h1.sl
  obtain ⟨a2, c2, rfl, l2, m2⟩ := h2.sl
  clear h0 h1 h2
  cases hok : pfit p s with
  | false =>
    have HN := Lib.hid (psA_no hok)
    rw [hok] at KF
    rw [HN.out]
    clear hok
    generalize p.st.length = n0 at *
    generalize p.mi.length = n1 at *
    generalize p.en.length = n2 at *
    go_enter Try.func30, Try.ntmps30
    go_wp2_with (fail)
    (go_at_call 26; refine (KF.out _ (by (repeat' (first | (with_reducible exact Below.refl _ _) | (with_reducible refine Below.alloc ?_ ?_ _) | (with_reducible refine Below.drew ?_) | (with_reducible refine Below.setCell ?_ ?_ _) | (with_reducible refine bl_step ?_ (by assumption)) | go_size)))).mono ?_; rintro e w1 ⟨rfl, hb1⟩)
    go_wp2
    go_ret
    exact ⟨rfl, by (repeat' (first | (with_reducible exact Below.refl _ _) | (with_reducible refine Below.alloc ?_ ?_ _) | (with_reducible refine Below.drew ?_) | (with_reducible refine Below.setCell ?_ ?_ _) | (with_reducible refine bl_step ?_ (by assumption)) | go_size))⟩
  | true =>
    obtain ⟨hpv, hvv, h3, h4⟩ := pfit_in hok
    obtain ⟨_, pa, pb, pc⟩ := pv_in hpv
    have s1 := (partV_in pb).2.1
    have s2 := (partV_in pc).2.1
    obtain ⟨e1, e2⟩ := vFst_yes hvv
    rw [← e1, ← e2] at KH
    have hXs := vhalf_size s
    have HP := Lib.hid (psA_yes hok)
    rw [hok] at KF
    clear hok hpv hvv pa pb pc e1 e2
    generalize psA p s = r at *
    generalize vFst s = x at *
    generalize vSnd s = y at *
    have lx : x.data.toList.length = x.size := by simp
    have ly : y.data.toList.length = y.size := by simp
    generalize p.st.length = n0 at *
    generalize p.mi.length = n1 at *
    generalize p.en.length = n2 at *
    have x1 : IntKind.i64.wrap ((x.size : Int) - (n1 : Int)) = ((x.size - n1 : Nat) : Int) := by rw [IntWalk.i64_in _ (by omega)]; omega
    have x2 : IntKind.i64.wrap ((y.size : Int) - (n2 : Int)) = ((y.size - n2 : Nat) : Int) := by rw [IntWalk.i64_in _ (by omega)]; omega
    have HSX : Hid (ace x.data.toList n1 = (x.data.toList.drop (x.size - n1)).count 47) := by show _ = _; unfold ace; rw [lx]
    have HSY : Hid (ace y.data.toList n2 = (y.data.toList.drop (y.size - n2)).count 47) := by show _ = _; unfold ace; rw [ly]
    have HEX : Hid ((x.data.toList.drop x.size).count 47 = 0) := by show _ = _; rw [List.drop_eq_nil_of_le (by rw [lx]; exact Nat.le_refl _)]; rfl
    have HEY : Hid ((y.data.toList.drop y.size).count 47 = 0) := by show _ = _; rw [List.drop_eq_nil_of_le (by rw [ly]; exact Nat.le_refl _)]; rfl
    have bX : ace x.data.toList n1 ≤ 100 := by unfold ace; exact Nat.le_trans List.count_le_length (by rw [List.length_drop, lx]; omega)
    have bY : ace y.data.toList n2 ≤ 100 := by unfold ace; exact Nat.le_trans List.count_le_length (by rw [List.length_drop, ly]; omega)
    obtain ⟨q1, hq1⟩ : ∃ q, x.size - n1 = q := ⟨_, rfl⟩
    obtain ⟨q2, hq2⟩ : ∃ q, y.size - n2 = q := ⟨_, rfl⟩
    rw [hq1] at x1 HSX
    rw [hq2] at x2 HSY
    have b1 : q1 ≤ x.size := by omega
    have b2 : q2 ≤ y.size := by omega
    generalize ace x.data.toList n1 = A1 at *
    generalize ace y.data.toList n2 = A2 at *
    clear lx ly hq1 hq2 h3 h4
    go_enter Try.func30, Try.ntmps30
    go_wp2_with (fail)
    (go_at_call 26; refine (KF.out _ (by (repeat' (first | (with_reducible exact Below.refl _ _) | (with_reducible refine Below.alloc ?_ ?_ _) | (with_reducible refine Below.drew ?_) | (with_reducible refine Below.setCell ?_ ?_ _) | (with_reducible refine bl_step ?_ (by assumption)) | go_size)))).mono ?_; rintro e w1 ⟨rfl, hb1⟩; obtain ⟨hc1, hf1, hz1⟩ := bl hb1; (try simp at hz1); (try (refine got (p := w.heap.size < w1.heap.size) ?_ ?_; (focus (go_size; done)); intro q1_w0)); (try (refine got (p := w1.cell? ⟨w.heap.size, 0, none⟩ = some (.slice a0 n0 c0)) ?_ ?_; (focus (refine (hc1 _ _ ?_).trans ?_; (focus (go_size; done)); go_simp; done)); intro c1_w0_0)); (try (refine got (p := w1.cell? ⟨w.heap.size, 1, none⟩ = some (.int .i64 p.tn.1)) ?_ ?_; (focus (refine (hc1 _ _ ?_).trans ?_; (focus (go_size; done)); go_simp; done)); intro c1_w0_1)); (try (refine got (p := w1.cell? ⟨w.heap.size, 2, none⟩ = some (.bool p.tn.2)) ?_ ?_; (focus (refine (hc1 _ _ ?_).trans ?_; (focus (go_size; done)); go_simp; done)); intro c1_w0_2)); (try (refine got (p := w1.cell? ⟨w.heap.size, 3, none⟩ = some (.slice a1 n1 c1)) ?_ ?_; (focus (refine (hc1 _ _ ?_).trans ?_; (focus (go_size; done)); go_simp; done)); intro c1_w0_3)); (try (refine got (p := w1.cell? ⟨w.heap.size, 4, none⟩ = some (.slice a2 n2 c2)) ?_ ?_; (focus (refine (hc1 _ _ ?_).trans ?_; (focus (go_size; done)); go_simp; done)); intro c1_w0_4)); (try (refine got (p := ∀ o, w1.frozen? ⟨w.heap.size, o, none⟩ = false) ?_ ?_; (focus (intro o; refine (hf1 _ _ ?_).trans ?_; (focus (go_size; done)); go_simp; done)); intro f1_w0)); clear hc1 hf1)
    go_wp2_with (fail)
    (go_at_call 49; refine (KH.out _).mono ?_; rintro e w2 ⟨rfl, hb2⟩; obtain ⟨hc2, hf2, hz2⟩ := bl hb2; (try simp at hz2); (try (refine got (p := w.heap.size < w2.heap.size) ?_ ?_; (focus (go_size; done)); intro q2_w0)); (try (refine got (p := w2.cell? ⟨w.heap.size, 0, none⟩ = some (.slice a0 n0 c0)) ?_ ?_; (focus (refine (hc2 _ _ ?_).trans ?_; (focus (go_size; done)); go_simp; done)); intro c2_w0_0)); (try (refine got (p := w2.cell? ⟨w.heap.size, 1, none⟩ = some (.int .i64 p.tn.1)) ?_ ?_; (focus (refine (hc2 _ _ ?_).trans ?_; (focus (go_size; done)); go_simp; done)); intro c2_w0_1)); (try (refine got (p := w2.cell? ⟨w.heap.size, 2, none⟩ = some (.bool p.tn.2)) ?_ ?_; (focus (refine (hc2 _ _ ?_).trans ?_; (focus (go_size; done)); go_simp; done)); intro c2_w0_2)); (try (refine got (p := w2.cell? ⟨w.heap.size, 3, none⟩ = some (.slice a1 n1 c1)) ?_ ?_; (focus (refine (hc2 _ _ ?_).trans ?_; (focus (go_size; done)); go_simp; done)); intro c2_w0_3)); (try (refine got (p := w2.cell? ⟨w.heap.size, 4, none⟩ = some (.slice a2 n2 c2)) ?_ ?_; (focus (refine (hc2 _ _ ?_).trans ?_; (focus (go_size; done)); go_simp; done)); intro c2_w0_4)); (try (refine got (p := ∀ o, w2.frozen? ⟨w.heap.size, o, none⟩ = false) ?_ ?_; (focus (intro o; refine (hf2 _ _ ?_).trans ?_; (focus (go_size; done)); go_simp; done)); intro f2_w0)); clear hc2 hf2)
    have HB2 : Hid (Below w.heap.size w w2) := by show Below _ _ _; (repeat' (first | (with_reducible exact Below.refl _ _) | (with_reducible refine Below.alloc ?_ ?_ _) | (with_reducible refine Below.drew ?_) | (with_reducible refine Below.setCell ?_ ?_ _) | (with_reducible refine bl_step ?_ (by assumption)) | go_size))
    clear hb1 hb2
    go_wp2
    go_loop [7, 8] (fun m i => ∃ k j : Nat, k ≤ x.size ∧ i = .int .i64 k ∧ m = .int .i64 j ∧ Hid (j + (x.data.toList.drop k).count 47 = A1)) (fun _ i => x.size - (intOf i).toNat)
    case atStart => exact ⟨q1, 0, b1, rfl, rfl, by show _ = _; rw [HSX.out]; omega⟩
    case round =>
      obtain ⟨k, j, hk, rfl, rfl, hH⟩ := hrel
      by_cases hlt : k < x.size
      · have k0 : (0 : Int) ≤ (k : Int) := by omega
        have k1 : (k : Int) < (x.size : Int) := by omega
        have HST := Lib.hid (ace_step (at_list x k hlt))
        have hjb : j ≤ 100 := by have := hH.out; omega
        by_cases hc : x[k] = 47
        · have g1 : ((x[k].toNat : Int) == 47) = true := by rw [hc]; rfl
          have g2 : (x[k].toNat : Int) = 47 := by rw [hc]; rfl
          have g3 : IntKind.i64.wrap ((j : Int) + 1) = (j : Int) + 1 := IntWalk.i64_in _ (by omega)
          have HH : Hid (j + 1 + (x.data.toList.drop (k + 1)).count 47 = A1) := by show _ = _; have h1 := HST.out; have h2 := hH.out; rw [if_pos hc] at h1; omega
          clear hH hc
          go_wp2
          go_round
          case rel => exact ⟨k + 1, j + 1, by omega, by go_num, by go_num, HH.out⟩
          case measure => simp [intOf]; omega
        · have hcn : x[k].toNat ≠ 47 := fun e => hc (UInt8.toNat_inj.1 e)
          have g1 : ((x[k].toNat : Int) == 47) = false := beq_eq_false_iff_ne.2 (by omega)
          have g2 : ¬ ((x[k].toNat : Int) = 47) := by omega
          have HH : Hid (j + (x.data.toList.drop (k + 1)).count 47 = A1) := by show _ = _; have h1 := HST.out; have h2 := hH.out; rw [if_neg hc] at h1; omega
          clear hH hc hcn
          go_wp2
          go_round
          case rel => exact ⟨k + 1, j, by omega, by go_num, rfl, HH.out⟩
          case measure => simp [intOf]; omega
      · have hke : k = x.size := by omega
        subst hke
        have hjA : j = A1 := by have := hH.out; rw [HEX.out] at this; omega
        subst hjA
        clear hH
        go_wp2
        go_loop [7, 9] (fun m i => ∃ k jj : Nat, k ≤ y.size ∧ i = .int .i64 k ∧ m = .int .i64 jj ∧ Hid (jj + (y.data.toList.drop k).count 47 = j + A2)) (fun _ i => y.size - (intOf i).toNat)
        case atStart => exact ⟨q2, j, b2, rfl, rfl, by show _ = _; rw [HSY.out]⟩
        case round =>
          obtain ⟨k, jj, hk, rfl, rfl, hH⟩ := hrel
          by_cases hlt : k < y.size
          · have k0 : (0 : Int) ≤ (k : Int) := by omega
            have k1 : (k : Int) < (y.size : Int) := by omega
            have HST := Lib.hid (ace_step (at_list y k hlt))
            have hjb : jj ≤ 200 := by have := hH.out; omega
            by_cases hc : y[k] = 47
            · have g1 : ((y[k].toNat : Int) == 47) = true := by rw [hc]; rfl
              have g2 : (y[k].toNat : Int) = 47 := by rw [hc]; rfl
              have g3 : IntKind.i64.wrap ((jj : Int) + 1) = (jj : Int) + 1 := IntWalk.i64_in _ (by omega)
              have HH : Hid (jj + 1 + (y.data.toList.drop (k + 1)).count 47 = j + A2) := by show _ = _; have h1 := HST.out; have h2 := hH.out; rw [if_pos hc] at h1; omega
              clear hH hc
              go_wp2
              go_round
              case rel => exact ⟨k + 1, jj + 1, by omega, by go_num, by go_num, HH.out⟩
              case measure => simp [intOf]; omega
            · have hcn : y[k].toNat ≠ 47 := fun e => hc (UInt8.toNat_inj.1 e)
              have g1 : ((y[k].toNat : Int) == 47) = false := beq_eq_false_iff_ne.2 (by omega)
              have g2 : ¬ ((y[k].toNat : Int) = 47) := by omega
              have HH : Hid (jj + (y.data.toList.drop (k + 1)).count 47 = j + A2) := by show _ = _; have h1 := HST.out; have h2 := hH.out; rw [if_neg hc] at h1; omega
              clear hH hc hcn
              go_wp2
              go_round
              case rel => exact ⟨k + 1, jj, by omega, by go_num, rfl, HH.out⟩
              case measure => simp [intOf]; omega
          · have hke : k = y.size := by omega
            subst hke
            have hjA : (jj : Int) = r := by have := hH.out; rw [HEY.out] at this; rw [HP.out]; omega
            rw [hjA]
            clear hH hjA
            go_wp2
            go_ret
            exact ⟨rfl, HB2.out⟩
end Go.Proofs.Ytcmcdomfmmjogaa
