/-
  The model's parts: what is a part, its beats, the tone at a beat.
-/
import Derived.Test.YticapinlnlpbpaaDoorRp
import Derived.Test.YticapinlnlpbpaaDoorRh
namespace Go.Proofs.YticapinlnlpbpaaDoor
open Go.RowKit
set_option maxRecDepth 100000
set_option linter.unusedVariables false

theorem voice_at {w wr : World} {a : Option Addr} {xs : List Vc} {k : Nat} (h : ArgV w a xs) (hb : Below w.heap.size w wr) (hk : k < xs.length) :
    ∃ A off s b m, a = some ⟨A, off, none⟩ ∧ xs[k]? = some ((s, b), m) ∧ wr.cell? ⟨A, off + k * 3, none⟩ = some (.int .i64 s) ∧ wr.cell? ⟨A, off + k * 3 + 1, none⟩ = some (.bool b) ∧ wr.cell? ⟨A, off + k * 3 + 2, none⟩ = some (.int .i64 m) := by
  obtain ⟨⟨⟨s, b⟩, m⟩, hx⟩ : ∃ x, xs[k]? = some x := ⟨xs[k], List.getElem?_eq_getElem hk⟩
  rcases h with h0 | ⟨A, off, rfl, hA, hc⟩
  · subst h0; simp at hk
  obtain ⟨d0, d1, d2⟩ := hc k _ hx
  exact ⟨A, off, s, b, m, rfl, hx, (hb.cell (p := ⟨A, off + k * 3, none⟩) hA).trans d0, (hb.cell (p := ⟨A, off + k * 3 + 1, none⟩) hA).trans d1, (hb.cell (p := ⟨A, off + k * 3 + 2, none⟩) hA).trans d2⟩

set_option maxHeartbeats 4000000 in
theorem l8Beats_any (v : Value) (xs : List Vc) (w : World) (h : VV w v xs) (hall : xs.all vok = true) (hl : xs.length ≤ 12) :
    Calls Tryd.prog 46 #[v] w fun e w' => e = .returned (.int .i64 (bsm xs)) ∧ w = w' := by
  obtain ⟨a, c, rfl, ha, hc1, hc2⟩ := h
  unfold maxLen at hc2
  have HA := Lib.hid ha
  have HB := Lib.hid (fun k => bsm_in (all_take hall k))
  have HV := Lib.hid hall
  clear ha hall
  go_enter Tryd.func46, Tryd.ntmps46
  go_wp2
  go_loop [3, 4] (fun r i => ∃ k : Nat, k ≤ xs.length ∧ i = .int .i64 (k : Int) ∧ r = .int .i64 (bsm (xs.take k))) (fun _ i => xs.length - (intOf i).toNat)
  case atStart => exact ⟨0, by omega, rfl, rfl⟩
  case round =>
    obtain ⟨k, hk, rfl, rfl⟩ := hrel
    by_cases hlt : k < xs.length
    · obtain ⟨A, off, s, b, m, rfl, hx, c0, c1, c2⟩ := voice_at HA.out (Below.refl _ _) hlt
      have HX := Lib.hid (bsm_take hx)
      have h1 := HB.out k
      obtain ⟨_, m1, m3⟩ := vok_in (all_get HV.out hx)
      simp only at m1 m3
      have h3 : (xs.take k).length ≤ 12 := by simp; omega
      generalize bsm (xs.take k) = z at h1 HX
      have wz : IntKind.i64.wrap (z + m) = z + m := IntWalk.i64_in _ (by omega)
      clear hx
      go_wp2
      go_round
      case rel => exact ⟨k + 1, by omega, by go_num, by rw [HX.out]⟩
      case measure => simp [intOf]; omega
    · have hkn : k = xs.length := by omega
      subst hkn
      rw [List.take_length]
      go_wp2
      go_ret
      exact ⟨rfl, rfl⟩

set_option maxHeartbeats 4000000 in
theorem sPartValid8_any (v : Value) (xs : List Vc) (w : World) (h : VV w v xs) : Calls Tryd.prog 57 #[v] w fun e w' => e = .returned (.bool (pval xs)) ∧ Below w.heap.size w w' := by
  have HVV := Lib.hid h
  obtain ⟨a, c, rfl, ha, hc1, hc2⟩ := h
  unfold maxLen at hc2
  have HA := Lib.hid ha
  clear ha
  go_enter Tryd.func57, Tryd.ntmps57
  go_wp2
  go_loopw [3] (fun i wr => ∃ k : Nat, k ≤ xs.length ∧ i = .int .i64 (k : Int) ∧ (xs.take k).all vok = true ∧ Below w.heap.size w wr) (fun i _ => xs.length - (intOf i).toNat)
  case atStart => exact ⟨0, by omega, rfl, by simp, Below.refl _ _⟩
  case round =>
    obtain ⟨k, hk, rfl, hok, hb⟩ := hrel
    have HOK := Lib.hid hok
    have HB := Lib.hid hb
    clear hok
    by_cases hlt : k < xs.length
    · obtain ⟨A, off, s, b, m, rfl, hx, c0, c1, c2⟩ := voice_at HA.out hb hlt
      have hk0 : (0 : Int) ≤ (k : Int) := by omega
      have hk1 : (k : Int) < (xs.length : Int) := by omega
      have HT := Lib.hid (sToneValid_any s b)
      cases hv : vd s b with
      | false =>
        rw [hv] at HT
        have HPV : Hid (pval xs = false) := pval_no1 (all_bad hx (vok_no1 hv))
        clear hx hv hb
        go_wp2_with (fail)
        (go_at_call 84; refine (HT.out _).mono ?_; rintro e w1 ⟨rfl, hb1⟩)
        have HB1 := Lib.hid (bl_step HB.out hb1)
        clear hb1
        go_wp2
        go_ret
        exact ⟨(by rw [HPV.out]; rfl), HB1.out⟩
      | true =>
        rw [hv] at HT
        have HI := Lib.hid (l6In8 m 1 3)
        by_cases hm : 1 ≤ m ∧ m ≤ 3
        case neg =>
          have e1 : (decide (1 ≤ m) && decide (m ≤ 3)) = false := by rw [Bool.and_eq_false_iff]; simp; omega
          rw [e1] at HI
          have HPV : Hid (pval xs = false) := pval_no1 (all_bad hx (vok_no2 hm))
          clear hx hv hb hm e1
          go_wp2_with (fail)
          (go_at_call 84; refine (HT.out _).mono ?_; rintro e w1 ⟨rfl, hb1⟩)
          obtain ⟨hc, _, _⟩ := bl hb1
          have hA : A < wr.heap.size := World.block_lt_of_cell? wr ⟨A, off + k * 3, none⟩ c0
          have c2' := (hc A (off + k * 3 + 2) hA).trans c2
          have HB1 := Lib.hid (bl_step HB.out hb1)
          clear hb1 hc
          go_wp2_with (fail)
          (go_at_call 85; refine (HI.out _).mono ?_; rintro e wx ⟨rfl, rfl⟩)
          go_wp2
          go_ret
          exact ⟨(by rw [HPV.out]; rfl), HB1.out⟩
        case pos =>
          have e1 : (decide (1 ≤ m) && decide (m ≤ 3)) = true := by simp [hm]
          rw [e1] at HI
          have HN := Lib.hid (all_next HOK.out hx (vok_yes (x := ((s, b), m)) hv hm.1 hm.2))
          clear hx hv hb e1 HOK hm
          go_wp2_with (fail)
          (go_at_call 84; refine (HT.out _).mono ?_; rintro e w1 ⟨rfl, hb1⟩)
          obtain ⟨hc, _, _⟩ := bl hb1
          have hA : A < wr.heap.size := World.block_lt_of_cell? wr ⟨A, off + k * 3, none⟩ c0
          have c2' := (hc A (off + k * 3 + 2) hA).trans c2
          have HB1 := Lib.hid (bl_step HB.out hb1)
          clear hb1 hc HB
          go_wp2_with (fail)
          (go_at_call 85; refine (HI.out _).mono ?_; rintro e wx ⟨rfl, rfl⟩)
          go_wp2
          go_roundw
          case rel => exact ⟨k + 1, by omega, by go_num, HN.out, HB1.out⟩
          case measure => simp [intOf]; omega
    · have hkn : k = xs.length := by omega
      subst hkn
      have hall := HOK.out
      rw [List.take_length] at hall
      by_cases hl : xs.length ≤ 12
      · have HPV : Hid (pval xs = decide (bsm xs ≤ 24)) := by show _ = _; simp [pval, hall, hl]
        have HL := Lib.hid (l8Beats_any _ xs wr (HVV.out.below hb) hall hl)
        have g1 : decide ((xs.length : Int) ≤ 12) = true := decide_eq_true (by omega)
        generalize bsm xs = z at HL HPV
        clear hall hb HOK
        go_wp2_with (fail)
        (go_at_call 46; refine (HL.out).mono ?_; rintro e wx ⟨rfl, rfl⟩)
        go_wp2
        go_ret
        exact ⟨(by rw [HPV.out]; rfl), HB.out⟩
      · have HPV : Hid (pval xs = false) := pval_no2 hl
        have g1 : decide ((xs.length : Int) ≤ 12) = false := decide_eq_false (by omega)
        have g2 : decide (xs.length ≤ 12) = false := decide_eq_false hl
        clear hall hb HOK hl
        go_wp2
        go_ret
        exact ⟨(by rw [HPV.out]; rfl), HB.out⟩

set_option maxHeartbeats 1000000 in
theorem sPartBeats_any (v : Value) (xs : List Vc) (w : World) (h : VV w v xs) : Calls Tryd.prog 77 #[v] w fun e w' => e = .returned (.int .i64 (pbt xs)) ∧ Below w.heap.size w w' := by
  have HP := Lib.hid (sPartValid8_any v xs w h)
  have HVV := Lib.hid h
  clear h
  cases hp : pval xs with
  | false =>
    rw [pbt_no hp]
    rw [hp] at HP
    clear hp
    go_enter Tryd.func77, Tryd.ntmps77
    go_wp2_with (fail)
    (go_at_call 57; refine (HP.out).mono ?_; rintro e w1 ⟨rfl, hb1⟩)
    have HB := Lib.hid hb1
    clear hb1
    go_wp2
    go_ret
    exact ⟨rfl, HB.out⟩
  | true =>
    rw [pbt_yes hp]
    have HL := Lib.hid (fun w' hb => l8Beats_any v xs w' (HVV.out.below (w' := w') hb) (pval_in hp).1 (pval_in hp).2.1)
    rw [hp] at HP
    clear hp
    go_enter Tryd.func77, Tryd.ntmps77
    go_wp2_with (fail)
    (go_at_call 57; refine (HP.out).mono ?_; rintro e w1 ⟨rfl, hb1⟩)
    have HB := Lib.hid hb1
    clear hb1
    go_wp2_with (fail)
    (go_at_call 46; refine (HL.out _ HB.out).mono ?_; rintro e wx ⟨rfl, rfl⟩)
    go_wp2
    go_ret
    exact ⟨rfl, HB.out⟩

set_option maxHeartbeats 4000000 in
theorem l8At_any (v : Value) (xs : List Vc) (k : Nat) (w : World) (h : VV w v xs) (hall : xs.all vok = true) (hl : xs.length ≤ 12) (hk : (k : Int) < bsm xs) :
    Calls Tryd.prog 48 #[v, .int .i64 (k : Int)] w fun e w' => e = .returned (.agg #[.int .i64 (tnA (snd8 xs) k).1, .bool (tnA (snd8 xs) k).2]) ∧ Below w.heap.size w w' := by
  obtain ⟨a, c, rfl, ha, hc1, hc2⟩ := h
  unfold maxLen at hc2
  have HA := Lib.hid ha
  have HV := Lib.hid hall
  have h36 := bsm_in hall
  have hk36 : k < 36 := by omega
  have HK := Lib.hid hk
  obtain ⟨t, ht⟩ : ∃ t, tnA (snd8 xs) k = t := ⟨_, rfl⟩
  have HT := Lib.hid ht
  rw [ht]
  clear ha hall h36 hk ht
  go_enter Tryd.func48, Tryd.ntmps48
  go_wp2
  go_loopw [1, 5] (fun q i wr => ∃ (j p : Nat), i = .int .i64 (j : Int) ∧ q = .int .i64 (p : Int) ∧ p ≤ k ∧ j < xs.length ∧ Hid ((p : Int) < bsm (xs.drop j)) ∧ Hid (tnA (snd8 (xs.drop j)) p = t) ∧ wr = w.alloc (.cells #[.int .i64 0, .bool false] 41)) (fun _ i _ => xs.length - (intOf i).toNat)
  case atStart => exact ⟨0, k, rfl, rfl, Nat.le_refl _, by
    cases xs with
    | nil => have := HK.out; simp [bsm_nil] at this; omega
    | cons _ _ => simp, by rw [List.drop_zero]; exact HK, by rw [List.drop_zero]; exact HT, rfl⟩
  case round =>
    obtain ⟨j, p, rfl, rfl, hpk, hj, hpb, hpt, hwr⟩ := hrel
    obtain ⟨A, off, s, b, m, rfl, hx, c0, c1, c2⟩ := voice_at (wr := wr) HA.out (by rw [hwr]; exact (Below.refl _ _).alloc (Nat.le_refl _) _) hj
    obtain ⟨_, m1, m3⟩ := vok_in (all_get HV.out hx)
    simp only at m1 m3
    have hd := drop_get hx
    rw [hd] at hpb hpt
    have hpb2 := hpb.out
    rw [bsm_cons] at hpb2
    by_cases hge : m ≤ (p : Int)
    · obtain ⟨mn, rfl⟩ : ∃ q : Nat, m = (q : Int) := ⟨m.toNat, by omega⟩
      have h1 := hpt.out
      rw [tnA_skip (m := mn) rfl (by omega)] at h1
      have HJ : Hid (((p - mn : Nat) : Int) < bsm (xs.drop (j + 1))) := by show _ < _; simp only at hpb2; omega
      have H1 := Lib.hid h1
      have hj2 : j + 1 < xs.length := by
        rcases Nat.lt_or_ge (j + 1) xs.length with h | h
        · exact h
        · rw [List.drop_eq_nil_of_le h, bsm_nil] at hpb2
          simp only at hpb2
          omega
      obtain ⟨pn, hpn⟩ : ∃ q, p - mn = q := ⟨_, rfl⟩
      have wz : IntKind.i64.wrap ((p : Int) - (mn : Int)) = (pn : Int) := by rw [IntWalk.i64_in _ (by omega)]; omega
      rw [hpn] at HJ H1
      have hpnk : pn ≤ k := by omega
      have hgn : mn ≤ p := by omega
      have hgd : decide (mn ≤ p) = true := decide_eq_true hgn
      have hgd2 : decide ((mn : Int) ≤ (p : Int)) = true := decide_eq_true hge
      have HW := Lib.hid hwr
      clear hpb2 hpb hpt hx hd h1 hpn hwr
      go_wp2
      go_roundw
      case rel => exact ⟨j + 1, pn, by go_num, rfl, hpnk, hj2, HJ, H1, HW.out⟩
      case measure => simp [intOf]; omega
    · have h1 := hpt.out
      rw [tnA_cons (by simp only; omega)] at h1
      simp only at h1
      have g1 : decide (m ≤ (p : Int)) = false := decide_eq_false hge
      clear hpb2 hpb hpt hx hd HT
      subst h1
      have hh := heap_alloc_new w (.cells #[.int .i64 0, .bool false] 41)
      rw [← hwr] at hh
      have r0 : wr.cell? ⟨w.heap.size, 0, none⟩ = some (.int .i64 0) := by simp [World.cell?, hh]
      have r1 : wr.cell? ⟨w.heap.size, 1, none⟩ = some (.bool false) := by simp [World.cell?, hh]
      have rf : ∀ o, wr.frozen? ⟨w.heap.size, o, none⟩ = false := fun o => by simp [World.frozen?, hh]
      have hbw : Below w.heap.size w wr := by rw [hwr]; exact (Below.refl _ _).alloc (Nat.le_refl _) _
      clear hwr hh
      go_wp2
      refine bodyPost_ret (v := .agg #[.int .i64 s, .bool b]) (by simp only [results, Tryd.results48]; go_simp) rfl ⟨rfl, ?_⟩; (repeat' (first | (with_reducible exact Below.refl _ _) | (with_reducible refine Below.alloc ?_ ?_ _) | (with_reducible refine Below.drew ?_) | (with_reducible refine Below.setCell ?_ ?_ _) | (with_reducible refine bl_step ?_ (by assumption)) | go_size))
end Go.Proofs.YticapinlnlpbpaaDoor
