/-
  PsalmBest, in both programs.
-/
import Derived.Test.YtcmcdomfmmjogaaPsl3
import Derived.Test.YtcmcdomfmmjogaaPsm3
import Derived.Test.YtcmcdomfmmjogaaPsq
import Derived.Deep.RegionWith
namespace Go.Proofs.Ytcmcdomfmmjogaa
open Go.RowKit
set_option maxRecDepth 100000
set_option linter.unusedVariables false

theorem pB_no {ps : List Psa} {s : ByteArray} (h : (vvl s.data.toList && ps.all pv) = false) : pB ps s = (0, false) := by unfold pB; rw [h]; rfl
theorem pB_yes {ps : List Psa} {s : ByteArray} (h : (vvl s.data.toList && ps.all pv) = true) : pB ps s = ((bG s ps 0 0 (-1)).1, decide (0 ≤ (bG s ps 0 0 (-1)).2)) := by unfold pB; rw [h]; rfl

theorem psA_top (p : Psa) (s : ByteArray) : psA p s ≤ 20 ∧ (psA p s = -1 ∨ 0 ≤ psA p s) := by
  cases h : pfit p s with
  | false => rw [psA_no h]; omega
  | true =>
    have h1 := (psA_le h).1
    have h2 := vacc_count s
    have h3 := vhalf_size s
    have h4 := List.count_le_length (a := (47 : UInt8)) (l := (vFst s).data.toList)
    have h5 := List.count_le_length (a := (47 : UInt8)) (l := (vSnd s).data.toList)
    have h6 : (vFst s).data.toList.length = (vFst s).size := rfl
    have h7 : (vSnd s).data.toList.length = (vSnd s).size := rfl
    have h8 := (psA_low p s).2
    omega

set_option maxHeartbeats 4000000 in
theorem psalmBest_any (v : Value) (ps : List Psa) (s : ByteArray) (hs : s.size ≤ 1048577) (w : World) (h : PLV w v ps) (hm : MaxAt w) :
    Calls Try.prog 33 #[v, .string s] w fun e w' => e = .returned (.tuple #[.int .i64 (pB ps s).1, .bool (pB ps s).2]) ∧ Below w.heap.size w w' := by
  have KV := Lib.hid (verseValid_any s hs w hm)
  have KA := Lib.hid (fun W (hb : Below w.heap.size w W) => allPsalms_any v ps W (h.below hb))
  have HM := Lib.hid (fun W (hb : Below w.heap.size w W) => hm.below hb)
  have KP := Lib.hid (fun v p W (hv : PV W v p) (hb : Below w.heap.size w W) => psalmAccents_any v p s hs W hv (hm.below hb))
  obtain ⟨a, c, rfl, hl, hat⟩ := h.at
  have HAT := Lib.hid hat
  clear h hat hm
  cases hok : vvl s.data.toList with
  | false =>
    have HP := Lib.hid (pB_no (ps := ps) (s := s) (by rw [hok]; rfl))
    rw [hok] at KV
    rw [HP.out]
    clear hok
    go_enter Try.func33, Try.ntmps33
    go_wp2_with (fail)
    (go_at_call 23; refine (KV.out).mono ?_; rintro e w1 ⟨rfl, hb1⟩; have hbw1 : Below w.heap.size w w1 := by (repeat' (first | (with_reducible assumption) | (with_reducible exact Below.refl _ _) | (with_reducible refine Below.alloc ?_ ?_ _) | (with_reducible refine Below.drew ?_) | (with_reducible refine Below.setCell ?_ ?_ _) | (with_reducible refine below_gb ?_ (by assumption) ?_) | (with_reducible refine bl_step ?_ (by assumption)) | go_size)))
    go_wp2
    refine bodyPost_ret (v := .tuple #[.int .i64 0, .bool false]) (by simp only [results, Try.results33]; go_simp) rfl ⟨rfl, ?_⟩
    exact hbw1
  | true =>
    cases hall : ps.all pv with
    | false =>
      have HP := Lib.hid (pB_no (ps := ps) (s := s) (by rw [hok, hall]; rfl))
      rw [hok] at KV
      rw [hall] at KA
      rw [HP.out]
      clear hok hall
      go_enter Try.func33, Try.ntmps33
      go_wp2_with (fail)
      (go_at_call 23; refine (KV.out).mono ?_; rintro e w1 ⟨rfl, hb1⟩; have hbw1 : Below w.heap.size w w1 := (by (repeat' (first | (with_reducible assumption) | (with_reducible exact Below.refl _ _) | (with_reducible refine Below.alloc ?_ ?_ _) | (with_reducible refine Below.drew ?_) | (with_reducible refine Below.setCell ?_ ?_ _) | (with_reducible refine below_gb ?_ (by assumption) ?_) | (with_reducible refine bl_step ?_ (by assumption)) | go_size))))
      go_wp2_with (fail)
      (go_at_call 61; refine (KA.out _ (by (repeat' (first | (with_reducible assumption) | (with_reducible exact Below.refl _ _) | (with_reducible refine Below.alloc ?_ ?_ _) | (with_reducible refine Below.drew ?_) | (with_reducible refine Below.setCell ?_ ?_ _) | (with_reducible refine below_gb ?_ (by assumption) ?_) | (with_reducible refine bl_step ?_ (by assumption)) | go_size)))).mono ?_; rintro e w2 ⟨rfl, hb2⟩; have hbw2 : Below w.heap.size w w2 := bl_step hbw1 hb2)
      go_wp2
      refine bodyPost_ret (v := .tuple #[.int .i64 0, .bool false]) (by simp only [results, Try.results33]; go_simp) rfl ⟨rfl, ?_⟩
      exact hbw2
    | true =>
      have HP := Lib.hid (pB_yes (ps := ps) (s := s) (by rw [hok, hall]; rfl))
      have HST : Hid (bG s (ps.drop 0) 0 0 (-1) = bG s ps 0 0 (-1)) := (rfl : bG s (ps.drop 0) 0 0 (-1) = bG s ps 0 0 (-1))
      have HEND : Hid (∀ b m, bG s (ps.drop ps.length) ps.length b m = (b, m)) := by intro b m; rw [List.drop_length]; rfl
      have HSP := Lib.hid (fun k p (h : ps[k]? = some p) b m => bG_step (s := s) h b m)
      rw [hok] at KV
      rw [hall] at KA
      rw [HP.out]
      generalize bG s ps 0 0 (-1) = r at HST ⊢
      clear hok hall HP
      go_enter Try.func33, Try.ntmps33
      go_wp2_with (fail)
      (go_at_call 23; refine (KV.out).mono ?_; rintro e w1 ⟨rfl, hb1⟩; have hbw1 : Below w.heap.size w w1 := (by (repeat' (first | (with_reducible assumption) | (with_reducible exact Below.refl _ _) | (with_reducible refine Below.alloc ?_ ?_ _) | (with_reducible refine Below.drew ?_) | (with_reducible refine Below.setCell ?_ ?_ _) | (with_reducible refine below_gb ?_ (by assumption) ?_) | (with_reducible refine bl_step ?_ (by assumption)) | go_size))))
      go_wp2_with (fail)
      (go_at_call 61; refine (KA.out _ (by (repeat' (first | (with_reducible assumption) | (with_reducible exact Below.refl _ _) | (with_reducible refine Below.alloc ?_ ?_ _) | (with_reducible refine Below.drew ?_) | (with_reducible refine Below.setCell ?_ ?_ _) | (with_reducible refine below_gb ?_ (by assumption) ?_) | (with_reducible refine bl_step ?_ (by assumption)) | go_size)))).mono ?_; rintro e w2 ⟨rfl, hb2⟩; have hbw2 : Below w.heap.size w w2 := bl_step hbw1 hb2)
      have HB2 := Lib.hid hbw2
      clear hb1 hb2 hbw1 hbw2
      go_wp2
      go_loopw [6, 7, 21] (fun b m i wr => ∃ k q : Nat, ∃ mm : Int, k ≤ ps.length ∧ q ≤ ps.length ∧ -1 ≤ mm ∧ mm ≤ 20 ∧ i = .int .i64 k ∧ b = .int .i64 q ∧ m = .int .i64 mm ∧ bG s (ps.drop k) k q mm = r ∧ Below w.heap.size w wr) (fun _ _ i _ => ps.length - (intOf i).toNat)
      case atStart => exact ⟨0, 0, -1, Nat.zero_le _, Nat.zero_le _, by omega, by omega, rfl, rfl, rfl, HST.out, HB2.out⟩
      case round =>
        obtain ⟨k, q, mm, hk, hq, hm1, hm2, rfl, rfl, rfl, hr, hb⟩ := hrel
        by_cases hlt : k < ps.length
        · obtain ⟨p, hx⟩ := ps_get hlt
          obtain ⟨A, off, b0, b1, b2, d0, d1, d2, rfl, hA, e0, e1, e2, e3, e4, hv⟩ := HAT.out k p hx
          have e0 := (hb.cell (p := ⟨A, off + k * 5, none⟩) hA).trans e0
          have e1 := (hb.cell (p := ⟨A, off + k * 5 + 1, none⟩) hA).trans e1
          have e2 := (hb.cell (p := ⟨A, off + k * 5 + 2, none⟩) hA).trans e2
          have e3 := (hb.cell (p := ⟨A, off + k * 5 + 3, none⟩) hA).trans e3
          have e4 := (hb.cell (p := ⟨A, off + k * 5 + 4, none⟩) hA).trans e4
          have KV := Lib.hid (fun W (hb : Below w.heap.size w W) => KP.out _ p W (hv.below hb) hb)
          have hk0 : (0 : Int) ≤ (k : Int) := by omega
          have hk1 : (k : Int) < (ps.length : Int) := by omega
          have hs := HSP.out k p hx q mm
          rw [hr] at hs
          have HS := Lib.hid hs
          have hlo := psA_top p s
          clear hs hv hr hx
          generalize p.st.length = q0 at *
          generalize p.mi.length = q1 at *
          generalize p.en.length = q2 at *
          generalize psA p s = g at KV HS hlo
          by_cases hg : mm < g
          · have gg : decide (mm < g) = true := decide_eq_true hg
            go_wp2_with (fail)
            (go_at_call 29; refine (KV.out _ (hb.alloc hb.size _)).mono ?_; rintro e w3 ⟨rfl, hb3⟩)
            go_wp2
            go_roundw
            case rel => exact ⟨k + 1, k, g, by omega, by omega, by omega, by omega, by go_num, rfl, rfl, by rw [HS.out, if_pos (by omega)], bl_step (hb.alloc hb.size _) hb3⟩
            case measure => simp [intOf]; omega
          · have gg : decide (mm < g) = false := decide_eq_false hg
            go_wp2_with (fail)
            (go_at_call 29; refine (KV.out _ (hb.alloc hb.size _)).mono ?_; rintro e w3 ⟨rfl, hb3⟩)
            go_wp2
            go_roundw
            case rel => exact ⟨k + 1, q, mm, by omega, by omega, by omega, by omega, by go_num, rfl, rfl, by rw [HS.out, if_neg (by omega)], bl_step (hb.alloc hb.size _) hb3⟩
            case measure => simp [intOf]; omega
        · have hkn : k = ps.length := by omega
          subst hkn
          have HR : Hid (r = (q, mm)) := hr.symm.trans (HEND.out q mm)
          clear hr
          go_wp2
          refine bodyPost_ret (v := .tuple #[.int .i64 q, .bool (decide (0 ≤ mm))]) (by simp only [results, Try.results33]; go_simp) rfl ⟨by rw [HR.out], hb⟩

set_option maxHeartbeats 4000000 in
theorem sPsalmBest_any (v : Value) (ps : List Psa) (s : ByteArray) (hs : s.size ≤ 1048577) (w : World) (h : PLV w v ps) :
    Calls Try.prog 34 #[v, .string s] w fun e w' => e = .returned (.tuple #[.int .i64 (pB ps s).1, .bool (pB ps s).2]) ∧ Below w.heap.size w w' := by
  have KV := Lib.hid (fun W => sVerseValid_any s (by omega) W)
  have KA := Lib.hid (l4All_any v ps w h)
  have KP := Lib.hid (fun v p W (hv : PV W v p) => sPsalmAccents_any v p s hs W hv)
  obtain ⟨a, c, rfl, hl, hat⟩ := h.at
  have HAT := Lib.hid hat
  clear h hat
  cases hall : ps.all pv with
  | false =>
    have HP := Lib.hid (pB_no (ps := ps) (s := s) (by rw [hall, Bool.and_false]))
    rw [hall] at KA
    rw [HP.out]
    clear hall
    go_enter Try.func34, Try.ntmps34
    go_wp2_with (fail)
    (go_at_call 62; refine (KA.out).mono ?_; rintro e w1 ⟨rfl, hb1⟩; have hbw1 : Below w.heap.size w w1 := by (repeat' (first | (with_reducible assumption) | (with_reducible exact Below.refl _ _) | (with_reducible refine Below.alloc ?_ ?_ _) | (with_reducible refine Below.drew ?_) | (with_reducible refine Below.setCell ?_ ?_ _) | (with_reducible refine below_gb ?_ (by assumption) ?_) | (with_reducible refine bl_step ?_ (by assumption)) | go_size)))
    go_wp2
    refine bodyPost_ret (v := .tuple #[.int .i64 0, .bool false]) (by simp only [results, Try.results34]; go_simp) rfl ⟨rfl, ?_⟩
    exact hbw1
  | true =>
    cases hok : vvl s.data.toList with
    | false =>
      have HP := Lib.hid (pB_no (ps := ps) (s := s) (by rw [hok]; rfl))
      rw [hok] at KV
      rw [hall] at KA
      rw [HP.out]
      clear hok hall
      go_enter Try.func34, Try.ntmps34
      go_wp2_with (fail)
      (go_at_call 62; refine (KA.out).mono ?_; rintro e w1 ⟨rfl, hb1⟩; have hbw1 : Below w.heap.size w w1 := (by (repeat' (first | (with_reducible assumption) | (with_reducible exact Below.refl _ _) | (with_reducible refine Below.alloc ?_ ?_ _) | (with_reducible refine Below.drew ?_) | (with_reducible refine Below.setCell ?_ ?_ _) | (with_reducible refine below_gb ?_ (by assumption) ?_) | (with_reducible refine bl_step ?_ (by assumption)) | go_size))))
      go_wp2_with (fail)
      (go_at_call 55; refine (KV.out _).mono ?_; rintro e w2 ⟨rfl, hb2⟩; have hbw2 : Below w.heap.size w w2 := bl_step hbw1 hb2)
      go_wp2
      refine bodyPost_ret (v := .tuple #[.int .i64 0, .bool false]) (by simp only [results, Try.results34]; go_simp) rfl ⟨rfl, ?_⟩
      exact hbw2
    | true =>
      have HP := Lib.hid (pB_yes (ps := ps) (s := s) (by rw [hok, hall]; rfl))
      have HST : Hid (bG s (ps.drop 0) 0 0 (-1) = bG s ps 0 0 (-1)) := (rfl : bG s (ps.drop 0) 0 0 (-1) = bG s ps 0 0 (-1))
      have HEND : Hid (∀ b m, bG s (ps.drop ps.length) ps.length b m = (b, m)) := by intro b m; rw [List.drop_length]; rfl
      have HSP := Lib.hid (fun k p (h : ps[k]? = some p) b m => bG_step (s := s) h b m)
      rw [hok] at KV
      rw [hall] at KA
      rw [HP.out]
      generalize bG s ps 0 0 (-1) = r at HST ⊢
      clear hok hall HP
      go_enter Try.func34, Try.ntmps34
      go_wp2_with (fail)
      (go_at_call 62; refine (KA.out).mono ?_; rintro e w1 ⟨rfl, hb1⟩; have hbw1 : Below w.heap.size w w1 := (by (repeat' (first | (with_reducible assumption) | (with_reducible exact Below.refl _ _) | (with_reducible refine Below.alloc ?_ ?_ _) | (with_reducible refine Below.drew ?_) | (with_reducible refine Below.setCell ?_ ?_ _) | (with_reducible refine below_gb ?_ (by assumption) ?_) | (with_reducible refine bl_step ?_ (by assumption)) | go_size))))
      go_wp2_with (fail)
      (go_at_call 55; refine (KV.out _).mono ?_; rintro e w2 ⟨rfl, hb2⟩; have hbw2 : Below w.heap.size w w2 := bl_step hbw1 hb2)
      have HB2 := Lib.hid hbw2
      clear hb1 hb2 hbw1 hbw2
      go_wp2
      go_loopw [6, 7, 8] (fun b m i wr => ∃ k q : Nat, ∃ mm bi : Int, k ≤ ps.length ∧ q ≤ ps.length ∧ mm ≤ 20 ∧ i = .int .i64 k ∧ b = .int .i64 bi ∧ m = .int .i64 mm ∧ ((mm = -1 ∧ bi = -1 ∧ q = 0) ∨ (0 ≤ mm ∧ bi = q)) ∧ bG s (ps.drop k) k q mm = r ∧ Below w.heap.size w wr) (fun _ _ i _ => ps.length - (intOf i).toNat)
      case atStart => exact ⟨0, 0, -1, -1, Nat.zero_le _, Nat.zero_le _, by omega, rfl, rfl, rfl, .inl ⟨rfl, rfl, rfl⟩, HST.out, HB2.out⟩
      case round =>
        obtain ⟨k, q, mm, bi, hk, hq, hm2, rfl, rfl, rfl, hbi, hr, hb⟩ := hrel
        have HBI := Lib.hid hbi
        have hm1 : -1 ≤ mm := by omega
        have hbi1 : -1 ≤ bi ∧ bi ≤ 9223372036854775807 := by omega
        clear hbi
        by_cases hlt : k < ps.length
        · obtain ⟨p, hx⟩ := ps_get hlt
          obtain ⟨A, off, b0, b1, b2, d0, d1, d2, rfl, hA, e0, e1, e2, e3, e4, hv⟩ := HAT.out k p hx
          have e0 := (hb.cell (p := ⟨A, off + k * 5, none⟩) hA).trans e0
          have e1 := (hb.cell (p := ⟨A, off + k * 5 + 1, none⟩) hA).trans e1
          have e2 := (hb.cell (p := ⟨A, off + k * 5 + 2, none⟩) hA).trans e2
          have e3 := (hb.cell (p := ⟨A, off + k * 5 + 3, none⟩) hA).trans e3
          have e4 := (hb.cell (p := ⟨A, off + k * 5 + 4, none⟩) hA).trans e4
          have KV := Lib.hid (fun W (hb : Below w.heap.size w W) => KP.out _ p W (hv.below hb))
          have hk0 : (0 : Int) ≤ (k : Int) := by omega
          have hk1 : (k : Int) < (ps.length : Int) := by omega
          have hs := HSP.out k p hx q mm
          rw [hr] at hs
          have HS := Lib.hid hs
          have hlo := psA_top p s
          clear hs hv hr hx
          generalize p.st.length = q0 at *
          generalize p.mi.length = q1 at *
          generalize p.en.length = q2 at *
          generalize psA p s = g at KV HS hlo
          by_cases hg : mm < g
          · have gg : decide (mm < g) = true := decide_eq_true hg
            go_wp2_with (fail)
            (go_at_call 30; refine (KV.out _ hb).mono ?_; rintro e w3 ⟨rfl, hb3⟩)
            go_wp2
            go_roundw
            case rel => exact ⟨k + 1, k, g, k, by omega, by omega, by omega, by go_num, rfl, rfl, .inr ⟨by omega, rfl⟩, by rw [HS.out, if_pos (by omega)], bl_step hb hb3⟩
            case measure => simp [intOf]; omega
          · have gg : decide (mm < g) = false := decide_eq_false hg
            go_wp2_with (fail)
            (go_at_call 30; refine (KV.out _ hb).mono ?_; rintro e w3 ⟨rfl, hb3⟩)
            go_wp2
            go_roundw
            case rel => exact ⟨k + 1, q, mm, bi, by omega, by omega, by omega, by go_num, rfl, rfl, HBI.out, by rw [HS.out, if_neg (by omega)], bl_step hb hb3⟩
            case measure => simp [intOf]; omega
        · have hkn : k = ps.length := by omega
          subst hkn
          have HR : Hid (r = (q, mm)) := hr.symm.trans (HEND.out q mm)
          clear hr
          rcases HBI.out with ⟨rfl, rfl, rfl⟩ | ⟨h0, rfl⟩
          · go_wp2
            refine bodyPost_ret (v := .tuple #[.int .i64 0, .bool false]) (by simp only [results, Try.results34]; go_simp) rfl ⟨by rw [HR.out]; rfl, hb⟩
          · have HD : Hid (decide (0 ≤ mm) = true) := decide_eq_true h0
            have hq0 : ¬ ((q : Int) < 0) := by omega
            go_wp2
            refine bodyPost_ret (v := .tuple #[.int .i64 q, .bool true]) (by simp only [results, Try.results34]; go_simp) rfl ⟨by rw [HR.out]; show _ = Ending.returned (.tuple #[.int .i64 q, .bool (decide (0 ≤ mm))]); rw [HD.out], hb⟩
end Go.Proofs.Ytcmcdomfmmjogaa
