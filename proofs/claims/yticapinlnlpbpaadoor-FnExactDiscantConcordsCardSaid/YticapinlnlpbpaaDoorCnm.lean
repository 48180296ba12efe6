/-
  Concords of two parts at a beat, in the model.
-/
import Derived.Test.YticapinlnlpbpaaDoorDs
import Derived.Test.YticapinlnlpbpaaDoorCd8
import Derived.Test.YticapinlnlpbpaaDoorIvq
import Derived.Deep.AppendLies
namespace Go.Proofs.YticapinlnlpbpaaDoor
open Go.RowKit
set_option maxRecDepth 100000
set_option linter.unusedVariables false

theorem l1Size_any (n : Int) (h0 : -20 ≤ n) (h1 : n ≤ 20) (w : World) : Calls Tryd.prog 78 #[.int .i64 n] w fun e w' => e = .returned (.int .i64 (max n (-n))) ∧ w' = w := by
  have w1 : IntKind.i64.wrap (0 - n) = 0 - n := IntWalk.i64_in _ (by omega)
  have w2 : IntKind.i64.wrap (-n) = -n := IntWalk.i64_in _ (by omega)
  by_cases hn : n < 0
  · have g1 : n < 0 - n := by omega
    go_enter Tryd.func78, Tryd.ntmps78
    go_wp2
    go_ret
    exact ⟨rfl, rfl⟩
  · have g1 : ¬ n < 0 - n := by omega
    go_enter Tryd.func78, Tryd.ntmps78
    go_wp2
    go_ret
    exact ⟨rfl, rfl⟩
theorem ivw_last (n x : Int) : ∃ L : Nat, L ≤ 2 ∧ (ivw n x).size = L + 1 ∧ ∀ h : L < (ivw n x).size, (ivw n x)[L] = ivl n x := by
  have hl := dec2_len (n + 1).toNat
  refine ⟨(dec2 (n + 1).toNat).length, hl, by show (dec2 (n + 1).toNat ++ [ivl n x]).toArray.size = _; simp, fun h => ?_⟩
  exact List.getElem_concat_length (l := dec2 (n + 1).toNat) (a := ivl n x) rfl (by simp)

set_option maxHeartbeats 4000000 in
theorem l8Concord_any (s t : Int) (b c : Bool) (hv : vd s b = true) (hu : vd t c = true) (w : World) :
    Calls Tryd.prog 47 #[.agg #[.int .i64 s, .bool b], .agg #[.int .i64 t, .bool c]] w fun e w' => e = .returned (.bool (cnc (s, b) (t, c))) ∧ Below w.heap.size w w' := by
  have KI := Lib.hid (fun w => sToneInterval_any s t b c w)
  rw [ivt_yes hv hu] at KI
  obtain ⟨h0, h1⟩ := vd_in hv
  obtain ⟨h2, h3⟩ := vd_in hu
  have KS := Lib.hid (l1Size_any (s - t) (by omega) (by omega))
  have en : max (s - t) (-(s - t)) = ivN s t := by unfold ivN; rw [Int.max_def]; split <;> split <;> omega
  rw [en] at KS
  have hn0 : 0 ≤ ivN s t ∧ ivN s t ≤ 20 := by unfold ivN; split <;> omega
  have ws : IntKind.i64.wrap (s - t) = s - t := IntWalk.i64_in _ (by omega)
  have ec : cnc (s, b) (t, c) = (ivl (ivN s t) (ivX s b t c) == 112) := rfl
  have HP := Lib.hid (cnc_pur_all (s, b) (vd_allT hv) (t, c) (vd_allT hu))
  rw [ec] at HP ⊢
  simp only at HP
  clear ec en
  generalize ivN s t = n at KI KS HP hn0 ⊢
  generalize ivX s b t c = x at KI HP ⊢
  obtain ⟨N, rfl⟩ : ∃ N : Nat, n = (N : Int) := ⟨n.toNat, by omega⟩
  by_cases hp : pur (N : Int) = true
  case neg =>
    have hc : (ivl (N : Int) x == 112) = false := by
      rw [← Bool.not_eq_true]; exact fun e => hp (HP.out e)
    rw [hc]
    have g0 : ((N : Int) % 7 == 0) = false := by rw [beq_eq_false_iff_ne]; intro e; exact hp (by unfold pur; rw [e]; rfl)
    have g3 : ((N : Int) % 7 == 3) = false := by rw [beq_eq_false_iff_ne]; intro e; exact hp (by unfold pur; rw [e]; rfl)
    have g4 : ((N : Int) % 7 == 4) = false := by rw [beq_eq_false_iff_ne]; intro e; exact hp (by unfold pur; rw [e]; rfl)
    clear HP hc hp
    generalize ivw (N : Int) x = q at KI
    go_enter Tryd.func47, Tryd.ntmps47
    go_wp2_with (fail)
    (go_at_call 78; refine (KS.out _).mono ?_; rintro e wx ⟨rfl, rfl⟩)
    go_wp2_with (fail)
    (go_at_call 79; refine (KI.out _).mono ?_; rintro e w1 ⟨rfl, hb1⟩; obtain ⟨hc1, hf1, hz1⟩ := bl hb1; (try simp at hz1); (try (refine got (p := w.heap.size < w1.heap.size) ?_ ?_; (focus (go_size; done)); intro q1_w0)); (try (refine got (p := w1.cell? ⟨w.heap.size, 0, none⟩ = some (.int .i64 s)) ?_ ?_; (focus (refine (hc1 _ _ ?_).trans ?_; (focus (go_size; done)); go_simp; done)); intro c1_w0_0)); (try (refine got (p := w1.cell? ⟨w.heap.size, 1, none⟩ = some (.bool b)) ?_ ?_; (focus (refine (hc1 _ _ ?_).trans ?_; (focus (go_size; done)); go_simp; done)); intro c1_w0_1)); (try (refine got (p := ∀ o, w1.frozen? ⟨w.heap.size, o, none⟩ = false) ?_ ?_; (focus (intro o; refine (hf1 _ _ ?_).trans ?_; (focus (go_size; done)); go_simp; done)); intro f1_w0)); (try (refine got (p := w.heap.size + 1 < w1.heap.size) ?_ ?_; (focus (go_size; done)); intro q1_w1)); (try (refine got (p := w1.cell? ⟨w.heap.size + 1, 0, none⟩ = some (.int .i64 t)) ?_ ?_; (focus (refine (hc1 _ _ ?_).trans ?_; (focus (go_size; done)); go_simp; done)); intro c1_w1_0)); (try (refine got (p := w1.cell? ⟨w.heap.size + 1, 1, none⟩ = some (.bool c)) ?_ ?_; (focus (refine (hc1 _ _ ?_).trans ?_; (focus (go_size; done)); go_simp; done)); intro c1_w1_1)); (try (refine got (p := ∀ o, w1.frozen? ⟨w.heap.size + 1, o, none⟩ = false) ?_ ?_; (focus (intro o; refine (hf1 _ _ ?_).trans ?_; (focus (go_size; done)); go_simp; done)); intro f1_w1)); clear hc1 hf1)
    go_wp2
    go_ret
    exact ⟨rfl, by (repeat' (first | (with_reducible exact Below.refl _ _) | (with_reducible refine Below.alloc ?_ ?_ _) | (with_reducible refine Below.drew ?_) | (with_reducible refine Below.setCell ?_ ?_ _) | (with_reducible refine bl_step ?_ (by assumption)) | go_size))⟩
  case pos =>
    obtain ⟨L, hL, hsz, hat⟩ := ivw_last (N : Int) x
    have wL : IntKind.i64.wrap ((L + 1 : Nat) - 1 : Int) = (L : Int) := by rw [IntWalk.i64_in _ (by omega)]; omega
    generalize ivl (N : Int) x = z at hat ⊢
    generalize ivw (N : Int) x = q at KI hsz hat
    have hat := hat (by omega)
    clear HP
    have h3 : (N : Int) % 7 = 0 ∨ (N : Int) % 7 = 3 ∨ (N : Int) % 7 = 4 := by
      unfold pur at hp
      simp only [Bool.or_eq_true, beq_iff_eq] at hp
      omega
    clear hp
    have ez : ((z.toNat : Int) == 112) = (z == 112) := by
      rw [Bool.eq_iff_iff, beq_iff_eq, beq_iff_eq]
      constructor
      · intro e; exact UInt8.toNat_inj.1 (by have h9 : (112 : UInt8).toNat = 112 := rfl; omega)
      · intro e; rw [e]; rfl
    rcases h3 with g | g | g
    · have g0 : ((N : Int) % 7 == 0) = true := by rw [beq_iff_eq]; exact g
      go_enter Tryd.func47, Tryd.ntmps47
      go_wp2_with (fail)
      (go_at_call 78; refine (KS.out _).mono ?_; rintro e wx ⟨rfl, rfl⟩)
      go_wp2_with (fail)
      (go_at_call 79; refine (KI.out _).mono ?_; rintro e w1 ⟨rfl, hb1⟩; obtain ⟨hc1, hf1, hz1⟩ := bl hb1; (try simp at hz1); (try (refine got (p := w.heap.size < w1.heap.size) ?_ ?_; (focus (go_size; done)); intro q1_w0)); (try (refine got (p := w1.cell? ⟨w.heap.size, 0, none⟩ = some (.int .i64 s)) ?_ ?_; (focus (refine (hc1 _ _ ?_).trans ?_; (focus (go_size; done)); go_simp; done)); intro c1_w0_0)); (try (refine got (p := w1.cell? ⟨w.heap.size, 1, none⟩ = some (.bool b)) ?_ ?_; (focus (refine (hc1 _ _ ?_).trans ?_; (focus (go_size; done)); go_simp; done)); intro c1_w0_1)); (try (refine got (p := ∀ o, w1.frozen? ⟨w.heap.size, o, none⟩ = false) ?_ ?_; (focus (intro o; refine (hf1 _ _ ?_).trans ?_; (focus (go_size; done)); go_simp; done)); intro f1_w0)); (try (refine got (p := w.heap.size + 1 < w1.heap.size) ?_ ?_; (focus (go_size; done)); intro q1_w1)); (try (refine got (p := w1.cell? ⟨w.heap.size + 1, 0, none⟩ = some (.int .i64 t)) ?_ ?_; (focus (refine (hc1 _ _ ?_).trans ?_; (focus (go_size; done)); go_simp; done)); intro c1_w1_0)); (try (refine got (p := w1.cell? ⟨w.heap.size + 1, 1, none⟩ = some (.bool c)) ?_ ?_; (focus (refine (hc1 _ _ ?_).trans ?_; (focus (go_size; done)); go_simp; done)); intro c1_w1_1)); (try (refine got (p := ∀ o, w1.frozen? ⟨w.heap.size + 1, o, none⟩ = false) ?_ ?_; (focus (intro o; refine (hf1 _ _ ?_).trans ?_; (focus (go_size; done)); go_simp; done)); intro f1_w1)); clear hc1 hf1)
      go_wp2
      go_ret
      exact ⟨rfl, by (repeat' (first | (with_reducible exact Below.refl _ _) | (with_reducible refine Below.alloc ?_ ?_ _) | (with_reducible refine Below.drew ?_) | (with_reducible refine Below.setCell ?_ ?_ _) | (with_reducible refine bl_step ?_ (by assumption)) | go_size))⟩
    · have g0 : ((N : Int) % 7 == 0) = false := by rw [beq_eq_false_iff_ne]; omega
      have g3 : ((N : Int) % 7 == 3) = true := by rw [beq_iff_eq]; exact g
      go_enter Tryd.func47, Tryd.ntmps47
      go_wp2_with (fail)
      (go_at_call 78; refine (KS.out _).mono ?_; rintro e wx ⟨rfl, rfl⟩)
      go_wp2_with (fail)
      (go_at_call 79; refine (KI.out _).mono ?_; rintro e w1 ⟨rfl, hb1⟩; obtain ⟨hc1, hf1, hz1⟩ := bl hb1; (try simp at hz1); (try (refine got (p := w.heap.size < w1.heap.size) ?_ ?_; (focus (go_size; done)); intro q1_w0)); (try (refine got (p := w1.cell? ⟨w.heap.size, 0, none⟩ = some (.int .i64 s)) ?_ ?_; (focus (refine (hc1 _ _ ?_).trans ?_; (focus (go_size; done)); go_simp; done)); intro c1_w0_0)); (try (refine got (p := w1.cell? ⟨w.heap.size, 1, none⟩ = some (.bool b)) ?_ ?_; (focus (refine (hc1 _ _ ?_).trans ?_; (focus (go_size; done)); go_simp; done)); intro c1_w0_1)); (try (refine got (p := ∀ o, w1.frozen? ⟨w.heap.size, o, none⟩ = false) ?_ ?_; (focus (intro o; refine (hf1 _ _ ?_).trans ?_; (focus (go_size; done)); go_simp; done)); intro f1_w0)); (try (refine got (p := w.heap.size + 1 < w1.heap.size) ?_ ?_; (focus (go_size; done)); intro q1_w1)); (try (refine got (p := w1.cell? ⟨w.heap.size + 1, 0, none⟩ = some (.int .i64 t)) ?_ ?_; (focus (refine (hc1 _ _ ?_).trans ?_; (focus (go_size; done)); go_simp; done)); intro c1_w1_0)); (try (refine got (p := w1.cell? ⟨w.heap.size + 1, 1, none⟩ = some (.bool c)) ?_ ?_; (focus (refine (hc1 _ _ ?_).trans ?_; (focus (go_size; done)); go_simp; done)); intro c1_w1_1)); (try (refine got (p := ∀ o, w1.frozen? ⟨w.heap.size + 1, o, none⟩ = false) ?_ ?_; (focus (intro o; refine (hf1 _ _ ?_).trans ?_; (focus (go_size; done)); go_simp; done)); intro f1_w1)); clear hc1 hf1)
      go_wp2
      go_ret
      exact ⟨rfl, by (repeat' (first | (with_reducible exact Below.refl _ _) | (with_reducible refine Below.alloc ?_ ?_ _) | (with_reducible refine Below.drew ?_) | (with_reducible refine Below.setCell ?_ ?_ _) | (with_reducible refine bl_step ?_ (by assumption)) | go_size))⟩
    · have g0 : ((N : Int) % 7 == 0) = false := by rw [beq_eq_false_iff_ne]; omega
      have g3 : ((N : Int) % 7 == 3) = false := by rw [beq_eq_false_iff_ne]; omega
      have g4 : ((N : Int) % 7 == 4) = true := by rw [beq_iff_eq]; exact g
      go_enter Tryd.func47, Tryd.ntmps47
      go_wp2_with (fail)
      (go_at_call 78; refine (KS.out _).mono ?_; rintro e wx ⟨rfl, rfl⟩)
      go_wp2_with (fail)
      (go_at_call 79; refine (KI.out _).mono ?_; rintro e w1 ⟨rfl, hb1⟩; obtain ⟨hc1, hf1, hz1⟩ := bl hb1; (try simp at hz1); (try (refine got (p := w.heap.size < w1.heap.size) ?_ ?_; (focus (go_size; done)); intro q1_w0)); (try (refine got (p := w1.cell? ⟨w.heap.size, 0, none⟩ = some (.int .i64 s)) ?_ ?_; (focus (refine (hc1 _ _ ?_).trans ?_; (focus (go_size; done)); go_simp; done)); intro c1_w0_0)); (try (refine got (p := w1.cell? ⟨w.heap.size, 1, none⟩ = some (.bool b)) ?_ ?_; (focus (refine (hc1 _ _ ?_).trans ?_; (focus (go_size; done)); go_simp; done)); intro c1_w0_1)); (try (refine got (p := ∀ o, w1.frozen? ⟨w.heap.size, o, none⟩ = false) ?_ ?_; (focus (intro o; refine (hf1 _ _ ?_).trans ?_; (focus (go_size; done)); go_simp; done)); intro f1_w0)); (try (refine got (p := w.heap.size + 1 < w1.heap.size) ?_ ?_; (focus (go_size; done)); intro q1_w1)); (try (refine got (p := w1.cell? ⟨w.heap.size + 1, 0, none⟩ = some (.int .i64 t)) ?_ ?_; (focus (refine (hc1 _ _ ?_).trans ?_; (focus (go_size; done)); go_simp; done)); intro c1_w1_0)); (try (refine got (p := w1.cell? ⟨w.heap.size + 1, 1, none⟩ = some (.bool c)) ?_ ?_; (focus (refine (hc1 _ _ ?_).trans ?_; (focus (go_size; done)); go_simp; done)); intro c1_w1_1)); (try (refine got (p := ∀ o, w1.frozen? ⟨w.heap.size + 1, o, none⟩ = false) ?_ ?_; (focus (intro o; refine (hf1 _ _ ?_).trans ?_; (focus (go_size; done)); go_simp; done)); intro f1_w1)); clear hc1 hf1)
      go_wp2
      go_ret
      exact ⟨rfl, by (repeat' (first | (with_reducible exact Below.refl _ _) | (with_reducible refine Below.alloc ?_ ?_ _) | (with_reducible refine Below.drew ?_) | (with_reducible refine Below.setCell ?_ ?_ _) | (with_reducible refine bl_step ?_ (by assumption)) | go_size))⟩

/-- the tones of a list of voices at a beat are tones -/
theorem tn_vd {xs : List Vc} (ax : xs.all vok = true) {j n : Nat} (hj : j < n) (sx : (snd8 xs).length = n) : vd (tnA (snd8 xs) j).1 (tnA (snd8 xs) j).2 = true := tnA_valid ax (by omega)
theorem l8Conc_any (t u : Int × Bool) (hv : vd t.1 t.2 = true) (hu : vd u.1 u.2 = true) (w : World) :
    Calls Tryd.prog 47 #[.agg #[.int .i64 t.1, .bool t.2], .agg #[.int .i64 u.1, .bool u.2]] w fun e w' => e = .returned (.bool (cnc t u)) ∧ Below w.heap.size w w' := l8Concord_any t.1 u.1 t.2 u.2 hv hu w

set_option maxHeartbeats 4000000 in
theorem sDiscantConcords_any (v u : Value) (xs ys : List Vc) (w : World) (h : VV w v xs) (k : VV w u ys) : Calls Tryd.prog 13 #[v, u] w (IbMade w (dcc xs ys)) := by
  obtain ⟨i0, hi0, hq0, hq1, hq2⟩ := info_parts infoIb
  have HT := Lib.hid (sDiscantTogether_any v u xs ys (w.alloc (.cells #[] 3)) (h.below ((Below.refl _ _).alloc (Nat.le_refl _) _)) (k.below ((Below.refl _ _).alloc (Nat.le_refl _) _)))
  have HS := Lib.hid (IbInv.start w)
  cases ht : tog xs ys with
  | false =>
    rw [ht] at HT
    rw [dcc_no ht]
    clear ht h k
    go_enter Tryd.func13, Tryd.ntmps13
    go_wp2_with (fail)
    (go_at_call 45; refine (HT.out).mono ?_; rintro e w1 ⟨rfl, hb1⟩)
    have HI := Lib.hid (HS.out.below hb1)
    clear hb1
    go_wp2
    go_ret
    exact HI.out.built
  | true =>
    rw [ht] at HT
    obtain ⟨⟨ax, lx⟩, ⟨ay, ly⟩, n, hn, bx, by8, sx, sy⟩ := tog_facts ht
    rw [dcc_yes ht, sx]
    have HL := Lib.hid (fun w' (hb : Below w.heap.size w w') => l8Beats_any v xs w' (h.below (w' := w') hb) ax lx)
    have HA := Lib.hid (fun w' (hb : Below w.heap.size w w') (j : Nat) (hj : j < n) => l8At_any v xs j w' (h.below (w' := w') hb) ax lx (by omega))
    have HC := Lib.hid (fun w' (hb : Below w.heap.size w w') (j : Nat) (hj : j < n) => l8At_any u ys j w' (k.below (w' := w') hb) ay ly (by omega))
    have HV : Hid (∀ j, j < n → vd (tnA (snd8 xs) j).1 (tnA (snd8 xs) j).2 = true ∧ vd (tnA (snd8 ys) j).1 (tnA (snd8 ys) j).2 = true) := fun j hj => ⟨tn_vd ax hj sx, tn_vd ay hj sy⟩
    rw [bx] at HL
    clear ht h k bx by8 sx sy ax ay
    generalize snd8 xs = ts at HA HV ⊢
    generalize snd8 ys = us at HC HV ⊢
    go_enter Tryd.func13, Tryd.ntmps13
    go_wp2_with (fail)
    (go_at_call 45; refine (HT.out).mono ?_; rintro e w1 ⟨rfl, hb1⟩)
    have HI := Lib.hid (HS.out.below hb1)
    clear hb1 HT HS
    go_wp2
    go_loopw [5, 6] (fun q i wr => ∃ j : Nat, 3 * j < n + 3 ∧ i = .int .i64 ((3 * j : Nat) : Int) ∧ IbInv w wr q (cnL ts us (3 * j))) (fun _ i _ => n + 3 - (intOf i).toNat)
    case atStart => exact ⟨0, by omega, rfl, HI.out⟩
    case round =>
      obtain ⟨j, hj, rfl, hi⟩ := hrel
      clear HI
      have HI := Lib.hid hi
      have HW := Lib.hid hi.bl
      by_cases hlt : 3 * j < n
      · have gl : ((3 * j : Nat) : Int) < (n : Int) := by omega
        have hcd : cnk ts us (3 * j) = cnc (tnA ts (3 * j)) (tnA us (3 * j)) := rfl
        obtain ⟨v1, v2⟩ := HV.out _ hlt
        have HA1 := Lib.hid (fun w' hb => HA.out w' hb (3 * j) hlt)
        have HC1 := Lib.hid (fun w' hb => HC.out w' hb (3 * j) hlt)
        have HK := Lib.hid (l8Conc_any _ _ v1 v2)
        have w3 : IntKind.i64.wrap (((3 * j : Nat) : Int) + 3) = ((3 * (j + 1) : Nat) : Int) := by rw [IntWalk.i64_in _ (by omega)]; omega
        generalize tnA ts (3 * j) = x at HA1 HK hcd
        generalize tnA us (3 * j) = y at HC1 HK hcd
        have h0 := cnL_len ts us (3 * j)
        have h1 := HW.out.size
        have HXT := Lib.hid (cnL_three_hit (ts := ts) (us := us) (j := j))
        have HXF := Lib.hid (cnL_three_miss (ts := ts) (us := us) (j := j))
        rw [← hcd] at HK
        clear hi v1 v2 hcd
        obtain ⟨m, hm⟩ : ∃ m : Nat, 3 * j = m := ⟨_, rfl⟩
        have HM := Lib.hid hm
        obtain ⟨m3, hm3⟩ : ∃ m3 : Nat, 3 * (j + 1) = m3 := ⟨_, rfl⟩
        have HM3 := Lib.hid hm3
        have hj3 : 3 * (j + 1) < n + 3 := by omega
        have hjm : n + 3 - m3 < n + 3 - 3 * j := by omega
        rw [hm3] at w3 HXT HXF
        rw [hm] at HA1 HC1 HK HI w3 HXT HXF h0 gl hjm ⊢
        clear hm hm3
        go_wp2_with (fail)
        (go_at_call 46; refine (HL.out _ HW.out).mono ?_; rintro e wx ⟨rfl, rfl⟩)
        go_wp2_with (fail)
        (go_at_call 48; refine (HA1.out _ HW.out).mono ?_; rintro e w2 ⟨rfl, hb2⟩)
        have HW2 := Lib.hid (bl_step HW.out hb2)
        have HI2 := Lib.hid (HI.out.below hb2)
        clear hb2
        go_wp2_with (fail)
        (go_at_call 48; refine (HC1.out _ HW2.out).mono ?_; rintro e w3' ⟨rfl, hb3⟩)
        have HI3 := Lib.hid (HI2.out.below hb3)
        clear hb3 HI2 HI
        cases hc : cnk ts us m with
        | true =>
          have hx := HXT.out hc
          have HX := Lib.hid hx
          rw [hc] at HK
          clear hc hx HXF HXT
          go_wp2_with (fail)
          (go_at_call 47; refine (HK.out _).mono ?_; rintro e w4 ⟨rfl, hb4⟩)
          have HI4 := Lib.hid (HI3.out.below hb4)
          have hown := HI4.out.own
          have hws := HI4.out.bl.size
          have HNC : Hid ((w4.alloc (.cells #[.int .i64 (m : Int)] 3)).heap[w4.heap.size]? = some (.cells #[.int .i64 (m : Int)] 3 (0, 0))) := heap_alloc_new w4 (.cells #[.int .i64 (m : Int)] 3)
          clear hb4 HI3
          go_wp2_with (at_builtin; refine wpList_append_own _ rfl _ _ 24 rfl w.heap.size 3 i0 (.int .i64 0) 1 8 Tryd.underlying24 hi0 hq0 hq1 hq2 rfl (by decide) _ _ _ rfl (hown.alloc _) ⟨w4.heap.size, 0, none⟩ 1 1 [.int .i64 (m : Int)] rfl rfl (World.news_of_block HNC.out) (by simp [Value.oneCell']) (by unfold maxLen; omega) (by omega) (by simp; omega) ?_)
          intro v' w5 hown' hgrow _
          have hi5 := HI4.out.app (z := (m : Int)) hown' hgrow
          rw [← HX.out] at hi5
          have HI5 := Lib.hid hi5
          clear hown hown' hgrow hi5 HNC HI4 hws
          go_wp2
          go_roundw
          case rel => exact ⟨j + 1, hj3, by rw [HM3.out], by rw [HM3.out]; exact HI5.out⟩
          case measure => have := HM.out; simp [intOf]; omega
        | false =>
          have hx := HXF.out hc
          have HX := Lib.hid hx
          rw [hc] at HK
          clear hc hx HXF HXT
          go_wp2_with (fail)
          (go_at_call 47; refine (HK.out _).mono ?_; rintro e w4 ⟨rfl, hb4⟩)
          have hi5 := HI3.out.below hb4
          rw [← HX.out] at hi5
          have HI5 := Lib.hid hi5
          clear hb4 hi5 HI3
          go_wp2
          go_roundw
          case rel => exact ⟨j + 1, hj3, by rw [HM3.out], by rw [HM3.out]; exact HI5.out⟩
          case measure => have := HM.out; simp [intOf]; omega
      · have gl : decide (((3 * j : Nat) : Int) < (n : Int)) = false := decide_eq_false (by omega)
        have gl2 : decide (3 * j < n) = false := decide_eq_false hlt
        have hi2 := hi
        rw [cnL_end (by omega) hj] at hi2
        have HF := Lib.hid hi2.built
        clear hi hi2 HI
        generalize 3 * j = m at gl gl2
        go_wp2_with (fail)
        (go_at_call 46; refine (HL.out _ HW.out).mono ?_; rintro e wx ⟨rfl, rfl⟩)
        go_wp2
        go_ret
        exact HF.out

set_option maxHeartbeats 4000000 in
theorem sDiscantOk_any (v u : Value) (xs ys : List Vc) (w : World) (h : VV w v xs) (k : VV w u ys) : Calls Tryd.prog 21 #[v, u] w fun e w' => e = .returned (.bool (dok xs ys)) ∧ Below w.heap.size w w' := by
  have HT := Lib.hid (sDiscantTogether_any v u xs ys w h k)
  cases ht : tog xs ys with
  | false =>
    rw [ht] at HT
    rw [dok_no ht]
    clear ht h k
    go_enter Tryd.func21, Tryd.ntmps21
    go_wp2_with (fail)
    (go_at_call 45; refine (HT.out).mono ?_; rintro e w1 ⟨rfl, hb1⟩)
    have HB := Lib.hid hb1
    clear hb1
    go_wp2
    go_ret
    exact ⟨rfl, HB.out⟩
  | true =>
    rw [ht] at HT
    obtain ⟨⟨ax, lx⟩, ⟨ay, ly⟩, n, hn, bx, by8, sx, sy⟩ := tog_facts ht
    have HL := Lib.hid (fun w' (hb : Below w.heap.size w w') => l8Beats_any v xs w' (h.below (w' := w') hb) ax lx)
    have HA := Lib.hid (fun w' (hb : Below w.heap.size w w') (j : Nat) (hj : j < n) => l8At_any v xs j w' (h.below (w' := w') hb) ax lx (by omega))
    have HC := Lib.hid (fun w' (hb : Below w.heap.size w w') (j : Nat) (hj : j < n) => l8At_any u ys j w' (k.below (w' := w') hb) ay ly (by omega))
    have HV : Hid (∀ j, j < n → vd (tnA (snd8 xs) j).1 (tnA (snd8 xs) j).2 = true ∧ vd (tnA (snd8 ys) j).1 (tnA (snd8 ys) j).2 = true) := fun j hj => ⟨tn_vd ax hj sx, tn_vd ay hj sy⟩
    have HD := Lib.hid (fun w' (hb : Below w.heap.size w w') => sDiscantConcords_any v u xs ys w' (h.below (w' := w') hb) (k.below (w' := w') hb))
    unfold IbMade at HD
    rw [dcc_yes ht, sx] at HD
    rw [dok_yes ht, sx]
    rw [bx] at HL
    clear ht h k bx by8 sx sy ax ay
    generalize snd8 xs = ts at HA HV HD ⊢
    generalize snd8 ys = us at HC HV HD ⊢
    by_cases hn0 : n = 0
    · subst hn0
      have e0 : okA ts us 0 0 = true := rfl
      rw [e0]
      clear e0 HD HA HC HV
      go_enter Tryd.func21, Tryd.ntmps21
      go_wp2_with (fail)
      (go_at_call 45; refine (HT.out).mono ?_; rintro e w1 ⟨rfl, hb1⟩)
      have HB := Lib.hid hb1
      clear hb1
      go_wp2_with (fail)
      (go_at_call 46; refine (HL.out _ HB.out).mono ?_; rintro e wx ⟨rfl, rfl⟩)
      go_wp2
      go_ret
      exact ⟨rfl, HB.out⟩
    obtain ⟨p, rfl⟩ : ∃ p : Nat, n = p + 1 := ⟨n - 1, by omega⟩
    rw [okA_model (by omega)]
    have g0 : (((p + 1 : Nat) : Int) == 0) = false := by rw [beq_eq_false_iff_ne]; omega
    have hll := cnL_len ts us (p + 1)
    obtain ⟨v1, v2⟩ := HV.out p (by omega)
    have HA1 := Lib.hid (fun w' hb => HA.out w' hb p (by omega))
    have HC1 := Lib.hid (fun w' hb => HC.out w' hb p (by omega))
    have HK := Lib.hid (l8Conc_any _ _ v1 v2)
    have hcd : cnk ts us p = cnc (tnA ts p) (tnA us p) := rfl
    rw [← hcd] at HK
    rw [show p + 1 - 1 = p by omega]
    clear hcd v1 v2 HV HA HC hn0
    generalize cnk ts us p = q at HK ⊢
    generalize tnA ts p = x at HA1 HK
    generalize tnA us p = y at HC1 HK
    generalize cnL ts us (p + 1) = cl at HD hll ⊢
    obtain ⟨P, hP⟩ : ∃ P : Nat, p + 1 = P := ⟨_, rfl⟩
    have HP := Lib.hid hP
    rw [hP] at HL g0 hll ⊢
    have hpi : IntKind.i64.wrap ((P : Int) - 1) = (p : Int) := by rw [IntWalk.i64_in _ (by omega)]; omega
    have hp2 : IntKind.i64.wrap ((P : Int) + 2) = ((P + 2 : Nat) : Int) := by rw [IntWalk.i64_in _ (by omega)]; omega
    have hq3 : wrap64 (((P + 2 : Nat) : Int) / 3) = (((P + 2) / 3 : Nat) : Int) := by
      rw [IntWalk.wrap64_in _ (by omega)]; omega
    clear hP
    generalize (P + 2) / 3 = Q at hq3 hll ⊢
    generalize P + 2 = P2 at hp2 hq3
    by_cases hl : cl.length = Q
    · have g1 : ((cl.length : Int) == (Q : Int)) = true := by rw [beq_iff_eq]; omega
      have g2 : (cl.length == Q) = true := by rw [beq_iff_eq]; exact hl
      rw [g2, Bool.true_and]
      go_enter Tryd.func21, Tryd.ntmps21
      go_wp2_with (fail)
      (go_at_call 45; refine (HT.out).mono ?_; rintro e w1 ⟨rfl, hb1⟩)
      have HB := Lib.hid hb1
      clear hb1
      go_wp2_with (fail)
      (go_at_call 46; refine (HL.out _ HB.out).mono ?_; rintro e wx ⟨rfl, rfl⟩)
      go_wp2_with (fail)
      (go_at_call 13; refine (HD.out _ HB.out).mono ?_; rintro e w2 ⟨vc, rfl, hr, hb2⟩)
      obtain ⟨ac, cc, rfl⟩ := hr.sl rfl
      have HB2 := Lib.hid (bl_step HB.out hb2)
      clear hr hb2
      go_wp2_with (fail)
      (go_at_call 48; refine (HA1.out _ HB2.out).mono ?_; rintro e w3 ⟨rfl, hb3⟩)
      have HB3 := Lib.hid (bl_step HB2.out hb3)
      clear hb3
      go_wp2_with (fail)
      (go_at_call 48; refine (HC1.out _ HB3.out).mono ?_; rintro e w4 ⟨rfl, hb4⟩)
      have HB4 := Lib.hid (bl_step HB3.out hb4)
      clear hb4
      go_wp2_with (fail)
      (go_at_call 47; refine (HK.out _).mono ?_; rintro e w5 ⟨rfl, hb5⟩)
      have HB5 := Lib.hid (bl_step HB4.out hb5)
      clear hb5
      go_wp2
      go_ret
      exact ⟨rfl, HB5.out⟩
    · have g1 : ((cl.length : Int) == (Q : Int)) = false := by rw [beq_eq_false_iff_ne]; omega
      have g2 : (cl.length == Q) = false := by rw [beq_eq_false_iff_ne]; exact hl
      rw [g2, Bool.false_and]
      go_enter Tryd.func21, Tryd.ntmps21
      go_wp2_with (fail)
      (go_at_call 45; refine (HT.out).mono ?_; rintro e w1 ⟨rfl, hb1⟩)
      have HB := Lib.hid hb1
      clear hb1
      go_wp2_with (fail)
      (go_at_call 46; refine (HL.out _ HB.out).mono ?_; rintro e wx ⟨rfl, rfl⟩)
      go_wp2_with (fail)
      (go_at_call 13; refine (HD.out _ HB.out).mono ?_; rintro e w2 ⟨vc, rfl, hr, hb2⟩)
      obtain ⟨ac, cc, rfl⟩ := hr.sl rfl
      have HB2 := Lib.hid (bl_step HB.out hb2)
      clear hr hb2
      go_wp2
      go_ret
      exact ⟨rfl, HB2.out⟩

set_option maxHeartbeats 4000000 in
theorem sDiscantParallels_any (v u : Value) (xs ys : List Vc) (w : World) (h : VV w v xs) (k : VV w u ys) : Calls Tryd.prog 23 #[v, u] w fun e w' => e = .returned (.int .i64 (dpl xs ys)) ∧ Below w.heap.size w w' := by
  have HT := Lib.hid (sDiscantTogether_any v u xs ys w h k)
  cases ht : tog xs ys with
  | false =>
    rw [ht] at HT
    rw [dpl_no ht]
    clear ht h k
    go_enter Tryd.func23, Tryd.ntmps23
    go_wp2_with (fail)
    (go_at_call 45; refine (HT.out).mono ?_; rintro e w1 ⟨rfl, hb1⟩)
    have HB := Lib.hid hb1
    clear hb1
    go_wp2
    go_ret
    exact ⟨rfl, HB.out⟩
  | true =>
    rw [ht] at HT
    obtain ⟨⟨ax, lx⟩, ⟨ay, ly⟩, n, hn, bx, by8, sx, sy⟩ := tog_facts ht
    rw [dpl_yes ht, sx]
    have HL := Lib.hid (fun w' (hb : Below w.heap.size w w') => l8Beats_any v xs w' (h.below (w' := w') hb) ax lx)
    have HM := Lib.hid (fun w' (hb : Below w.heap.size w w') (j : Nat) (hj : j + 1 < n) => l8Moves_any v u xs ys n j w' (h.below (w' := w') hb) (k.below (w' := w') hb) ax lx ay ly bx by8 hj hn)
    have HA := Lib.hid (fun w' (hb : Below w.heap.size w w') (j : Nat) (hj : j < n) => l8At_any v xs j w' (h.below (w' := w') hb) ax lx (by omega))
    have HC := Lib.hid (fun w' (hb : Below w.heap.size w w') (j : Nat) (hj : j < n) => l8At_any u ys j w' (k.below (w' := w') hb) ay ly (by omega))
    have HV : Hid (∀ j, j < n → vd (tnA (snd8 xs) j).1 (tnA (snd8 xs) j).2 = true ∧ vd (tnA (snd8 ys) j).1 (tnA (snd8 ys) j).2 = true) := fun j hj => ⟨tn_vd ax hj sx, tn_vd ay hj sy⟩
    rw [bx] at HL
    clear ht h k bx by8 sx sy ax ay
    generalize snd8 xs = ts at HM HA HV ⊢
    generalize snd8 ys = us at HM HC HV ⊢
    go_enter Tryd.func23, Tryd.ntmps23
    go_wp2_with (fail)
    (go_at_call 45; refine (HT.out).mono ?_; rintro e w1 ⟨rfl, hb1⟩)
    have HB := Lib.hid hb1
    clear hb1 HT
    go_wp2
    go_loopw [5, 6] (fun m i wr => ∃ j : Nat, j ≤ n - 1 ∧ i = .int .i64 (j : Int) ∧ m = .int .i64 (cnt (prl ts us) j) ∧ Below w.heap.size w wr) (fun _ i _ => n - (intOf i).toNat)
    case atStart => exact ⟨0, by omega, rfl, rfl, HB.out⟩
    case round =>
      obtain ⟨j, hj, rfl, rfl, hb⟩ := hrel
      have HW := Lib.hid hb
      clear hb
      by_cases hlt : j + 1 < n
      · have hc := cnt_in (prl ts us) j
        have HM1 := Lib.hid (fun w' hb => HM.out w' hb j hlt)
        have HA1 := Lib.hid (fun w' hb => HA.out w' hb j (by omega))
        have HC1 := Lib.hid (fun w' hb => HC.out w' hb j (by omega))
        have HA2 : Hid (∀ w', Below w.heap.size w w' → Calls Tryd.prog 48 #[v, .int .i64 ((j : Int) + 1)] w' fun e w2 => e = .returned (.agg #[.int .i64 (tnA ts (j + 1)).1, .bool (tnA ts (j + 1)).2]) ∧ Below w'.heap.size w' w2) := fun w' hb => by
          have h9 := HA.out w' hb (j + 1) hlt
          rw [show ((j + 1 : Nat) : Int) = (j : Int) + 1 by omega] at h9
          exact h9
        have HC2 : Hid (∀ w', Below w.heap.size w w' → Calls Tryd.prog 48 #[u, .int .i64 ((j : Int) + 1)] w' fun e w2 => e = .returned (.agg #[.int .i64 (tnA us (j + 1)).1, .bool (tnA us (j + 1)).2]) ∧ Below w'.heap.size w' w2) := fun w' hb => by
          have h9 := HC.out w' hb (j + 1) hlt
          rw [show ((j + 1 : Nat) : Int) = (j : Int) + 1 by omega] at h9
          exact h9
        obtain ⟨v1, v2⟩ := HV.out j (by omega)
        obtain ⟨v3, v4⟩ := HV.out (j + 1) hlt
        have HK1 := Lib.hid (l8Conc_any _ _ v1 v2)
        have HK2 := Lib.hid (l8Conc_any _ _ v3 v4)
        have e1 : cnc (tnA ts j) (tnA us j) = cnk ts us j := rfl
        have e2 : cnc (tnA ts (j + 1)) (tnA us (j + 1)) = cnk ts us (j + 1) := rfl
        rw [e1] at HK1
        rw [e2] at HK2
        have hpr : prl ts us j = ((decide (chg8 ts j ≠ 0) && decide (chg8 ts j = chg8 us j)) && (cnk ts us j && cnk ts us (j + 1))) := rfl
        have gj : (j : Int) + 1 < (n : Int) := by omega
        have wj : IntKind.i64.wrap ((j : Int) + 1) = (j : Int) + 1 := IntWalk.i64_in _ (by omega)
        have HXT := Lib.hid (cnt_hit (p := prl ts us) (k := j))
        have HXF := Lib.hid (cnt_miss (p := prl ts us) (k := j))
        clear v1 v2 v3 v4 e1 e2
        generalize tnA ts (j + 1) = x2 at HA2 HK2
        generalize tnA us (j + 1) = y2 at HC2 HK2
        generalize tnA ts j = x1 at HA1 HK1
        generalize tnA us j = y1 at HC1 HK1
        generalize chg8 ts j = x at HM1 hpr
        generalize chg8 us j = y at HM1 hpr
        generalize cnk ts us (j + 1) = q2 at HK2 hpr
        generalize cnk ts us j = q1 at HK1 hpr
        generalize cnt (prl ts us) j = z at hc HXT HXF ⊢
        generalize prl ts us j = pr at hpr HXT HXF
        have wz : IntKind.i64.wrap (z + 1) = z + 1 := IntWalk.i64_in _ (by omega)
        go_wp2_with (fail)
        (go_at_call 46; refine (HL.out _ HW.out).mono ?_; rintro e wx ⟨rfl, rfl⟩)
        go_wp2_with (fail)
        (go_at_call 54; refine (HM1.out _ HW.out).mono ?_; rintro e w2 ⟨rfl, hb2⟩)
        have HW2 := Lib.hid (bl_step HW.out hb2)
        clear hb2
        by_cases hx : x = 0
        · have g1 : (x != 0) = false := by rw [bne_eq_false_iff_eq]; exact hx
          have HX := Lib.hid (HXF.out (by rw [hpr]; simp [hx]))
          clear hx hpr
          go_wp2
          go_roundw
          case rel => exact ⟨j + 1, by omega, by go_num, by rw [HX.out], HW2.out⟩
          case measure => simp [intOf]; omega
        have g1 : (x != 0) = true := by rw [bne_iff_ne]; exact hx
        by_cases hxy : x = y
        case neg =>
          have g2 : (x == y) = false := by rw [beq_eq_false_iff_ne]; exact hxy
          have HX := Lib.hid (HXF.out (by rw [hpr]; simp [hxy]))
          clear hx hxy hpr
          go_wp2
          go_roundw
          case rel => exact ⟨j + 1, by omega, by go_num, by rw [HX.out], HW2.out⟩
          case measure => simp [intOf]; omega
        have g2 : (x == y) = true := by rw [beq_iff_eq]; exact hxy
        have hpr2 : pr = (q1 && q2) := by rw [hpr, decide_eq_true hxy, decide_eq_true (show x ≠ 0 from hx)]; rfl
        clear hx hxy hpr
        go_wp2_with (fail)
        (go_at_call 48; refine (HA1.out _ HW2.out).mono ?_; rintro e w3 ⟨rfl, hb3⟩)
        have HW3 := Lib.hid (bl_step HW2.out hb3)
        clear hb3
        go_wp2_with (fail)
        (go_at_call 48; refine (HC1.out _ HW3.out).mono ?_; rintro e w4 ⟨rfl, hb4⟩)
        have HW4 := Lib.hid (bl_step HW3.out hb4)
        clear hb4
        go_wp2_with (fail)
        (go_at_call 47; refine (HK1.out _).mono ?_; rintro e w5 ⟨rfl, hb5⟩)
        have HW5 := Lib.hid (bl_step HW4.out hb5)
        clear hb5
        cases q1 with
        | false =>
          have HX := Lib.hid (HXF.out (by rw [hpr2]; rfl))
          clear hpr2
          go_wp2
          go_roundw
          case rel => exact ⟨j + 1, by omega, by go_num, by rw [HX.out], HW5.out⟩
          case measure => simp [intOf]; omega
        | true =>
          go_wp2_with (fail)
          (go_at_call 48; refine (HA2.out _ HW5.out).mono ?_; rintro e w6 ⟨rfl, hb6⟩)
          have HW6 := Lib.hid (bl_step HW5.out hb6)
          clear hb6
          go_wp2_with (fail)
          (go_at_call 48; refine (HC2.out _ HW6.out).mono ?_; rintro e w7 ⟨rfl, hb7⟩)
          have HW7 := Lib.hid (bl_step HW6.out hb7)
          clear hb7
          go_wp2_with (fail)
          (go_at_call 47; refine (HK2.out _).mono ?_; rintro e w8 ⟨rfl, hb8⟩)
          have HW8 := Lib.hid (bl_step HW7.out hb8)
          clear hb8
          cases q2 with
          | false =>
            have HX := Lib.hid (HXF.out (by rw [hpr2]; rfl))
            clear hpr2
            go_wp2
            go_roundw
            case rel => exact ⟨j + 1, by omega, by go_num, by rw [HX.out], HW8.out⟩
            case measure => simp [intOf]; omega
          | true =>
            have HX := Lib.hid (HXT.out (by rw [hpr2]; rfl))
            clear hpr2
            go_wp2
            go_roundw
            case rel => exact ⟨j + 1, by omega, by go_num, by rw [HX.out], HW8.out⟩
            case measure => simp [intOf]; omega
      · have hjn : j = n - 1 := by omega
        subst hjn
        have gj : decide (((n - 1 : Nat) : Int) + 1 < (n : Int)) = false := decide_eq_false (by omega)
        go_wp2_with (fail)
        (go_at_call 46; refine (HL.out _ HW.out).mono ?_; rintro e wx ⟨rfl, rfl⟩)
        go_wp2
        go_ret
        exact ⟨rfl, HW.out⟩
end Go.Proofs.YticapinlnlpbpaaDoor
