/-
  The program's parts: a ring made of a list, its beats, the tone at a beat.
-/
import Derived.Test.YticapinlnlpbpaaDoorRn
namespace Go.Proofs.YticapinlnlpbpaaDoor
open Go.RowKit
set_option maxRecDepth 100000
set_option linter.unusedVariables false

/-- what newRing answers -/
def NewRing (w : World) (xs : List Vc) (e : Ending) (w' : World) : Prop :=
  ∃ (R : Nat) (P : Nat → Nat) (ts : List (Int × Bool)), e = .returned (.tuple #[.pointer (some ⟨R, 0, none⟩), .bool (pval xs)]) ∧ RingI w.heap.size w' R P ts ∧ (pval xs = true → ts = snd8 xs) ∧ Below w.heap.size w w'

theorem RingI.none_ (w : World) (B : Nat) (hB : B ≤ w.heap.size) : RingI B (w.alloc (.cells #[.pointer none, .int .i64 0] 83)) w.heap.size (fun _ => 0) [] :=
  ⟨hB, heap_alloc_new w _, fun k hk => by simp at hk, fun i j _ hj => by simp at hj⟩

/-- the first k voices are in the ring -/
structure RgInv (w wr : World) (R : Nat) (xs : List Vc) (k : Nat) : Prop where
  ring : ∃ P, RingI w.heap.size wr R P (snd8 (xs.take k))
  ok : (xs.take k).all vok = true
  bl : Below w.heap.size w wr

set_option maxHeartbeats 4000000 in
theorem newRing_any (v : Value) (xs : List Vc) (w : World) (h : VV w v xs) : Calls Tryd.prog 63 #[v] w (NewRing w xs) := by
  obtain ⟨a, c, rfl, ha, hc1, hc2⟩ := h
  unfold maxLen at hc2
  have HA := Lib.hid ha
  have H0 := Lib.hid (RingI.none_ w w.heap.size (Nat.le_refl _))
  have HB0 := Lib.hid ((Below.refl _ w).alloc (Nat.le_refl w.heap.size) (.cells #[.pointer none, .int .i64 0] 83))
  clear ha
  by_cases hl : xs.length ≤ 12
  case neg =>
    have HE : Hid (NewRing w xs (.returned (.tuple #[.pointer (some ⟨w.heap.size, 0, none⟩), .bool false])) (w.alloc (.cells #[.pointer none, .int .i64 0] 83))) :=
      ⟨_, _, _, by rw [pval_no2 hl], H0.out, (fun e => by rw [pval_no2 hl] at e; cases e), HB0.out⟩
    have g1 : decide (12 < xs.length) = true := decide_eq_true (by omega)
    have g2 : decide ((12 : Int) < (xs.length : Int)) = true := decide_eq_true (by omega)
    have g3 : 12 < xs.length := by omega
    clear hl
    go_enter Tryd.func63, Tryd.ntmps63
    go_wp2
    go_ret2
    exact HE.out
  have g1 : decide (12 < xs.length) = false := decide_eq_false (by omega)
  have g2 : decide ((12 : Int) < (xs.length : Int)) = false := decide_eq_false (by omega)
  have HI : Hid (RgInv w (w.alloc (.cells #[.pointer none, .int .i64 0] 83)) w.heap.size xs 0) := ⟨⟨_, by simpa [snd8] using H0.out⟩, by simp, HB0.out⟩
  go_enter Tryd.func63, Tryd.ntmps63
  go_wp2
  go_loopw [15] (fun i wr => ∃ k : Nat, k ≤ xs.length ∧ i = .int .i64 (k : Int) ∧ RgInv w wr w.heap.size xs k) (fun i _ => xs.length - (intOf i).toNat)
  case atStart => exact ⟨0, by omega, rfl, HI.out⟩
  case round =>
    obtain ⟨k, hk, rfl, hinv⟩ := hrel
    clear HI H0 HB0
    by_cases hlt : k < xs.length
    · obtain ⟨⟨⟨s, b⟩, m⟩, hx⟩ : ∃ x, xs[k]? = some x := ⟨xs[k], List.getElem?_eq_getElem hlt⟩
      rcases HA.out with h0 | ⟨A, off, rfl, hA, hc⟩
      · subst h0; simp at hlt
      obtain ⟨d0, d1, d2⟩ := hc k _ hx
      have e1 := (hinv.bl.cell (p := ⟨A, off + k * 3, none⟩) hA).trans d0
      have e2 := (hinv.bl.cell (p := ⟨A, off + k * 3 + 1, none⟩) hA).trans d1
      have e3 := (hinv.bl.cell (p := ⟨A, off + k * 3 + 2, none⟩) hA).trans d2
      have hk0 : (0 : Int) ≤ (k : Int) := by omega
      have hk1 : (k : Int) < (xs.length : Int) := by omega
      have HV := Lib.hid (voiceValid_any s b m)
      cases hv : vok ((s, b), m) with
      | false =>
        rw [hv] at HV
        have hp := pval_no1 (all_bad hx hv)
        have HE : Hid (∀ w1, Below w.heap.size w w1 → NewRing w xs (.returned (.tuple #[.pointer (some ⟨w1.heap.size, 0, none⟩), .bool false])) (w1.alloc (.cells #[.pointer none, .int .i64 0] 83))) :=
          fun w1 hb => ⟨_, _, _, by rw [hp], RingI.none_ w1 _ hb.size, (fun e => by rw [hp] at e; cases e), hb.alloc hb.size _⟩
        have HB := Lib.hid (hinv.bl.alloc hinv.bl.size (.cells #[.int .i64 s, .bool b, .int .i64 m] 49))
        clear hinv hx hv hp hc d0 d1 d2
        go_wp2_with (fail)
        (go_at_call 89; refine (HV.out _).mono ?_; rintro e w1 ⟨rfl, hb1⟩)
        have HX := Lib.hid (HE.out w1 (bl_step HB.out hb1))
        clear hb1 HE HB
        go_wp2
        go_ret2
        exact HX.out
      | true =>
        rw [hv] at HV
        obtain ⟨_, m1, m3⟩ := vok_in hv
        obtain ⟨mn, rfl⟩ : ∃ q : Nat, m = (q : Int) := ⟨m.toNat, by simp at m1; omega⟩
        have hm3 : mn ≤ 3 := by simp at m3; omega
        have HS := Lib.hid (snd_take hx)
        have HO := Lib.hid (all_next hinv.ok hx hv)
        have hsl : (snd8 (xs.take k)).length ≤ 1000 := by
          have q1 := snd_len hinv.ok
          have q2 := bsm_in hinv.ok
          have q3 : (xs.take k).length ≤ 12 := by simp; omega
          omega
        obtain ⟨⟨P, hP⟩, _, hbl⟩ := hinv
        have HP := Lib.hid (hP.below ((Below.refl _ _).alloc (Nat.le_refl _) (.cells #[.int .i64 s, .bool b, .int .i64 (mn : Int)] 49)))
        have HB := Lib.hid (hbl.alloc hbl.size (.cells #[.int .i64 s, .bool b, .int .i64 (mn : Int)] 49))
        have hws := hbl.size
        have hbox := new_at8 (w := wr) (o := .cells #[.int .i64 s, .bool b, .int .i64 (mn : Int)] 49) rfl
        have HBX := Lib.hid hbox
        clear hx hv hc d0 d1 d2 hP hbl m1 m3 hbox
        go_wp2_with (fail)
        (go_at_call 89; refine (HV.out _).mono ?_; rintro e w1 ⟨rfl, hb1⟩)
        have hz1 := hb1.size
        have hzb : (wr.alloc (.cells #[.int .i64 s, .bool b, .int .i64 (mn : Int)] 49)).heap.size = wr.heap.size + 1 := by simp
        have hbx1 := (hb1.block _ (by rw [hzb]; omega)).trans HBX.out
        have c0 : w1.cell? ⟨wr.heap.size, 0, none⟩ = some (.int .i64 s) := by simp [World.cell?, hbx1]
        have c1 : w1.cell? ⟨wr.heap.size, 1, none⟩ = some (.bool b) := by simp [World.cell?, hbx1]
        have c2 : w1.cell? ⟨wr.heap.size, 2, none⟩ = some (.int .i64 (mn : Int)) := by simp [World.cell?, hbx1]
        have HP1 := Lib.hid (HP.out.below hb1)
        have HB1 := Lib.hid (bl_step HB.out hb1)
        clear hbx1 hb1 HP HB
        have HAD := Lib.hid (ringAdd_any w.heap.size w.heap.size P (snd8 (xs.take k)) s b mn hm3 hsl w1 HP1.out (by omega))
        go_wp2_with (fail)
        (go_at_call 90; refine (HAD.out).mono ?_; rintro e w2 ⟨rfl, hP2, hb2⟩)
        have HN : Hid (RgInv w w2 w.heap.size xs (k + 1)) := ⟨by rw [HS.out]; exact hP2, HO.out, HB1.out.trans hb2⟩
        clear hP2 hb2 HAD HP1 HB1
        go_wp2
        go_roundw
        case rel => exact ⟨k + 1, by omega, by go_num, HN.out⟩
        case measure => simp [intOf]; omega
    · have hkn : k = xs.length := by omega
      subst hkn
      obtain ⟨⟨P, hP⟩, hok, hbl⟩ := hinv
      rw [List.take_length] at hP hok
      have hsl := snd_len hok
      have hr1 : wr.cell? ⟨w.heap.size, 1, none⟩ = some (.int .i64 (bsm xs)) := by rw [← hsl]; simp [World.cell?, hP.blk]
      have HE : Hid (∀ m, NewRing w xs (.returned (.tuple #[.pointer (some ⟨w.heap.size, 0, none⟩), .bool (decide (bsm xs ≤ 24))])) (wr.drewN m)) := fun m =>
        ⟨_, P, _, by simp [pval, hok, hl], hP.below ⟨rfl, rfl, rfl, Nat.le_refl _, fun _ _ => rfl⟩, fun _ => rfl, ⟨hbl.os, hbl.tape, hbl.output, hbl.size, hbl.block⟩⟩
      clear hP hok hbl hsl
      generalize bsm xs = bs at hr1 HE
      go_wp2
      go_quiet (fail)
      go_wp2
      go_ret2
      exact HE.out _

set_option maxHeartbeats 1000000 in
theorem partValid8_any (v : Value) (xs : List Vc) (w : World) (h : VV w v xs) : Calls Tryd.prog 60 #[v] w fun e w' => e = .returned (.bool (pval xs)) ∧ Below w.heap.size w w' := by
  have HN := Lib.hid (newRing_any v xs w h)
  unfold NewRing at HN
  generalize pval xs = ok at HN
  clear h
  go_enter Tryd.func60, Tryd.ntmps60
  go_wp2_with (fail)
  (go_at_call 63; refine (HN.out).mono ?_; rintro e w1 ⟨R, P, ts, rfl, hr, hts, hb1⟩)
  have HB := Lib.hid hb1
  clear hb1 hr hts
  go_wp2
  go_ret
  exact ⟨rfl, HB.out⟩

set_option maxHeartbeats 1000000 in
theorem partBeats_any (v : Value) (xs : List Vc) (w : World) (h : VV w v xs) : Calls Tryd.prog 32 #[v] w fun e w' => e = .returned (.int .i64 (pbt xs)) ∧ Below w.heap.size w w' := by
  have HN := Lib.hid (newRing_any v xs w h)
  unfold NewRing at HN
  clear h
  cases hp : pval xs with
  | false =>
    rw [pbt_no hp]
    rw [hp] at HN
    clear hp
    go_enter Tryd.func32, Tryd.ntmps32
    go_wp2_with (fail)
    (go_at_call 63; refine (HN.out).mono ?_; rintro e w1 ⟨R, P, ts, rfl, hr, hts, hb1⟩)
    have HB := Lib.hid hb1
    clear hb1 hr hts
    go_wp2
    go_ret
    exact ⟨rfl, HB.out⟩
  | true =>
    rw [pbt_yes hp]
    have hs := snd_len (pval_in hp).1
    rw [hp] at HN
    clear hp
    go_enter Tryd.func32, Tryd.ntmps32
    go_wp2_with (fail)
    (go_at_call 63; refine (HN.out).mono ?_; rintro e w1 ⟨R, P, ts, rfl, hr, hts, hb1⟩)
    obtain rfl := hts (by first | rfl | trivial)
    have c1 : w1.cell? ⟨R, 1, none⟩ = some (.int .i64 (bsm xs)) := by rw [← hs]; simp [World.cell?, hr.blk]
    have HB := Lib.hid hb1
    clear hb1 hr hts hs
    go_wp2
    go_ret
    exact ⟨rfl, HB.out⟩

/-- the pointer to the first of n beats -/
def fstP (P : Nat → Nat) (n : Nat) : Value := if n = 0 then .pointer none else .pointer (some ⟨P 0, 0, none⟩)

set_option maxHeartbeats 1000000 in
theorem ringFirst_any (B R : Nat) (P : Nat → Nat) (ts : List (Int × Bool)) (w : World) (h : RingI B w R P ts) : Calls Tryd.prog 64 #[.pointer (some ⟨R, 0, none⟩)] w fun e w' => e = .returned (fstP P ts.length) ∧ w = w' := by
  have hr0 : w.cell? ⟨R, 0, none⟩ = some (lstP P ts.length) := by simp [World.cell?, h.blk]
  have HR := Lib.hid h
  clear h
  by_cases h0 : ts.length = 0
  · unfold lstP at hr0
    unfold fstP
    rw [if_pos h0] at hr0 ⊢
    clear h0
    go_enter Tryd.func64, Tryd.ntmps64
    go_wp2
    go_ret
    exact ⟨rfl, rfl⟩
  · unfold lstP at hr0
    unfold fstP
    rw [if_neg h0] at hr0 ⊢
    obtain ⟨n, hn⟩ : ∃ n, ts.length = n + 1 := ⟨ts.length - 1, by omega⟩
    have e1 : ts.length - 1 = n := by omega
    rw [e1] at hr0
    have hno := HR.out.nod n (by omega)
    rw [show nxt ts.length n = 0 by unfold nxt; rw [if_pos hn.symm]] at hno
    have hn2 : w.cell? ⟨P n, 2, none⟩ = some (.pointer (some ⟨P 0, 0, none⟩)) := by simp [World.cell?, hno.2]
    clear hno e1 hn h0
    go_enter Tryd.func64, Tryd.ntmps64
    go_wp2
    go_ret
    exact ⟨rfl, rfl⟩

/-- is there such a beat, and the tone at it -/
def patOk (xs : List Vc) (k : Int) : Bool := pval xs && (decide (0 ≤ k) && decide (k < bsm xs))
def patT (xs : List Vc) (k : Int) : Int × Bool := if patOk xs k then tnA (snd8 xs) k.toNat else (0, false)
theorem patOk_no1 {xs : List Vc} {k : Int} (h : pval xs = false) : patOk xs k = false := by simp [patOk, h]
theorem patOk_no2 {xs : List Vc} {k : Int} (h : k < 0) : patOk xs k = false := by simp [patOk]; omega
theorem patOk_no3 {xs : List Vc} {k : Int} (h : bsm xs ≤ k) : patOk xs k = false := by simp [patOk]; omega
theorem patOk_yes {xs : List Vc} {k : Int} (h : pval xs = true) (h1 : 0 ≤ k) (h2 : k < bsm xs) : patOk xs k = true := by simp [patOk, h, h1, h2]
theorem patT_no {xs : List Vc} {k : Int} (h : patOk xs k = false) : patT xs k = (0, false) := by simp [patT, h]
theorem patT_yes {xs : List Vc} {k : Int} (h : patOk xs k = true) : patT xs k = tnA (snd8 xs) k.toNat := by simp [patT, h]

set_option maxHeartbeats 4000000 in
theorem partAt_any (v : Value) (xs : List Vc) (k : Int) (w : World) (h : VV w v xs) :
    Calls Tryd.prog 30 #[v, .int .i64 k] w fun e w' => e = .returned (.tuple #[.agg #[.int .i64 (patT xs k).1, .bool (patT xs k).2], .bool (patOk xs k)]) ∧ Below w.heap.size w w' := by
  have HN := Lib.hid (fun w' hb => newRing_any v xs w' (h.below (w' := w') hb))
  unfold NewRing at HN
  clear h
  by_cases hp : pval xs = true
  case neg =>
    rw [Bool.not_eq_true] at hp
    rw [patT_no (patOk_no1 hp), patOk_no1 hp]
    rw [hp] at HN
    clear hp
    go_enter Tryd.func30, Tryd.ntmps30
    go_wp2_with (go_at_call 63; refine (HN.out _ ((Below.refl _ _).alloc (Nat.le_refl _) _)).mono ?_; rintro e w1 ⟨R, P, ts, rfl, hr, hts, hb1⟩; obtain ⟨hc1, hf1, hz1⟩ := bl hb1; (try simp at hz1); (try (refine got (p := w.heap.size < w1.heap.size) ?_ ?_; (focus (go_size; done)); intro q1_w0)); (try (refine got (p := w1.cell? ⟨w.heap.size, 0, none⟩ = some (.int .i64 0)) ?_ ?_; (focus (refine (hc1 _ _ ?_).trans ?_; (focus (go_size; done)); go_simp; done)); intro c1_w0_0)); (try (refine got (p := w1.cell? ⟨w.heap.size, 1, none⟩ = some (.bool false)) ?_ ?_; (focus (refine (hc1 _ _ ?_).trans ?_; (focus (go_size; done)); go_simp; done)); intro c1_w0_1)); (try (refine got (p := ∀ o, w1.frozen? ⟨w.heap.size, o, none⟩ = false) ?_ ?_; (focus (intro o; refine (hf1 _ _ ?_).trans ?_; (focus (go_size; done)); go_simp; done)); intro f1_w0)); clear hc1 hf1)
    refine bodyPost_ret (v := .tuple #[.agg #[.int .i64 0, .bool false], .bool false]) (by simp only [results, Tryd.results30]; go_simp) rfl ⟨rfl, ?_⟩; (repeat' (first | (with_reducible exact Below.refl _ _) | (with_reducible refine Below.alloc ?_ ?_ _) | (with_reducible refine Below.drew ?_) | (with_reducible refine Below.setCell ?_ ?_ _) | (with_reducible refine bl_step ?_ (by assumption)) | go_size))
  have hs := snd_len (pval_in hp).1
  have hbs := bsm_in (pval_in hp).1
  by_cases h0 : k < 0
  · rw [patT_no (patOk_no2 h0), patOk_no2 h0]
    rw [hp] at HN
    clear hp hs hbs
    go_enter Tryd.func30, Tryd.ntmps30
    go_wp2_with (go_at_call 63; refine (HN.out _ ((Below.refl _ _).alloc (Nat.le_refl _) _)).mono ?_; rintro e w1 ⟨R, P, ts, rfl, hr, hts, hb1⟩; obtain ⟨hc1, hf1, hz1⟩ := bl hb1; (try simp at hz1); (try (refine got (p := w.heap.size < w1.heap.size) ?_ ?_; (focus (go_size; done)); intro q1_w0)); (try (refine got (p := w1.cell? ⟨w.heap.size, 0, none⟩ = some (.int .i64 0)) ?_ ?_; (focus (refine (hc1 _ _ ?_).trans ?_; (focus (go_size; done)); go_simp; done)); intro c1_w0_0)); (try (refine got (p := w1.cell? ⟨w.heap.size, 1, none⟩ = some (.bool false)) ?_ ?_; (focus (refine (hc1 _ _ ?_).trans ?_; (focus (go_size; done)); go_simp; done)); intro c1_w0_1)); (try (refine got (p := ∀ o, w1.frozen? ⟨w.heap.size, o, none⟩ = false) ?_ ?_; (focus (intro o; refine (hf1 _ _ ?_).trans ?_; (focus (go_size; done)); go_simp; done)); intro f1_w0)); clear hc1 hf1)
    refine bodyPost_ret (v := .tuple #[.agg #[.int .i64 0, .bool false], .bool false]) (by simp only [results, Tryd.results30]; go_simp) rfl ⟨rfl, ?_⟩; (repeat' (first | (with_reducible exact Below.refl _ _) | (with_reducible refine Below.alloc ?_ ?_ _) | (with_reducible refine Below.drew ?_) | (with_reducible refine Below.setCell ?_ ?_ _) | (with_reducible refine bl_step ?_ (by assumption)) | go_size))
  by_cases h1 : bsm xs ≤ k
  · rw [patT_no (patOk_no3 h1), patOk_no3 h1]
    rw [hp] at HN
    have g0 : decide (k < 0) = false := decide_eq_false h0
    clear hp
    go_enter Tryd.func30, Tryd.ntmps30
    go_wp2_with (fail)
    (go_at_call 63; refine (HN.out _ ((Below.refl _ _).alloc (Nat.le_refl _) _)).mono ?_; rintro e w1 ⟨R, P, ts, rfl, hr, hts, hb1⟩; obtain ⟨hc1, hf1, hz1⟩ := bl hb1; (try simp at hz1); (try (refine got (p := w.heap.size < w1.heap.size) ?_ ?_; (focus (go_size; done)); intro q1_w0)); (try (refine got (p := w1.cell? ⟨w.heap.size, 0, none⟩ = some (.int .i64 0)) ?_ ?_; (focus (refine (hc1 _ _ ?_).trans ?_; (focus (go_size; done)); go_simp; done)); intro c1_w0_0)); (try (refine got (p := w1.cell? ⟨w.heap.size, 1, none⟩ = some (.bool false)) ?_ ?_; (focus (refine (hc1 _ _ ?_).trans ?_; (focus (go_size; done)); go_simp; done)); intro c1_w0_1)); (try (refine got (p := ∀ o, w1.frozen? ⟨w.heap.size, o, none⟩ = false) ?_ ?_; (focus (intro o; refine (hf1 _ _ ?_).trans ?_; (focus (go_size; done)); go_simp; done)); intro f1_w0)); clear hc1 hf1)
    obtain rfl := hts (by first | rfl | trivial)
    have c1 : w1.cell? ⟨R, 1, none⟩ = some (.int .i64 (bsm xs)) := by rw [← hs]; simp [World.cell?, hr.blk]
    clear hr hts hs hbs
    go_wp2
    refine bodyPost_ret (v := .tuple #[.agg #[.int .i64 0, .bool false], .bool false]) (by simp only [results, Tryd.results30]; go_simp) rfl ⟨rfl, ?_⟩; (repeat' (first | (with_reducible exact Below.refl _ _) | (with_reducible refine Below.alloc ?_ ?_ _) | (with_reducible refine Below.drew ?_) | (with_reducible refine Below.setCell ?_ ?_ _) | (with_reducible refine bl_step ?_ (by assumption)) | go_size))
  have hY := patOk_yes hp (by omega : 0 ≤ k) (by omega : k < bsm xs)
  rw [patT_yes hY, hY]
  clear hY
  rw [hp] at HN
  obtain ⟨kn, rfl⟩ : ∃ q : Nat, k = (q : Int) := ⟨k.toNat, by omega⟩
  rw [Int.toNat_natCast]
  obtain ⟨bn, hbn⟩ : ∃ q : Nat, bsm xs = (q : Int) := ⟨(bsm xs).toNat, by omega⟩
  have hsn : (snd8 xs).length = bn := by omega
  have hkn : kn < bn := by omega
  have h24 := (pval_in hp).2.2
  have hbn24 : bn ≤ 24 := by omega
  clear h24
  rw [hbn] at hs hbs h1
  clear hp h0 h1 hs
  have g0 : decide ((bn : Int) ≤ (kn : Int)) = false := decide_eq_false (by omega)
  have g1 : decide (bn ≤ kn) = false := decide_eq_false (by omega)
  obtain ⟨t, ht⟩ : ∃ t, tnA (snd8 xs) kn = t := ⟨_, rfl⟩
  rw [ht]
  go_enter Tryd.func30, Tryd.ntmps30
  go_wp2_with (fail)
  (go_at_call 63; refine (HN.out _ ((Below.refl _ _).alloc (Nat.le_refl _) _)).mono ?_; rintro e w1 ⟨R, P, ts, rfl, hr, hts, hb1⟩; obtain ⟨hc1, hf1, hz1⟩ := bl hb1; (try simp at hz1); (try (refine got (p := w.heap.size < w1.heap.size) ?_ ?_; (focus (go_size; done)); intro q1_w0)); (try (refine got (p := w1.cell? ⟨w.heap.size, 0, none⟩ = some (.int .i64 0)) ?_ ?_; (focus (refine (hc1 _ _ ?_).trans ?_; (focus (go_size; done)); go_simp; done)); intro c1_w0_0)); (try (refine got (p := w1.cell? ⟨w.heap.size, 1, none⟩ = some (.bool false)) ?_ ?_; (focus (refine (hc1 _ _ ?_).trans ?_; (focus (go_size; done)); go_simp; done)); intro c1_w0_1)); (try (refine got (p := ∀ o, w1.frozen? ⟨w.heap.size, o, none⟩ = false) ?_ ?_; (focus (intro o; refine (hf1 _ _ ?_).trans ?_; (focus (go_size; done)); go_simp; done)); intro f1_w0)); clear hc1 hf1)
  obtain rfl := hts (by first | rfl | trivial)
  have c1 : w1.cell? ⟨R, 1, none⟩ = some (.int .i64 (bn : Int)) := by rw [← hsn]; simp [World.cell?, hr.blk]
  have HF := Lib.hid (ringFirst_any _ R P (snd8 xs) w1 hr)
  have HR := Lib.hid hr
  rw [hsn] at HF
  unfold fstP at HF
  rw [if_neg (by omega)] at HF
  clear hr hts hbs
  go_wp2_with (fail)
  (go_at_call 64; refine (HF.out).mono ?_; rintro e wx ⟨rfl, rfl⟩)
  go_wp2
  go_loopw [8, 32] (fun p i wy => ∃ j : Nat, j ≤ kn ∧ i = .int .i64 (j : Int) ∧ p = .pointer (some ⟨P j, 0, none⟩) ∧ wy = w1) (fun _ i _ => kn - (intOf i).toNat)
  case atStart => exact ⟨0, by omega, rfl, rfl, by first | trivial | rfl⟩
  case round =>
    obtain ⟨j, hj, rfl, rfl, rfl⟩ := hrel
    by_cases hlt : j < kn
    · have hno := (HR.out.nod j (by omega)).2
      rw [show nxt (snd8 xs).length j = j + 1 by unfold nxt; rw [if_neg (by omega)]] at hno
      have c2 : wr.cell? ⟨P j, 2, none⟩ = some (.pointer (some ⟨P (j + 1), 0, none⟩)) := by simp [World.cell?, hno]
      clear hno
      go_wp2
      go_roundw
      case rel => exact ⟨j + 1, by omega, by go_num, rfl, by first | trivial | rfl⟩
      case measure => simp [intOf]; omega
    · have hjk : j = kn := by omega
      subst hjk
      have hno := (HR.out.nod j (by omega)).2
      rw [ht] at hno
      have c0 : wr.cell? ⟨P j, 0, none⟩ = some (.int .i64 t.1) := by simp [World.cell?, hno]
      have c2 : wr.cell? ⟨P j, 1, none⟩ = some (.bool t.2) := by simp [World.cell?, hno]
      clear hno
      go_wp2
      refine bodyPost_ret (v := .tuple #[.agg #[.int .i64 t.1, .bool t.2], .bool true]) (by simp only [results, Tryd.results30]; go_simp) rfl ⟨rfl, ?_⟩; (repeat' (first | (with_reducible exact Below.refl _ _) | (with_reducible refine Below.alloc ?_ ?_ _) | (with_reducible refine Below.drew ?_) | (with_reducible refine Below.setCell ?_ ?_ _) | (with_reducible refine bl_step ?_ (by assumption)) | go_size))
end Go.Proofs.YticapinlnlpbpaaDoor
