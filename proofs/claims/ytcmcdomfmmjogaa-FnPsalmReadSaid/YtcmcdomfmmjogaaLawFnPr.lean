/-
  The law FnPsalmRead: for every code, the count is at most that of the psalm tones, at least 1 for a melody sung, 0 for one with a tone more (its drawn region by mkprr.py).
-/
import Derived.Test.YtcmcdomfmmjogaaPrm
import Derived.Test.YtcmcdomfmmjogaaDpr
import Derived.Test.YtcmcdomfmmjogaaOpen
import Derived.Deep.AppendLies
import Derived.Deep.CutRange
import Derived.ChangeMaps5
import Derived.Deep.DeepRowAt
import Derived.Deep.DeepHandedRow
namespace Go.Proofs.Ytcmcdomfmmjogaa
open Go.RowKit Go.ChangeShapes Go.WideShapes Go.ChangeAt Go.ChangeMaps
set_option maxRecDepth 100000
set_option linter.unusedVariables false

theorem psL_mv {p : Psa} {s : ByteArray} (h : pfit p s = true) : mv (psL p s) = true := by
  obtain ⟨h1, _, _, _⟩ := pfit_in h
  obtain ⟨a, b, c, d⟩ := pv_in h1
  have e1 := (partV_in b).2.2
  have e2 := (partV_in c).2.2
  have e3 := (partV_in d).2.2
  unfold mv at e1 e2 e3 ⊢
  rw [Bool.and_eq_true] at e1 e2 e3 ⊢
  refine ⟨decide_eq_true (by have := psL_len p s; omega), ?_⟩
  have f1 := e1.2
  have f2 := e2.2
  have f3 := e3.2
  rw [psL_yes h]
  unfold allv at f1 f2 f3 ⊢
  unfold sgH
  rw [List.all_eq_true] at f1 f2 f3 ⊢
  intro x hx
  simp only [List.mem_append, List.mem_replicate, List.nil_append] at hx
  rcases hx with (((hx | hx) | hx) | (hx | hx)) <;> first | exact f1 x hx | exact f2 x hx | exact f3 x hx | (rw [hx.2]; exact a)

theorem if_yesP {c A E : Prop} [Decidable c] (h : c) (k : A) : if c then A else E := by rw [if_pos h]; exact k

theorem trow_ofP {w : World} {base n : Nat} {v : Value} {xs : List (Int × Bool)} (h : w.ownsRow base 25 2 v n (tcs xs)) (hn : n = xs.length) : TRow w base w.heap.size v xs := by
  subst hn; exact ⟨h, fun g hg => (h.lt g hg).2⟩

theorem mv_more {xs : List (Int × Bool)} {t : Int × Bool} (h : mv xs = true) (hl : xs.length ≤ 20) (ht : xs[0]? = some t) : mv (xs ++ [t]) = true := by
  unfold mv at h ⊢
  rw [Bool.and_eq_true] at h ⊢
  refine ⟨decide_eq_true (by rw [List.length_append]; simp; omega), ?_⟩
  have f := h.2
  unfold allv at f ⊢
  rw [List.all_append, f, Bool.true_and]
  rw [List.all_eq_true] at f
  simpa using f t (List.mem_of_getElem? ht)

set_option maxHeartbeats 3000000 in
theorem fnPsalmRead_walk (a : Option Addr) (n cap : Nat) (a' : Option Addr) (n' cap' : Nat) (w : World) (h : CodeAt w a n) (hc : n ≤ cap) (hcap : cap ≤ maxLen) (hcap' : n' ≤ maxLen) (hm : MaxAt w) :
    Calls Try.prog 8 #[.slice a n cap, .slice a' n' cap'] w fun e w' => e = .returned (.bool true) ∧ Below w.heap.size w w' := by
  by_cases hn : 1048576 < n
  · have g : decide ((1048576 : Int) < (n : Int)) = true := by simp; omega
    go_enter Try.func8, Try.ntmps8
    go_wp2
    go_ret
    exact ⟨rfl, Below.refl _ _⟩
  have g : decide ((1048576 : Int) < (n : Int)) = false := by simp; omega
  have gn : decide (1048576 < n) = false := decide_eq_false hn
  by_cases hn' : 1048576 < n'
  · have g2 : decide ((1048576 : Int) < (n' : Int)) = true := by simp; omega
    go_enter Try.func8, Try.ntmps8
    go_wp2
    go_ret
    exact ⟨rfl, Below.refl _ _⟩
  have g2 : decide ((1048576 : Int) < (n' : Int)) = false := by simp; omega
  have gn2 : decide (1048576 < n') = false := decide_eq_false hn'
  have HM := Lib.hid (fun W (hb : Below w.heap.size w W) => hm.below hb)
  clear hm
  go_enter Try.func8, Try.ntmps8
  go_wp2_with (fail)
  (go_at_call 35; refine (drawPsalmRead_any a n cap _ h hc hcap).mono ?_; rintro e w1 ⟨v, u, ps, s, xs, rfl, hv, hu, hl3, hs, hx, hb1⟩)
  clear h hc hcap g gn hn g2 gn2
  have HB1 := Lib.hid hb1
  have KY := Lib.hid (fun u ys W (hb : Below w1.heap.size w1 W) (hu : LV W u ys) => psalmRead_any v u ps s ys (by omega) W (hv.below hb) hu (HM.out W (bl_step hb1 hb)))
  have KI := Lib.hid (fun W (hb : Below w1.heap.size w1 W) => psalmRead_any v u ps s xs (by omega) W (hv.below hb) (hu.below hb) (HM.out W (bl_step hb1 hb)))
  have KS := Lib.hid (fun W (hb : Below w1.heap.size w1 W) => sPsalmRead_any v u ps s xs (by omega) W (hv.below hb) (hu.below hb))
  obtain ⟨pa, pc, rfl, hlen, hat⟩ := hv.at
  obtain ⟨ua, uc, rfl, _, _⟩ := hu.sl
  have HAT := Lib.hid hat
  have HU := Lib.hid hu
  clear hv hu hat hb1
  have htop := pR_top ps s xs
  obtain ⟨r, hr⟩ : ∃ r, pR ps s xs = r := ⟨_, rfl⟩
  rw [hr] at KI KS htop
  have HR := Lib.hid hr
  clear hr
  by_cases hneg : r < 0
  · have e1 : decide (r < 0) = true := decide_eq_true hneg
    go_wp2_with (fail)
    (go_at_call 36; refine (KI.out _ (Below.refl _ _)).mono ?_; rintro e w2 ⟨rfl, hb2⟩)
    go_wp2_with (fail)
    (go_at_call 37; refine (KS.out _ hb2).mono ?_; rintro e w3 ⟨rfl, hb3⟩)
    have hb13 := bl_step HB1.out (bl_step hb2 hb3)
    clear hb2 hb3
    go_wp2
    go_ret
    exact ⟨by simp, hb13⟩
  have e1 : decide (r < 0) = false := decide_eq_false hneg
  by_cases hz : r = 0
  · subst hz
    by_cases h0 : ps.length = 0
    · rw [h0] at KI KS ⊢
      go_wp2_with (fail)
      (go_at_call 36; refine (KI.out _ (Below.refl _ _)).mono ?_; rintro e w2 ⟨rfl, hb2⟩)
      go_wp2_with (fail)
      (go_at_call 37; refine (KS.out _ hb2).mono ?_; rintro e w3 ⟨rfl, hb3⟩)
      have hb13 := bl_step HB1.out (bl_step hb2 hb3)
      clear hb2 hb3
      go_wp2
      go_quiet (fail)
      all_goals
        go_wp2
        go_ret
        exact ⟨by simp, (bl_drewT hb13 _)⟩
    obtain ⟨j, hjl, hjm⟩ : ∃ j : Nat, j < ps.length ∧ (n' : Int).tmod (ps.length : Int) = (j : Int) := ⟨n' % ps.length, Nat.mod_lt _ (by omega), by rw [Int.tmod_eq_emod_of_nonneg (by omega)]; rfl⟩
    have hl0 : ((ps.length : Int) == 0) = false := by simpa using h0
    have hl1 : ps.length ≠ 0 := by omega
    have wj : IntKind.i64.wrap (j : Int) = (j : Int) := IntWalk.i64_in _ (by omega)
    obtain ⟨p, hp⟩ := ps_get hjl
    obtain ⟨A, off, b0, b1, b2, d0, d1, d2, rfl, hA, c0, c1, c2, c3, c4, hpv⟩ := HAT.out j p hp
    have KG := Lib.hid (fun W (hb : Below w1.heap.size w1 W) => psalmSing_any _ p s (by omega) W (hpv.below hb) (HM.out W (bl_step HB1.out hb)))
    unfold TB2 at KG
    have HC0 := Lib.hid c0
    have HC1 := Lib.hid c1
    have HC2 := Lib.hid c2
    have HC3 := Lib.hid c3
    have HC4 := Lib.hid c4
    clear hpv c0 c1 c2 c3 c4
    generalize p.st.length = q0 at *
    generalize p.mi.length = q1 at *
    generalize p.en.length = q2 at *
    generalize p.tn.1 = ts at *
    generalize p.tn.2 = tb at *
    have hk0 : (0 : Int) ≤ (j : Int) := by omega
    have hk1 : (j : Int) < (ps.length : Int) := by omega
    go_wp2_with (fail)
    (go_at_call 36; refine (KI.out _ (Below.refl _ _)).mono ?_; rintro e w2 ⟨rfl, hb2⟩)
    go_wp2_with (fail)
    (go_at_call 37; refine (KS.out _ hb2).mono ?_; rintro e w3 ⟨rfl, hb3⟩)
    have hb13 := bl_step hb2 hb3
    clear hb2 hb3
    go_wp2
    go_quiet (fail)
    all_goals
      obtain ⟨W, hW⟩ : ∃ W, W = w3.drewN nq := ⟨_, rfl⟩
      have hbW : Below w1.heap.size w1 W := by rw [hW]; exact (bl_drewT hb13 _)
      rw [← hW]
      clear hW hb13
      have c0 := (hbW.cell (p := ⟨A, off + j * 5, none⟩) hA).trans HC0.out
      have c1 := (hbW.cell (p := ⟨A, off + j * 5 + 1, none⟩) hA).trans HC1.out
      have c2 := (hbW.cell (p := ⟨A, off + j * 5 + 2, none⟩) hA).trans HC2.out
      have c3 := (hbW.cell (p := ⟨A, off + j * 5 + 3, none⟩) hA).trans HC3.out
      have c4 := (hbW.cell (p := ⟨A, off + j * 5 + 4, none⟩) hA).trans HC4.out
      go_wp2_with (fail)
      (go_at_call 15; refine (KG.out _ hbW).mono ?_; rintro e w4 ⟨vm, rfl, hvm, hb4⟩)
      have hbW4 := bl_step hbW hb4
      have hvl : LV w4 vm (psL p s) := ⟨_, _, hvm⟩
      obtain ⟨va, vc, rfl, _, _⟩ := hvl.sl
      clear c0 c1 c2 c3 c4 hvm hb4
      cases hf : pfit p s with
      | false =>
        clear hvl
        go_wp2
        go_ret
        exact ⟨by simp, bl_step HB1.out hbW4⟩
      | true =>
        have hown := pR_own (xs := xs) (p := p) (by rw [HR.out]; omega) (List.mem_of_getElem? hp) hf (psL_mv hf)
        have KX := Lib.hid (KY.out _ _ w4 hbW4 hvl)
        obtain ⟨y, hy⟩ : ∃ y, pR ps s (psL p s) = y := ⟨_, rfl⟩
        rw [hy] at KX hown
        have hy1 : decide (1 ≤ y) = true := decide_eq_true hown
        clear hvl
        go_wp2_with (fail)
        (go_at_call 36; refine (KX.out).mono ?_; rintro e w5 ⟨rfl, hb5⟩)
        go_wp2
        go_ret
        exact ⟨by simp, bl_step HB1.out (bl_step hbW4 hb5)⟩
  have h0 : ps.length ≠ 0 := by omega
  have hrl : decide (r ≤ (ps.length : Int)) = true := decide_eq_true htop.1
  obtain ⟨j, hjl, hjm⟩ : ∃ j : Nat, j < ps.length ∧ (n' : Int).tmod (ps.length : Int) = (j : Int) := ⟨n' % ps.length, Nat.mod_lt _ (by omega), by rw [Int.tmod_eq_emod_of_nonneg (by omega)]; rfl⟩
  have hl0 : ((ps.length : Int) == 0) = false := by simpa using h0
  have hl1 : ps.length ≠ 0 := by omega
  have wj : IntKind.i64.wrap (j : Int) = (j : Int) := IntWalk.i64_in _ (by omega)
  obtain ⟨p, hp⟩ := ps_get hjl
  obtain ⟨A, off, b0, b1, b2, d0, d1, d2, rfl, hA, c0, c1, c2, c3, c4, hpv⟩ := HAT.out j p hp
  have KG := Lib.hid (fun W (hb : Below w1.heap.size w1 W) => psalmSing_any _ p s (by omega) W (hpv.below hb) (HM.out W (bl_step HB1.out hb)))
  unfold TB2 at KG
  have HC0 := Lib.hid c0
  have HC1 := Lib.hid c1
  have HC2 := Lib.hid c2
  have HC3 := Lib.hid c3
  have HC4 := Lib.hid c4
  clear hpv c0 c1 c2 c3 c4
  generalize p.st.length = q0 at *
  generalize p.mi.length = q1 at *
  generalize p.en.length = q2 at *
  generalize p.tn.1 = ts at *
  generalize p.tn.2 = tb at *
  have hk0 : (0 : Int) ≤ (j : Int) := by omega
  have hk1 : (j : Int) < (ps.length : Int) := by omega
  have hrp : 0 < r := by omega
  have e2 : decide (0 < r) = true := decide_eq_true hrp
  obtain ⟨p0, hp0, hf0, hx0⟩ := pR_some (by rw [HR.out]; exact hrp)
  have hx1 : 0 < xs.length := by rw [← hx0]; exact psL_one hf0
  have hx24 : decide ((xs.length : Int) < 24) = true := decide_eq_true (by omega)
  obtain ⟨⟨t0, b0⟩, ht0⟩ : ∃ q, xs[0]? = some q := ⟨xs[0], List.getElem?_eq_getElem hx1⟩
  obtain ⟨gM, rfl, hgM, m0, m1⟩ := HU.out.cells ht0
  have M0 := Lib.hid m0
  have M1 := Lib.hid m1
  have x1l : (0 : Int) < (xs.length : Int) := by omega
  obtain ⟨i0, hi, hq0, hq1, hq2⟩ := info_parts infoTone
  have hmv : mv (xs ++ [(t0, b0)]) = true := mv_more (by rw [← hx0]; exact psL_mv hf0) hx ht0
  have HMZ := pR_more (ps := ps) (s := s) (t := (t0, b0)) (by rw [HR.out]; exact hrp) hmv
  have KM := Lib.hid (fun u W (hb : Below w1.heap.size w1 W) (hu : LV W u (xs ++ [(t0, b0)])) => KY.out u _ W hb hu)
  rw [HMZ] at KM
  clear HMZ hmv
  clear m0 m1
  go_wp2_with (fail)
  (go_at_call 36; refine (KI.out _ (Below.refl _ _)).mono ?_; rintro e w2 ⟨rfl, hb2⟩)
  go_wp2_with (fail)
  (go_at_call 37; refine (KS.out _ hb2).mono ?_; rintro e w3 ⟨rfl, hb3⟩)
  have hb13 := bl_step hb2 hb3
  clear hb2 hb3
  go_wp2
  have m0 := (hb13.cell (p := ⟨gM, 0, none⟩) hgM).trans M0.out
  have m1 := (hb13.cell (p := ⟨gM, 1, none⟩) hgM).trans M1.out
  have gM3 : gM < w3.heap.size := Nat.lt_of_lt_of_le hgM hb13.size
  obtain ⟨lM, hM, hTM⟩ := HU.out.below hb13
  have HMR := Lib.hid hTM
  clear hTM
  refine wp_region_any (by kernel_rfl) ?_
  (try (change wpAny _ _ _ _ _ _ _ (World.drew _)))
  obtain ⟨C0, hC0⟩ : ∃ C0, C0 = w3.drew := ⟨_, rfl⟩
  rw [← hC0]
  have h0 : Below w3.heap.size w3 C0 := by rw [hC0]; exact (Below.refl _ _).drew
  clear hC0
  -- REGION
  first | (refine wpAny_take (i := 0) (v := ?_) rfl (by kernel_rfl) (by kernel_rfl) (by kernel_rfl) (fun _ _ _ h => h) (Or.inl ⟨by rfl, ?_⟩) ?_; rotate_left; (focus (intro wz; go_simp; done)); (try simp only [Act.put, List.getElem_toArray, List.getElem_cons_zero, List.setIfInBounds_toArray, List.set_cons_zero, List.set_cons_succ])) | (refine wpAny_take (i := 0) (v := ?_) rfl (by kernel_rfl) (by kernel_rfl) (by kernel_rfl) (fun _ _ _ h => h) (Or.inl ⟨by rfl, ?_⟩) ?_; rotate_left; (focus (intro wz; go_simp; with_reducible rfl)); (try simp only [Act.put, List.getElem_toArray, List.getElem_cons_zero, List.setIfInBounds_toArray, List.set_cons_zero, List.set_cons_succ])) | (refine wpAny_take (i := 0) (v := undef) rfl (by kernel_rfl) (by kernel_rfl) (by kernel_rfl) (fun _ _ _ h => h) (Or.inr ⟨by rfl, rfl⟩) ?_; (try simp only [Act.put, List.getElem_toArray, List.getElem_cons_zero, List.setIfInBounds_toArray, List.set_cons_zero, List.set_cons_succ])) | fail "op 0"
  first | (refine wpAny_take (i := 1) (v := ?_) rfl (by kernel_rfl) (by kernel_rfl) (by kernel_rfl) (fun _ _ _ h => h) (Or.inl ⟨by rfl, ?_⟩) ?_; rotate_left; (focus (intro wz; go_simp; done)); (try simp only [Act.put, List.getElem_toArray, List.getElem_cons_succ, List.getElem_cons_zero, List.setIfInBounds_toArray, List.set_cons_zero, List.set_cons_succ])) | (refine wpAny_take (i := 1) (v := ?_) rfl (by kernel_rfl) (by kernel_rfl) (by kernel_rfl) (fun _ _ _ h => h) (Or.inl ⟨by rfl, ?_⟩) ?_; rotate_left; (focus (intro wz; go_simp; with_reducible rfl)); (try simp only [Act.put, List.getElem_toArray, List.getElem_cons_succ, List.getElem_cons_zero, List.setIfInBounds_toArray, List.set_cons_zero, List.set_cons_succ])) | (refine wpAny_take (i := 1) (v := undef) rfl (by kernel_rfl) (by kernel_rfl) (by kernel_rfl) (fun _ _ _ h => h) (Or.inr ⟨by rfl, rfl⟩) ?_; (try simp only [Act.put, List.getElem_toArray, List.getElem_cons_succ, List.getElem_cons_zero, List.setIfInBounds_toArray, List.set_cons_zero, List.set_cons_succ])) | fail "op 1"
  first | (refine wpAny_take (i := 2) (v := ?_) rfl (by kernel_rfl) (by kernel_rfl) (by kernel_rfl) (fun _ _ _ h => h) (Or.inl ⟨by rfl, ?_⟩) ?_; rotate_left; (focus (intro wz; go_simp; done)); (try simp only [Act.put, List.getElem_toArray, List.getElem_cons_succ, List.getElem_cons_zero, List.setIfInBounds_toArray, List.set_cons_zero, List.set_cons_succ])) | (refine wpAny_take (i := 2) (v := ?_) rfl (by kernel_rfl) (by kernel_rfl) (by kernel_rfl) (fun _ _ _ h => h) (Or.inl ⟨by rfl, ?_⟩) ?_; rotate_left; (focus (intro wz; go_simp; with_reducible rfl)); (try simp only [Act.put, List.getElem_toArray, List.getElem_cons_succ, List.getElem_cons_zero, List.setIfInBounds_toArray, List.set_cons_zero, List.set_cons_succ])) | (refine wpAny_take (i := 2) (v := undef) rfl (by kernel_rfl) (by kernel_rfl) (by kernel_rfl) (fun _ _ _ h => h) (Or.inr ⟨by rfl, rfl⟩) ?_; (try simp only [Act.put, List.getElem_toArray, List.getElem_cons_succ, List.getElem_cons_zero, List.setIfInBounds_toArray, List.set_cons_zero, List.set_cons_succ])) | fail "op 2"
  first | (refine wpAny_take (i := 3) (v := ?_) rfl (by kernel_rfl) (by kernel_rfl) (by kernel_rfl) (fun _ _ _ h => h) (Or.inl ⟨by rfl, ?_⟩) ?_; rotate_left; (focus (intro wz; go_simp; done)); (try simp only [Act.put, List.getElem_toArray, List.getElem_cons_succ, List.getElem_cons_zero, List.setIfInBounds_toArray, List.set_cons_zero, List.set_cons_succ])) | (refine wpAny_take (i := 3) (v := ?_) rfl (by kernel_rfl) (by kernel_rfl) (by kernel_rfl) (fun _ _ _ h => h) (Or.inl ⟨by rfl, ?_⟩) ?_; rotate_left; (focus (intro wz; go_simp; with_reducible rfl)); (try simp only [Act.put, List.getElem_toArray, List.getElem_cons_succ, List.getElem_cons_zero, List.setIfInBounds_toArray, List.set_cons_zero, List.set_cons_succ])) | (refine wpAny_take (i := 3) (v := undef) rfl (by kernel_rfl) (by kernel_rfl) (by kernel_rfl) (fun _ _ _ h => h) (Or.inr ⟨by rfl, rfl⟩) ?_; (try simp only [Act.put, List.getElem_toArray, List.getElem_cons_succ, List.getElem_cons_zero, List.setIfInBounds_toArray, List.set_cons_zero, List.set_cons_succ])) | fail "op 3"
  first | (refine wpAny_take (i := 4) (v := ?_) rfl (by kernel_rfl) (by kernel_rfl) (by kernel_rfl) (fun _ _ _ h => h) (Or.inl ⟨by rfl, ?_⟩) ?_; rotate_left; (focus (intro wz; go_simp; done)); (try simp only [Act.put, List.getElem_toArray, List.getElem_cons_succ, List.getElem_cons_zero, List.setIfInBounds_toArray, List.set_cons_zero, List.set_cons_succ])) | (refine wpAny_take (i := 4) (v := ?_) rfl (by kernel_rfl) (by kernel_rfl) (by kernel_rfl) (fun _ _ _ h => h) (Or.inl ⟨by rfl, ?_⟩) ?_; rotate_left; (focus (intro wz; go_simp; with_reducible rfl)); (try simp only [Act.put, List.getElem_toArray, List.getElem_cons_succ, List.getElem_cons_zero, List.setIfInBounds_toArray, List.set_cons_zero, List.set_cons_succ])) | (refine wpAny_take (i := 4) (v := undef) rfl (by kernel_rfl) (by kernel_rfl) (by kernel_rfl) (fun _ _ _ h => h) (Or.inr ⟨by rfl, rfl⟩) ?_; (try simp only [Act.put, List.getElem_toArray, List.getElem_cons_succ, List.getElem_cons_zero, List.setIfInBounds_toArray, List.set_cons_zero, List.set_cons_succ])) | fail "op 4"
  first | (refine wpAny_take (i := 5) (v := ?_) rfl (by kernel_rfl) (by kernel_rfl) (by kernel_rfl) (fun _ _ _ h => h) (Or.inl ⟨by rfl, ?_⟩) ?_; rotate_left; (focus (intro wz; go_simp; done)); (try simp only [Act.put, List.getElem_toArray, List.getElem_cons_succ, List.getElem_cons_zero, List.setIfInBounds_toArray, List.set_cons_zero, List.set_cons_succ])) | (refine wpAny_take (i := 5) (v := ?_) rfl (by kernel_rfl) (by kernel_rfl) (by kernel_rfl) (fun _ _ _ h => h) (Or.inl ⟨by rfl, ?_⟩) ?_; rotate_left; (focus (intro wz; go_simp; with_reducible rfl)); (try simp only [Act.put, List.getElem_toArray, List.getElem_cons_succ, List.getElem_cons_zero, List.setIfInBounds_toArray, List.set_cons_zero, List.set_cons_succ])) | (refine wpAny_take (i := 5) (v := undef) rfl (by kernel_rfl) (by kernel_rfl) (by kernel_rfl) (fun _ _ _ h => h) (Or.inr ⟨by rfl, rfl⟩) ?_; (try simp only [Act.put, List.getElem_toArray, List.getElem_cons_succ, List.getElem_cons_zero, List.setIfInBounds_toArray, List.set_cons_zero, List.set_cons_succ])) | fail "op 5"
  first | (refine wpAny_take (i := 6) (v := ?_) rfl (by kernel_rfl) (by kernel_rfl) (by kernel_rfl) (fun _ _ _ h => h) (Or.inl ⟨by rfl, ?_⟩) ?_; rotate_left; (focus (intro wz; go_simp; done)); (try simp only [Act.put, List.getElem_toArray, List.getElem_cons_succ, List.getElem_cons_zero, List.setIfInBounds_toArray, List.set_cons_zero, List.set_cons_succ])) | (refine wpAny_take (i := 6) (v := ?_) rfl (by kernel_rfl) (by kernel_rfl) (by kernel_rfl) (fun _ _ _ h => h) (Or.inl ⟨by rfl, ?_⟩) ?_; rotate_left; (focus (intro wz; go_simp; with_reducible rfl)); (try simp only [Act.put, List.getElem_toArray, List.getElem_cons_succ, List.getElem_cons_zero, List.setIfInBounds_toArray, List.set_cons_zero, List.set_cons_succ])) | (refine wpAny_take (i := 6) (v := undef) rfl (by kernel_rfl) (by kernel_rfl) (by kernel_rfl) (fun _ _ _ h => h) (Or.inr ⟨by rfl, rfl⟩) ?_; (try simp only [Act.put, List.getElem_toArray, List.getElem_cons_succ, List.getElem_cons_zero, List.setIfInBounds_toArray, List.set_cons_zero, List.set_cons_succ])) | fail "op 6"
  first | (refine wpAny_take (i := 7) (v := ?_) rfl (by kernel_rfl) (by kernel_rfl) (by kernel_rfl) (fun _ _ _ h => h) (Or.inl ⟨by rfl, ?_⟩) ?_; rotate_left; (focus (intro wz; go_simp; done)); (try simp only [Act.put, List.getElem_toArray, List.getElem_cons_succ, List.getElem_cons_zero, List.setIfInBounds_toArray, List.set_cons_zero, List.set_cons_succ])) | (refine wpAny_take (i := 7) (v := ?_) rfl (by kernel_rfl) (by kernel_rfl) (by kernel_rfl) (fun _ _ _ h => h) (Or.inl ⟨by rfl, ?_⟩) ?_; rotate_left; (focus (intro wz; go_simp; with_reducible rfl)); (try simp only [Act.put, List.getElem_toArray, List.getElem_cons_succ, List.getElem_cons_zero, List.setIfInBounds_toArray, List.set_cons_zero, List.set_cons_succ])) | (refine wpAny_take (i := 7) (v := undef) rfl (by kernel_rfl) (by kernel_rfl) (by kernel_rfl) (fun _ _ _ h => h) (Or.inr ⟨by rfl, rfl⟩) ?_; (try simp only [Act.put, List.getElem_toArray, List.getElem_cons_succ, List.getElem_cons_zero, List.setIfInBounds_toArray, List.set_cons_zero, List.set_cons_succ])) | fail "op 7"
  first | (refine wpAny_take (i := 8) (v := ?_) rfl (by kernel_rfl) (by kernel_rfl) (by kernel_rfl) (fun _ _ _ h => h) (Or.inl ⟨by rfl, ?_⟩) ?_; rotate_left; (focus (intro wz; go_simp; done)); (try simp only [Act.put, List.getElem_toArray, List.getElem_cons_succ, List.getElem_cons_zero, List.setIfInBounds_toArray, List.set_cons_zero, List.set_cons_succ])) | (refine wpAny_take (i := 8) (v := ?_) rfl (by kernel_rfl) (by kernel_rfl) (by kernel_rfl) (fun _ _ _ h => h) (Or.inl ⟨by rfl, ?_⟩) ?_; rotate_left; (focus (intro wz; go_simp; with_reducible rfl)); (try simp only [Act.put, List.getElem_toArray, List.getElem_cons_succ, List.getElem_cons_zero, List.setIfInBounds_toArray, List.set_cons_zero, List.set_cons_succ])) | (refine wpAny_take (i := 8) (v := undef) rfl (by kernel_rfl) (by kernel_rfl) (by kernel_rfl) (fun _ _ _ h => h) (Or.inr ⟨by rfl, rfl⟩) ?_; (try simp only [Act.put, List.getElem_toArray, List.getElem_cons_succ, List.getElem_cons_zero, List.setIfInBounds_toArray, List.set_cons_zero, List.set_cons_succ])) | fail "op 8"
  first | (refine wpAny_take (i := 9) (v := ?_) rfl (by kernel_rfl) (by kernel_rfl) (by kernel_rfl) (fun _ _ _ h => h) (Or.inl ⟨by rfl, ?_⟩) ?_; rotate_left; (focus (intro wz; go_simp; done)); (try simp only [Act.put, List.getElem_toArray, List.getElem_cons_succ, List.getElem_cons_zero, List.setIfInBounds_toArray, List.set_cons_zero, List.set_cons_succ])) | (refine wpAny_take (i := 9) (v := ?_) rfl (by kernel_rfl) (by kernel_rfl) (by kernel_rfl) (fun _ _ _ h => h) (Or.inl ⟨by rfl, ?_⟩) ?_; rotate_left; (focus (intro wz; go_simp; with_reducible rfl)); (try simp only [Act.put, List.getElem_toArray, List.getElem_cons_succ, List.getElem_cons_zero, List.setIfInBounds_toArray, List.set_cons_zero, List.set_cons_succ])) | (refine wpAny_take (i := 9) (v := undef) rfl (by kernel_rfl) (by kernel_rfl) (by kernel_rfl) (fun _ _ _ h => h) (Or.inr ⟨by rfl, rfl⟩) ?_; (try simp only [Act.put, List.getElem_toArray, List.getElem_cons_succ, List.getElem_cons_zero, List.setIfInBounds_toArray, List.set_cons_zero, List.set_cons_succ])) | fail "op 9"
  first | (refine wpAny_take (i := 11) (v := ?_) rfl (by kernel_rfl) (by kernel_rfl) (by kernel_rfl) (fun _ _ _ h => h) (Or.inl ⟨by rfl, ?_⟩) ?_; rotate_left; (focus (intro wz; go_simp; done)); (try simp only [Act.put, List.getElem_toArray, List.getElem_cons_succ, List.getElem_cons_zero, List.setIfInBounds_toArray, List.set_cons_zero, List.set_cons_succ])) | (refine wpAny_take (i := 11) (v := ?_) rfl (by kernel_rfl) (by kernel_rfl) (by kernel_rfl) (fun _ _ _ h => h) (Or.inl ⟨by rfl, ?_⟩) ?_; rotate_left; (focus (intro wz; go_simp; with_reducible rfl)); (try simp only [Act.put, List.getElem_toArray, List.getElem_cons_succ, List.getElem_cons_zero, List.setIfInBounds_toArray, List.set_cons_zero, List.set_cons_succ])) | (refine wpAny_take (i := 11) (v := undef) rfl (by kernel_rfl) (by kernel_rfl) (by kernel_rfl) (fun _ _ _ h => h) (Or.inr ⟨by rfl, rfl⟩) ?_; (try simp only [Act.put, List.getElem_toArray, List.getElem_cons_succ, List.getElem_cons_zero, List.setIfInBounds_toArray, List.set_cons_zero, List.set_cons_succ])) | fail "op 11"
  first | (refine wpAny_take (i := 13) (v := ?_) rfl (by kernel_rfl) (by kernel_rfl) (by kernel_rfl) (fun _ _ _ h => h) (Or.inl ⟨by rfl, ?_⟩) ?_; rotate_left; (focus (intro wz; go_simp; done)); (try simp only [Act.put, List.getElem_toArray, List.getElem_cons_succ, List.getElem_cons_zero, List.setIfInBounds_toArray, List.set_cons_zero, List.set_cons_succ])) | (refine wpAny_take (i := 13) (v := ?_) rfl (by kernel_rfl) (by kernel_rfl) (by kernel_rfl) (fun _ _ _ h => h) (Or.inl ⟨by rfl, ?_⟩) ?_; rotate_left; (focus (intro wz; go_simp; with_reducible rfl)); (try simp only [Act.put, List.getElem_toArray, List.getElem_cons_succ, List.getElem_cons_zero, List.setIfInBounds_toArray, List.set_cons_zero, List.set_cons_succ])) | (refine wpAny_take (i := 13) (v := undef) rfl (by kernel_rfl) (by kernel_rfl) (by kernel_rfl) (fun _ _ _ h => h) (Or.inr ⟨by rfl, rfl⟩) ?_; (try simp only [Act.put, List.getElem_toArray, List.getElem_cons_succ, List.getElem_cons_zero, List.setIfInBounds_toArray, List.set_cons_zero, List.set_cons_succ])) | fail "op 13"
  first | (refine wpAny_take (i := 14) (v := ?_) rfl (by kernel_rfl) (by kernel_rfl) (by kernel_rfl) (fun _ _ _ h => h) (Or.inl ⟨by rfl, ?_⟩) ?_; rotate_left; (focus (intro wz; go_simp; done)); (try simp only [Act.put, List.getElem_toArray, List.getElem_cons_succ, List.getElem_cons_zero, List.setIfInBounds_toArray, List.set_cons_zero, List.set_cons_succ])) | (refine wpAny_take (i := 14) (v := ?_) rfl (by kernel_rfl) (by kernel_rfl) (by kernel_rfl) (fun _ _ _ h => h) (Or.inl ⟨by rfl, ?_⟩) ?_; rotate_left; (focus (intro wz; go_simp; with_reducible rfl)); (try simp only [Act.put, List.getElem_toArray, List.getElem_cons_succ, List.getElem_cons_zero, List.setIfInBounds_toArray, List.set_cons_zero, List.set_cons_succ])) | (refine wpAny_take (i := 14) (v := undef) rfl (by kernel_rfl) (by kernel_rfl) (by kernel_rfl) (fun _ _ _ h => h) (Or.inr ⟨by rfl, rfl⟩) ?_; (try simp only [Act.put, List.getElem_toArray, List.getElem_cons_succ, List.getElem_cons_zero, List.setIfInBounds_toArray, List.set_cons_zero, List.set_cons_succ])) | fail "op 14"
  refine wpAny_ready (rs := [10, 15]) (by kernel_rfl) (by simp) ?_
  refine AllReady.cons rfl (fun K hK => ?_) (AllReady.cons rfl (fun K hK => ?_) AllReady.nil)
  · go_simp
    refine hK _ _ ?_
    clear hK K
    (try simp only [Act.put, List.getElem_toArray, List.getElem_cons_succ, List.getElem_cons_zero, List.setIfInBounds_toArray, List.set_cons_zero, List.set_cons_succ])
    obtain ⟨C1, eC1⟩ : ∃ C1, C1 = C0.alloc (.cells #[] 25) := ⟨_, rfl⟩
    have h1 : Below w3.heap.size w3 C1 := by rw [eC1]; exact h0.alloc h0.size _
    have own1 : C1.ownsRow w3.heap.size 25 2 (.slice (some ⟨C0.heap.size, 0, none⟩) 0 0) 0 [] := by rw [eC1]; exact ⟨rfl, .inr ⟨C0.heap.size, 0, #[], rfl, h0.size, heap_alloc_new C0 _, by simp, by simp [maxLen], by simp, by simp⟩⟩
    rw [← eC1]
    clear eC1
    refine wpAny_ready (rs := [12, 15]) (by kernel_rfl) (by simp) ?_
    refine AllReady.cons rfl (fun K hK => ?_) (AllReady.cons rfl (fun K hK => ?_) AllReady.nil)
    · have hm2 := HMR.out.below h1 (.inr (Nat.le_refl _))
      refine if_yesP (by first | rfl | (go_simp; done) | simp [Region.wanted, yielded]) ?_
      refine wp_append_lies _ _ _ _ (by rfl) w3.heap.size 25 i0 (.agg #[.int .i64 0, .bool false]) 2 16 Try.underlying23 hi hq0 hq1 hq2 rfl (by omega) (.slice (some ⟨C0.heap.size, 0, none⟩) 0 0) 0 [] (by rfl) own1 ⟨gM, 0, none⟩ xs.length uc (tcs xs) (by rfl) (tcs_len xs) (fun j z hz => hm2.1.cells (g := gM) rfl j z hz) (tcs_one xs) (by omega) (by unfold maxLen; omega) (by omega) h1.size _ rfl ?_
      intro g2 p2 C2 ow2 gr2 at2 lx2
      simp only [Nat.zero_add, List.nil_append] at ow2
      refine hK _ _ ?_
      clear hK K
      (try simp only [Act.put, List.getElem_toArray, List.getElem_cons_succ, List.getElem_cons_zero, List.setIfInBounds_toArray, List.set_cons_zero, List.set_cons_succ])
      simp only [Nat.zero_add]
      have h2 : Below w3.heap.size w3 C2 := h1.grown gr2 h1.size (fun k hk => (own1.lt k hk).1)
      refine wpAny_ready (rs := [15]) (by kernel_rfl) (by simp) ?_
      refine AllReady.cons rfl (fun K hK => ?_) AllReady.nil
      have lc0 : C2.cell? ⟨gM, 0, none⟩ = some (.int .i64 t0) := (h2.cell (p := ⟨gM, 0, none⟩) gM3).trans m0
      have lc1 : C2.cell? ⟨gM, 1, none⟩ = some (.bool b0) := (h2.cell (p := ⟨gM, 1, none⟩) gM3).trans m1
      go_simp
      refine hK _ _ ?_
      clear hK K
      (try simp only [Act.put, List.getElem_toArray, List.getElem_cons_succ, List.getElem_cons_zero, List.setIfInBounds_toArray, List.set_cons_zero, List.set_cons_succ])
      clear lc0 lc1
      refine wpAny_ready (rs := [16]) (by kernel_rfl) (by simp) ?_
      refine AllReady.cons rfl (fun K hK => ?_) AllReady.nil
      go_simp
      refine hK _ _ ?_
      clear hK K
      (try simp only [Act.put, List.getElem_toArray, List.getElem_cons_succ, List.getElem_cons_zero, List.setIfInBounds_toArray, List.set_cons_zero, List.set_cons_succ])
      obtain ⟨C4, eC4⟩ : ∃ C4, C4 = C2.alloc (.cells #[.int .i64 t0, .bool b0] 25) := ⟨_, rfl⟩
      have h4 : Below w3.heap.size w3 C4 := by rw [eC4]; exact h2.alloc h2.size _
      have blk4 : C4.heap[C2.heap.size]? = some (.cells #[.int .i64 t0, .bool b0] 25 (0, 0)) := by rw [eC4]; exact heap_alloc_new C2 _
      have lt4 : C2.heap.size < C4.heap.size := by rw [eC4]; simp
      have sep4 : ∀ g, Value.ownBlock (.slice (some ⟨g2, 0, none⟩) xs.length p2) = some g → g ≠ C2.heap.size := fun g hg => by have := (ow2.lt g hg).2; omega
      have own4 : C4.ownsRow w3.heap.size 25 2 (.slice (some ⟨g2, 0, none⟩) xs.length p2) xs.length (tcs xs) := by rw [eC4]; exact ow2.alloc _
      rw [← eC4]
      clear eC4
      refine wpAny_ready (rs := [17]) (by kernel_rfl) (by simp) ?_
      refine AllReady.cons rfl (fun K hK => ?_) AllReady.nil
      refine if_yesP (by first | rfl | (go_simp; done) | simp [Region.wanted, yielded]) ?_
      refine wp_append_lies _ _ _ _ (by rfl) w3.heap.size 25 i0 (.agg #[.int .i64 0, .bool false]) 2 16 Try.underlying23 hi hq0 hq1 hq2 rfl (by omega) (.slice (some ⟨g2, 0, none⟩) xs.length p2) xs.length (tcs xs) (by rfl) own4 ⟨C2.heap.size, 0, none⟩ 1 1 [.int .i64 t0, .bool b0] (by rfl) (by rfl) (World.news_of_block (cs := #[.int .i64 t0, .bool b0]) (t := 25) (fr := (0, 0)) blk4) news2_one (by omega) (by unfold maxLen; omega) (by omega) h4.size _ rfl ?_
      intro g5 p5 C5 ow5 gr5 at5 lx5
      refine hK _ _ ?_
      clear hK K
      (try simp only [Act.put, List.getElem_toArray, List.getElem_cons_succ, List.getElem_cons_zero, List.setIfInBounds_toArray, List.set_cons_zero, List.set_cons_succ])
      have h5 : Below w3.heap.size w3 C5 := h4.grown gr5 h4.size (fun k hk => (own4.lt k hk).1)
      have hX : LV C5 (.slice (some ⟨g5, 0, none⟩) (xs.length + 1) p5) (xs ++ [(t0, b0)]) := ⟨_, _, trow_ofP (by rw [tcs_app]; exact ow5) (by simp)⟩
      refine wpAny_ready (rs := [18]) (by kernel_rfl) (by simp) ?_
      refine AllReady.cons rfl (fun K hK => ?_) AllReady.nil
      go_simp
      go_wp2_with (fail)
      (go_at_call 36; refine (KM.out _ C5 (bl_step hb13 h5) hX).mono ?_; rintro e w5 ⟨rfl, hb5⟩)
      have hbx : Below w3.heap.size w3 w5 := bl_step h5 hb5
      (try (refine hK _ _ ?_))
      (try clear hK K)
      (try simp only [Act.put, List.getElem_toArray, List.getElem_cons_succ, List.getElem_cons_zero, List.setIfInBounds_toArray, List.set_cons_zero, List.set_cons_succ])
      first | (refine wpAny_take (i := 19) (v := ?_) rfl (by kernel_rfl) (by kernel_rfl) (by kernel_rfl) (fun _ _ _ h => h) (Or.inl ⟨by rfl, ?_⟩) ?_; rotate_left; (focus (intro wz; go_simp; done)); (try simp only [Act.put, List.getElem_toArray, List.getElem_cons_succ, List.getElem_cons_zero, List.setIfInBounds_toArray, List.set_cons_zero, List.set_cons_succ])) | (refine wpAny_take (i := 19) (v := ?_) rfl (by kernel_rfl) (by kernel_rfl) (by kernel_rfl) (fun _ _ _ h => h) (Or.inl ⟨by rfl, ?_⟩) ?_; rotate_left; (focus (intro wz; go_simp; with_reducible rfl)); (try simp only [Act.put, List.getElem_toArray, List.getElem_cons_succ, List.getElem_cons_zero, List.setIfInBounds_toArray, List.set_cons_zero, List.set_cons_succ])) | (refine wpAny_take (i := 19) (v := undef) rfl (by kernel_rfl) (by kernel_rfl) (by kernel_rfl) (fun _ _ _ h => h) (Or.inr ⟨by rfl, rfl⟩) ?_; (try simp only [Act.put, List.getElem_toArray, List.getElem_cons_succ, List.getElem_cons_zero, List.setIfInBounds_toArray, List.set_cons_zero, List.set_cons_succ])) | fail "op 19"
      first | (refine wpAny_take (i := 20) (v := ?_) rfl (by kernel_rfl) (by kernel_rfl) (by kernel_rfl) (fun _ _ _ h => h) (Or.inl ⟨by rfl, ?_⟩) ?_; rotate_left; (focus (intro wz; go_simp; done)); (try simp only [Act.put, List.getElem_toArray, List.getElem_cons_succ, List.getElem_cons_zero, List.setIfInBounds_toArray, List.set_cons_zero, List.set_cons_succ])) | (refine wpAny_take (i := 20) (v := ?_) rfl (by kernel_rfl) (by kernel_rfl) (by kernel_rfl) (fun _ _ _ h => h) (Or.inl ⟨by rfl, ?_⟩) ?_; rotate_left; (focus (intro wz; go_simp; with_reducible rfl)); (try simp only [Act.put, List.getElem_toArray, List.getElem_cons_succ, List.getElem_cons_zero, List.setIfInBounds_toArray, List.set_cons_zero, List.set_cons_succ])) | (refine wpAny_take (i := 20) (v := undef) rfl (by kernel_rfl) (by kernel_rfl) (by kernel_rfl) (fun _ _ _ h => h) (Or.inr ⟨by rfl, rfl⟩) ?_; (try simp only [Act.put, List.getElem_toArray, List.getElem_cons_succ, List.getElem_cons_zero, List.setIfInBounds_toArray, List.set_cons_zero, List.set_cons_succ])) | fail "op 20"
      refine wpAny_done (by kernel_rfl) ?_ _
      obtain ⟨W, hW⟩ : ∃ W, W = w5 := ⟨_, rfl⟩
      have hbW : Below w1.heap.size w1 W := by rw [hW]; exact bl_step hb13 hbx
      rw [← hW]
      clear hW hb5 hbx
      have c0 := (hbW.cell (p := ⟨A, off + j * 5, none⟩) hA).trans HC0.out
      have c1 := (hbW.cell (p := ⟨A, off + j * 5 + 1, none⟩) hA).trans HC1.out
      have c2 := (hbW.cell (p := ⟨A, off + j * 5 + 2, none⟩) hA).trans HC2.out
      have c3 := (hbW.cell (p := ⟨A, off + j * 5 + 3, none⟩) hA).trans HC3.out
      have c4 := (hbW.cell (p := ⟨A, off + j * 5 + 4, none⟩) hA).trans HC4.out
      go_wp2_with (fail)
      (go_at_call 15; refine (KG.out _ hbW).mono ?_; rintro e w6 ⟨vm, rfl, hvm, hb6⟩)
      have hbW6 := bl_step hbW hb6
      have hvl : LV w6 vm (psL p s) := ⟨_, _, hvm⟩
      obtain ⟨va, vc, rfl, _, _⟩ := hvl.sl
      clear c0 c1 c2 c3 c4 hvm hb6
      cases hf : pfit p s with
      | false =>
        clear hvl
        go_wp2
        go_ret
        exact ⟨by first | rfl | (simp; done) | (rw [hrl]; simp; done) | simp [hrl], bl_step HB1.out hbW6⟩
      | true =>
        have hown := pR_own (xs := xs) (p := p) (by rw [HR.out]; omega) (List.mem_of_getElem? hp) hf (psL_mv hf)
        have KX := Lib.hid (KY.out _ _ w6 hbW6 hvl)
        obtain ⟨y, hy⟩ : ∃ y, pR ps s (psL p s) = y := ⟨_, rfl⟩
        rw [hy] at KX hown
        have hy1 : decide (1 ≤ y) = true := decide_eq_true hown
        clear hvl
        go_wp2_with (fail)
        (go_at_call 36; refine (KX.out).mono ?_; rintro e w7 ⟨rfl, hb7⟩)
        go_wp2
        go_ret
        exact ⟨by first | rfl | (simp; done) | (rw [hrl]; simp; done) | simp [hrl], bl_step HB1.out (bl_step hbW6 hb7)⟩
    · have lc0 : C1.cell? ⟨gM, 0, none⟩ = some (.int .i64 t0) := (h1.cell (p := ⟨gM, 0, none⟩) gM3).trans m0
      have lc1 : C1.cell? ⟨gM, 1, none⟩ = some (.bool b0) := (h1.cell (p := ⟨gM, 1, none⟩) gM3).trans m1
      go_simp
      refine hK _ _ ?_
      clear hK K
      (try simp only [Act.put, List.getElem_toArray, List.getElem_cons_succ, List.getElem_cons_zero, List.setIfInBounds_toArray, List.set_cons_zero, List.set_cons_succ])
      clear lc0 lc1
      refine wpAny_ready (rs := [12, 16]) (by kernel_rfl) (by simp) ?_
      refine AllReady.cons rfl (fun K hK => ?_) (AllReady.cons rfl (fun K hK => ?_) AllReady.nil)
      · have hm7 := HMR.out.below h1 (.inr (Nat.le_refl _))
        refine if_yesP (by first | rfl | (go_simp; done) | simp [Region.wanted, yielded]) ?_
        refine wp_append_lies _ _ _ _ (by rfl) w3.heap.size 25 i0 (.agg #[.int .i64 0, .bool false]) 2 16 Try.underlying23 hi hq0 hq1 hq2 rfl (by omega) (.slice (some ⟨C0.heap.size, 0, none⟩) 0 0) 0 [] (by rfl) own1 ⟨gM, 0, none⟩ xs.length uc (tcs xs) (by rfl) (tcs_len xs) (fun j z hz => hm7.1.cells (g := gM) rfl j z hz) (tcs_one xs) (by omega) (by unfold maxLen; omega) (by omega) h1.size _ rfl ?_
        intro g7 p7 C7 ow7 gr7 at7 lx7
        simp only [Nat.zero_add, List.nil_append] at ow7
        refine hK _ _ ?_
        clear hK K
        (try simp only [Act.put, List.getElem_toArray, List.getElem_cons_succ, List.getElem_cons_zero, List.setIfInBounds_toArray, List.set_cons_zero, List.set_cons_succ])
        simp only [Nat.zero_add]
        have h7 : Below w3.heap.size w3 C7 := h1.grown gr7 h1.size (fun k hk => (own1.lt k hk).1)
        refine wpAny_ready (rs := [16]) (by kernel_rfl) (by simp) ?_
        refine AllReady.cons rfl (fun K hK => ?_) AllReady.nil
        go_simp
        refine hK _ _ ?_
        clear hK K
        (try simp only [Act.put, List.getElem_toArray, List.getElem_cons_succ, List.getElem_cons_zero, List.setIfInBounds_toArray, List.set_cons_zero, List.set_cons_succ])
        obtain ⟨C8, eC8⟩ : ∃ C8, C8 = C7.alloc (.cells #[.int .i64 t0, .bool b0] 25) := ⟨_, rfl⟩
        have h8 : Below w3.heap.size w3 C8 := by rw [eC8]; exact h7.alloc h7.size _
        have blk8 : C8.heap[C7.heap.size]? = some (.cells #[.int .i64 t0, .bool b0] 25 (0, 0)) := by rw [eC8]; exact heap_alloc_new C7 _
        have lt8 : C7.heap.size < C8.heap.size := by rw [eC8]; simp
        have sep8 : ∀ g, Value.ownBlock (.slice (some ⟨g7, 0, none⟩) xs.length p7) = some g → g ≠ C7.heap.size := fun g hg => by have := (ow7.lt g hg).2; omega
        have own8 : C8.ownsRow w3.heap.size 25 2 (.slice (some ⟨g7, 0, none⟩) xs.length p7) xs.length (tcs xs) := by rw [eC8]; exact ow7.alloc _
        rw [← eC8]
        clear eC8
        refine wpAny_ready (rs := [17]) (by kernel_rfl) (by simp) ?_
        refine AllReady.cons rfl (fun K hK => ?_) AllReady.nil
        refine if_yesP (by first | rfl | (go_simp; done) | simp [Region.wanted, yielded]) ?_
        refine wp_append_lies _ _ _ _ (by rfl) w3.heap.size 25 i0 (.agg #[.int .i64 0, .bool false]) 2 16 Try.underlying23 hi hq0 hq1 hq2 rfl (by omega) (.slice (some ⟨g7, 0, none⟩) xs.length p7) xs.length (tcs xs) (by rfl) own8 ⟨C7.heap.size, 0, none⟩ 1 1 [.int .i64 t0, .bool b0] (by rfl) (by rfl) (World.news_of_block (cs := #[.int .i64 t0, .bool b0]) (t := 25) (fr := (0, 0)) blk8) news2_one (by omega) (by unfold maxLen; omega) (by omega) h8.size _ rfl ?_
        intro g9 p9 C9 ow9 gr9 at9 lx9
        refine hK _ _ ?_
        clear hK K
        (try simp only [Act.put, List.getElem_toArray, List.getElem_cons_succ, List.getElem_cons_zero, List.setIfInBounds_toArray, List.set_cons_zero, List.set_cons_succ])
        have h9 : Below w3.heap.size w3 C9 := h8.grown gr9 h8.size (fun k hk => (own8.lt k hk).1)
        have hX : LV C9 (.slice (some ⟨g9, 0, none⟩) (xs.length + 1) p9) (xs ++ [(t0, b0)]) := ⟨_, _, trow_ofP (by rw [tcs_app]; exact ow9) (by simp)⟩
        refine wpAny_ready (rs := [18]) (by kernel_rfl) (by simp) ?_
        refine AllReady.cons rfl (fun K hK => ?_) AllReady.nil
        go_simp
        go_wp2_with (fail)
        (go_at_call 36; refine (KM.out _ C9 (bl_step hb13 h9) hX).mono ?_; rintro e w5 ⟨rfl, hb5⟩)
        have hbx : Below w3.heap.size w3 w5 := bl_step h9 hb5
        (try (refine hK _ _ ?_))
        (try clear hK K)
        (try simp only [Act.put, List.getElem_toArray, List.getElem_cons_succ, List.getElem_cons_zero, List.setIfInBounds_toArray, List.set_cons_zero, List.set_cons_succ])
        first | (refine wpAny_take (i := 19) (v := ?_) rfl (by kernel_rfl) (by kernel_rfl) (by kernel_rfl) (fun _ _ _ h => h) (Or.inl ⟨by rfl, ?_⟩) ?_; rotate_left; (focus (intro wz; go_simp; done)); (try simp only [Act.put, List.getElem_toArray, List.getElem_cons_succ, List.getElem_cons_zero, List.setIfInBounds_toArray, List.set_cons_zero, List.set_cons_succ])) | (refine wpAny_take (i := 19) (v := ?_) rfl (by kernel_rfl) (by kernel_rfl) (by kernel_rfl) (fun _ _ _ h => h) (Or.inl ⟨by rfl, ?_⟩) ?_; rotate_left; (focus (intro wz; go_simp; with_reducible rfl)); (try simp only [Act.put, List.getElem_toArray, List.getElem_cons_succ, List.getElem_cons_zero, List.setIfInBounds_toArray, List.set_cons_zero, List.set_cons_succ])) | (refine wpAny_take (i := 19) (v := undef) rfl (by kernel_rfl) (by kernel_rfl) (by kernel_rfl) (fun _ _ _ h => h) (Or.inr ⟨by rfl, rfl⟩) ?_; (try simp only [Act.put, List.getElem_toArray, List.getElem_cons_succ, List.getElem_cons_zero, List.setIfInBounds_toArray, List.set_cons_zero, List.set_cons_succ])) | fail "op 19"
        first | (refine wpAny_take (i := 20) (v := ?_) rfl (by kernel_rfl) (by kernel_rfl) (by kernel_rfl) (fun _ _ _ h => h) (Or.inl ⟨by rfl, ?_⟩) ?_; rotate_left; (focus (intro wz; go_simp; done)); (try simp only [Act.put, List.getElem_toArray, List.getElem_cons_succ, List.getElem_cons_zero, List.setIfInBounds_toArray, List.set_cons_zero, List.set_cons_succ])) | (refine wpAny_take (i := 20) (v := ?_) rfl (by kernel_rfl) (by kernel_rfl) (by kernel_rfl) (fun _ _ _ h => h) (Or.inl ⟨by rfl, ?_⟩) ?_; rotate_left; (focus (intro wz; go_simp; with_reducible rfl)); (try simp only [Act.put, List.getElem_toArray, List.getElem_cons_succ, List.getElem_cons_zero, List.setIfInBounds_toArray, List.set_cons_zero, List.set_cons_succ])) | (refine wpAny_take (i := 20) (v := undef) rfl (by kernel_rfl) (by kernel_rfl) (by kernel_rfl) (fun _ _ _ h => h) (Or.inr ⟨by rfl, rfl⟩) ?_; (try simp only [Act.put, List.getElem_toArray, List.getElem_cons_succ, List.getElem_cons_zero, List.setIfInBounds_toArray, List.set_cons_zero, List.set_cons_succ])) | fail "op 20"
        refine wpAny_done (by kernel_rfl) ?_ _
        obtain ⟨W, hW⟩ : ∃ W, W = w5 := ⟨_, rfl⟩
        have hbW : Below w1.heap.size w1 W := by rw [hW]; exact bl_step hb13 hbx
        rw [← hW]
        clear hW hb5 hbx
        have c0 := (hbW.cell (p := ⟨A, off + j * 5, none⟩) hA).trans HC0.out
        have c1 := (hbW.cell (p := ⟨A, off + j * 5 + 1, none⟩) hA).trans HC1.out
        have c2 := (hbW.cell (p := ⟨A, off + j * 5 + 2, none⟩) hA).trans HC2.out
        have c3 := (hbW.cell (p := ⟨A, off + j * 5 + 3, none⟩) hA).trans HC3.out
        have c4 := (hbW.cell (p := ⟨A, off + j * 5 + 4, none⟩) hA).trans HC4.out
        go_wp2_with (fail)
        (go_at_call 15; refine (KG.out _ hbW).mono ?_; rintro e w6 ⟨vm, rfl, hvm, hb6⟩)
        have hbW6 := bl_step hbW hb6
        have hvl : LV w6 vm (psL p s) := ⟨_, _, hvm⟩
        obtain ⟨va, vc, rfl, _, _⟩ := hvl.sl
        clear c0 c1 c2 c3 c4 hvm hb6
        cases hf : pfit p s with
        | false =>
          clear hvl
          go_wp2
          go_ret
          exact ⟨by first | rfl | (simp; done) | (rw [hrl]; simp; done) | simp [hrl], bl_step HB1.out hbW6⟩
        | true =>
          have hown := pR_own (xs := xs) (p := p) (by rw [HR.out]; omega) (List.mem_of_getElem? hp) hf (psL_mv hf)
          have KX := Lib.hid (KY.out _ _ w6 hbW6 hvl)
          obtain ⟨y, hy⟩ : ∃ y, pR ps s (psL p s) = y := ⟨_, rfl⟩
          rw [hy] at KX hown
          have hy1 : decide (1 ≤ y) = true := decide_eq_true hown
          clear hvl
          go_wp2_with (fail)
          (go_at_call 36; refine (KX.out).mono ?_; rintro e w7 ⟨rfl, hb7⟩)
          go_wp2
          go_ret
          exact ⟨by first | rfl | (simp; done) | (rw [hrl]; simp; done) | simp [hrl], bl_step HB1.out (bl_step hbW6 hb7)⟩
      · go_simp
        refine hK _ _ ?_
        clear hK K
        (try simp only [Act.put, List.getElem_toArray, List.getElem_cons_succ, List.getElem_cons_zero, List.setIfInBounds_toArray, List.set_cons_zero, List.set_cons_succ])
        obtain ⟨C10, eC10⟩ : ∃ C10, C10 = C1.alloc (.cells #[.int .i64 t0, .bool b0] 25) := ⟨_, rfl⟩
        have h10 : Below w3.heap.size w3 C10 := by rw [eC10]; exact h1.alloc h1.size _
        have blk10 : C10.heap[C1.heap.size]? = some (.cells #[.int .i64 t0, .bool b0] 25 (0, 0)) := by rw [eC10]; exact heap_alloc_new C1 _
        have lt10 : C1.heap.size < C10.heap.size := by rw [eC10]; simp
        have sep10 : ∀ g, Value.ownBlock (.slice (some ⟨C0.heap.size, 0, none⟩) 0 0) = some g → g ≠ C1.heap.size := fun g hg => by have := (own1.lt g hg).2; omega
        have own10 : C10.ownsRow w3.heap.size 25 2 (.slice (some ⟨C0.heap.size, 0, none⟩) 0 0) 0 [] := by rw [eC10]; exact own1.alloc _
        rw [← eC10]
        clear eC10
        refine wpAny_ready (rs := [12]) (by kernel_rfl) (by simp) ?_
        refine AllReady.cons rfl (fun K hK => ?_) AllReady.nil
        have hm11 := HMR.out.below h10 (.inr (Nat.le_refl _))
        refine if_yesP (by first | rfl | (go_simp; done) | simp [Region.wanted, yielded]) ?_
        refine wp_append_lies _ _ _ _ (by rfl) w3.heap.size 25 i0 (.agg #[.int .i64 0, .bool false]) 2 16 Try.underlying23 hi hq0 hq1 hq2 rfl (by omega) (.slice (some ⟨C0.heap.size, 0, none⟩) 0 0) 0 [] (by rfl) own10 ⟨gM, 0, none⟩ xs.length uc (tcs xs) (by rfl) (tcs_len xs) (fun j z hz => hm11.1.cells (g := gM) rfl j z hz) (tcs_one xs) (by omega) (by unfold maxLen; omega) (by omega) h10.size _ rfl ?_
        intro g11 p11 C11 ow11 gr11 at11 lx11
        simp only [Nat.zero_add, List.nil_append] at ow11
        refine hK _ _ ?_
        clear hK K
        (try simp only [Act.put, List.getElem_toArray, List.getElem_cons_succ, List.getElem_cons_zero, List.setIfInBounds_toArray, List.set_cons_zero, List.set_cons_succ])
        simp only [Nat.zero_add]
        have h11 : Below w3.heap.size w3 C11 := h10.grown gr11 h10.size (fun k hk => (own10.lt k hk).1)
        have blk11 : C11.heap[C1.heap.size]? = some (.cells #[.int .i64 t0, .bool b0] 25 (0, 0)) := (gr11.block _ lt10 (fun e => sep10 _ e.symm rfl)).trans blk10
        have lt11 : C1.heap.size < C11.heap.size := Nat.lt_of_lt_of_le lt10 gr11.size
        refine wpAny_ready (rs := [17]) (by kernel_rfl) (by simp) ?_
        refine AllReady.cons rfl (fun K hK => ?_) AllReady.nil
        refine if_yesP (by first | rfl | (go_simp; done) | simp [Region.wanted, yielded]) ?_
        refine wp_append_lies _ _ _ _ (by rfl) w3.heap.size 25 i0 (.agg #[.int .i64 0, .bool false]) 2 16 Try.underlying23 hi hq0 hq1 hq2 rfl (by omega) (.slice (some ⟨g11, 0, none⟩) xs.length p11) xs.length (tcs xs) (by rfl) ow11 ⟨C1.heap.size, 0, none⟩ 1 1 [.int .i64 t0, .bool b0] (by rfl) (by rfl) (World.news_of_block (cs := #[.int .i64 t0, .bool b0]) (t := 25) (fr := (0, 0)) blk11) news2_one (by omega) (by unfold maxLen; omega) (by omega) h11.size _ rfl ?_
        intro g12 p12 C12 ow12 gr12 at12 lx12
        refine hK _ _ ?_
        clear hK K
        (try simp only [Act.put, List.getElem_toArray, List.getElem_cons_succ, List.getElem_cons_zero, List.setIfInBounds_toArray, List.set_cons_zero, List.set_cons_succ])
        have h12 : Below w3.heap.size w3 C12 := h11.grown gr12 h11.size (fun k hk => (ow11.lt k hk).1)
        have hX : LV C12 (.slice (some ⟨g12, 0, none⟩) (xs.length + 1) p12) (xs ++ [(t0, b0)]) := ⟨_, _, trow_ofP (by rw [tcs_app]; exact ow12) (by simp)⟩
        refine wpAny_ready (rs := [18]) (by kernel_rfl) (by simp) ?_
        refine AllReady.cons rfl (fun K hK => ?_) AllReady.nil
        go_simp
        go_wp2_with (fail)
        (go_at_call 36; refine (KM.out _ C12 (bl_step hb13 h12) hX).mono ?_; rintro e w5 ⟨rfl, hb5⟩)
        have hbx : Below w3.heap.size w3 w5 := bl_step h12 hb5
        (try (refine hK _ _ ?_))
        (try clear hK K)
        (try simp only [Act.put, List.getElem_toArray, List.getElem_cons_succ, List.getElem_cons_zero, List.setIfInBounds_toArray, List.set_cons_zero, List.set_cons_succ])
        first | (refine wpAny_take (i := 19) (v := ?_) rfl (by kernel_rfl) (by kernel_rfl) (by kernel_rfl) (fun _ _ _ h => h) (Or.inl ⟨by rfl, ?_⟩) ?_; rotate_left; (focus (intro wz; go_simp; done)); (try simp only [Act.put, List.getElem_toArray, List.getElem_cons_succ, List.getElem_cons_zero, List.setIfInBounds_toArray, List.set_cons_zero, List.set_cons_succ])) | (refine wpAny_take (i := 19) (v := ?_) rfl (by kernel_rfl) (by kernel_rfl) (by kernel_rfl) (fun _ _ _ h => h) (Or.inl ⟨by rfl, ?_⟩) ?_; rotate_left; (focus (intro wz; go_simp; with_reducible rfl)); (try simp only [Act.put, List.getElem_toArray, List.getElem_cons_succ, List.getElem_cons_zero, List.setIfInBounds_toArray, List.set_cons_zero, List.set_cons_succ])) | (refine wpAny_take (i := 19) (v := undef) rfl (by kernel_rfl) (by kernel_rfl) (by kernel_rfl) (fun _ _ _ h => h) (Or.inr ⟨by rfl, rfl⟩) ?_; (try simp only [Act.put, List.getElem_toArray, List.getElem_cons_succ, List.getElem_cons_zero, List.setIfInBounds_toArray, List.set_cons_zero, List.set_cons_succ])) | fail "op 19"
        first | (refine wpAny_take (i := 20) (v := ?_) rfl (by kernel_rfl) (by kernel_rfl) (by kernel_rfl) (fun _ _ _ h => h) (Or.inl ⟨by rfl, ?_⟩) ?_; rotate_left; (focus (intro wz; go_simp; done)); (try simp only [Act.put, List.getElem_toArray, List.getElem_cons_succ, List.getElem_cons_zero, List.setIfInBounds_toArray, List.set_cons_zero, List.set_cons_succ])) | (refine wpAny_take (i := 20) (v := ?_) rfl (by kernel_rfl) (by kernel_rfl) (by kernel_rfl) (fun _ _ _ h => h) (Or.inl ⟨by rfl, ?_⟩) ?_; rotate_left; (focus (intro wz; go_simp; with_reducible rfl)); (try simp only [Act.put, List.getElem_toArray, List.getElem_cons_succ, List.getElem_cons_zero, List.setIfInBounds_toArray, List.set_cons_zero, List.set_cons_succ])) | (refine wpAny_take (i := 20) (v := undef) rfl (by kernel_rfl) (by kernel_rfl) (by kernel_rfl) (fun _ _ _ h => h) (Or.inr ⟨by rfl, rfl⟩) ?_; (try simp only [Act.put, List.getElem_toArray, List.getElem_cons_succ, List.getElem_cons_zero, List.setIfInBounds_toArray, List.set_cons_zero, List.set_cons_succ])) | fail "op 20"
        refine wpAny_done (by kernel_rfl) ?_ _
        obtain ⟨W, hW⟩ : ∃ W, W = w5 := ⟨_, rfl⟩
        have hbW : Below w1.heap.size w1 W := by rw [hW]; exact bl_step hb13 hbx
        rw [← hW]
        clear hW hb5 hbx
        have c0 := (hbW.cell (p := ⟨A, off + j * 5, none⟩) hA).trans HC0.out
        have c1 := (hbW.cell (p := ⟨A, off + j * 5 + 1, none⟩) hA).trans HC1.out
        have c2 := (hbW.cell (p := ⟨A, off + j * 5 + 2, none⟩) hA).trans HC2.out
        have c3 := (hbW.cell (p := ⟨A, off + j * 5 + 3, none⟩) hA).trans HC3.out
        have c4 := (hbW.cell (p := ⟨A, off + j * 5 + 4, none⟩) hA).trans HC4.out
        go_wp2_with (fail)
        (go_at_call 15; refine (KG.out _ hbW).mono ?_; rintro e w6 ⟨vm, rfl, hvm, hb6⟩)
        have hbW6 := bl_step hbW hb6
        have hvl : LV w6 vm (psL p s) := ⟨_, _, hvm⟩
        obtain ⟨va, vc, rfl, _, _⟩ := hvl.sl
        clear c0 c1 c2 c3 c4 hvm hb6
        cases hf : pfit p s with
        | false =>
          clear hvl
          go_wp2
          go_ret
          exact ⟨by first | rfl | (simp; done) | (rw [hrl]; simp; done) | simp [hrl], bl_step HB1.out hbW6⟩
        | true =>
          have hown := pR_own (xs := xs) (p := p) (by rw [HR.out]; omega) (List.mem_of_getElem? hp) hf (psL_mv hf)
          have KX := Lib.hid (KY.out _ _ w6 hbW6 hvl)
          obtain ⟨y, hy⟩ : ∃ y, pR ps s (psL p s) = y := ⟨_, rfl⟩
          rw [hy] at KX hown
          have hy1 : decide (1 ≤ y) = true := decide_eq_true hown
          clear hvl
          go_wp2_with (fail)
          (go_at_call 36; refine (KX.out).mono ?_; rintro e w7 ⟨rfl, hb7⟩)
          go_wp2
          go_ret
          exact ⟨by first | rfl | (simp; done) | (rw [hrl]; simp; done) | simp [hrl], bl_step HB1.out (bl_step hbW6 hb7)⟩
  · have lc0 : C0.cell? ⟨gM, 0, none⟩ = some (.int .i64 t0) := (h0.cell (p := ⟨gM, 0, none⟩) gM3).trans m0
    have lc1 : C0.cell? ⟨gM, 1, none⟩ = some (.bool b0) := (h0.cell (p := ⟨gM, 1, none⟩) gM3).trans m1
    go_simp
    refine hK _ _ ?_
    clear hK K
    (try simp only [Act.put, List.getElem_toArray, List.getElem_cons_succ, List.getElem_cons_zero, List.setIfInBounds_toArray, List.set_cons_zero, List.set_cons_succ])
    clear lc0 lc1
    refine wpAny_ready (rs := [10, 16]) (by kernel_rfl) (by simp) ?_
    refine AllReady.cons rfl (fun K hK => ?_) (AllReady.cons rfl (fun K hK => ?_) AllReady.nil)
    · go_simp
      refine hK _ _ ?_
      clear hK K
      (try simp only [Act.put, List.getElem_toArray, List.getElem_cons_succ, List.getElem_cons_zero, List.setIfInBounds_toArray, List.set_cons_zero, List.set_cons_succ])
      obtain ⟨C14, eC14⟩ : ∃ C14, C14 = C0.alloc (.cells #[] 25) := ⟨_, rfl⟩
      have h14 : Below w3.heap.size w3 C14 := by rw [eC14]; exact h0.alloc h0.size _
      have own14 : C14.ownsRow w3.heap.size 25 2 (.slice (some ⟨C0.heap.size, 0, none⟩) 0 0) 0 [] := by rw [eC14]; exact ⟨rfl, .inr ⟨C0.heap.size, 0, #[], rfl, h0.size, heap_alloc_new C0 _, by simp, by simp [maxLen], by simp, by simp⟩⟩
      rw [← eC14]
      clear eC14
      refine wpAny_ready (rs := [12, 16]) (by kernel_rfl) (by simp) ?_
      refine AllReady.cons rfl (fun K hK => ?_) (AllReady.cons rfl (fun K hK => ?_) AllReady.nil)
      · have hm15 := HMR.out.below h14 (.inr (Nat.le_refl _))
        refine if_yesP (by first | rfl | (go_simp; done) | simp [Region.wanted, yielded]) ?_
        refine wp_append_lies _ _ _ _ (by rfl) w3.heap.size 25 i0 (.agg #[.int .i64 0, .bool false]) 2 16 Try.underlying23 hi hq0 hq1 hq2 rfl (by omega) (.slice (some ⟨C0.heap.size, 0, none⟩) 0 0) 0 [] (by rfl) own14 ⟨gM, 0, none⟩ xs.length uc (tcs xs) (by rfl) (tcs_len xs) (fun j z hz => hm15.1.cells (g := gM) rfl j z hz) (tcs_one xs) (by omega) (by unfold maxLen; omega) (by omega) h14.size _ rfl ?_
        intro g15 p15 C15 ow15 gr15 at15 lx15
        simp only [Nat.zero_add, List.nil_append] at ow15
        refine hK _ _ ?_
        clear hK K
        (try simp only [Act.put, List.getElem_toArray, List.getElem_cons_succ, List.getElem_cons_zero, List.setIfInBounds_toArray, List.set_cons_zero, List.set_cons_succ])
        simp only [Nat.zero_add]
        have h15 : Below w3.heap.size w3 C15 := h14.grown gr15 h14.size (fun k hk => (own14.lt k hk).1)
        refine wpAny_ready (rs := [16]) (by kernel_rfl) (by simp) ?_
        refine AllReady.cons rfl (fun K hK => ?_) AllReady.nil
        go_simp
        refine hK _ _ ?_
        clear hK K
        (try simp only [Act.put, List.getElem_toArray, List.getElem_cons_succ, List.getElem_cons_zero, List.setIfInBounds_toArray, List.set_cons_zero, List.set_cons_succ])
        obtain ⟨C16, eC16⟩ : ∃ C16, C16 = C15.alloc (.cells #[.int .i64 t0, .bool b0] 25) := ⟨_, rfl⟩
        have h16 : Below w3.heap.size w3 C16 := by rw [eC16]; exact h15.alloc h15.size _
        have blk16 : C16.heap[C15.heap.size]? = some (.cells #[.int .i64 t0, .bool b0] 25 (0, 0)) := by rw [eC16]; exact heap_alloc_new C15 _
        have lt16 : C15.heap.size < C16.heap.size := by rw [eC16]; simp
        have sep16 : ∀ g, Value.ownBlock (.slice (some ⟨g15, 0, none⟩) xs.length p15) = some g → g ≠ C15.heap.size := fun g hg => by have := (ow15.lt g hg).2; omega
        have own16 : C16.ownsRow w3.heap.size 25 2 (.slice (some ⟨g15, 0, none⟩) xs.length p15) xs.length (tcs xs) := by rw [eC16]; exact ow15.alloc _
        rw [← eC16]
        clear eC16
        refine wpAny_ready (rs := [17]) (by kernel_rfl) (by simp) ?_
        refine AllReady.cons rfl (fun K hK => ?_) AllReady.nil
        refine if_yesP (by first | rfl | (go_simp; done) | simp [Region.wanted, yielded]) ?_
        refine wp_append_lies _ _ _ _ (by rfl) w3.heap.size 25 i0 (.agg #[.int .i64 0, .bool false]) 2 16 Try.underlying23 hi hq0 hq1 hq2 rfl (by omega) (.slice (some ⟨g15, 0, none⟩) xs.length p15) xs.length (tcs xs) (by rfl) own16 ⟨C15.heap.size, 0, none⟩ 1 1 [.int .i64 t0, .bool b0] (by rfl) (by rfl) (World.news_of_block (cs := #[.int .i64 t0, .bool b0]) (t := 25) (fr := (0, 0)) blk16) news2_one (by omega) (by unfold maxLen; omega) (by omega) h16.size _ rfl ?_
        intro g17 p17 C17 ow17 gr17 at17 lx17
        refine hK _ _ ?_
        clear hK K
        (try simp only [Act.put, List.getElem_toArray, List.getElem_cons_succ, List.getElem_cons_zero, List.setIfInBounds_toArray, List.set_cons_zero, List.set_cons_succ])
        have h17 : Below w3.heap.size w3 C17 := h16.grown gr17 h16.size (fun k hk => (own16.lt k hk).1)
        have hX : LV C17 (.slice (some ⟨g17, 0, none⟩) (xs.length + 1) p17) (xs ++ [(t0, b0)]) := ⟨_, _, trow_ofP (by rw [tcs_app]; exact ow17) (by simp)⟩
        refine wpAny_ready (rs := [18]) (by kernel_rfl) (by simp) ?_
        refine AllReady.cons rfl (fun K hK => ?_) AllReady.nil
        go_simp
        go_wp2_with (fail)
        (go_at_call 36; refine (KM.out _ C17 (bl_step hb13 h17) hX).mono ?_; rintro e w5 ⟨rfl, hb5⟩)
        have hbx : Below w3.heap.size w3 w5 := bl_step h17 hb5
        (try (refine hK _ _ ?_))
        (try clear hK K)
        (try simp only [Act.put, List.getElem_toArray, List.getElem_cons_succ, List.getElem_cons_zero, List.setIfInBounds_toArray, List.set_cons_zero, List.set_cons_succ])
        first | (refine wpAny_take (i := 19) (v := ?_) rfl (by kernel_rfl) (by kernel_rfl) (by kernel_rfl) (fun _ _ _ h => h) (Or.inl ⟨by rfl, ?_⟩) ?_; rotate_left; (focus (intro wz; go_simp; done)); (try simp only [Act.put, List.getElem_toArray, List.getElem_cons_succ, List.getElem_cons_zero, List.setIfInBounds_toArray, List.set_cons_zero, List.set_cons_succ])) | (refine wpAny_take (i := 19) (v := ?_) rfl (by kernel_rfl) (by kernel_rfl) (by kernel_rfl) (fun _ _ _ h => h) (Or.inl ⟨by rfl, ?_⟩) ?_; rotate_left; (focus (intro wz; go_simp; with_reducible rfl)); (try simp only [Act.put, List.getElem_toArray, List.getElem_cons_succ, List.getElem_cons_zero, List.setIfInBounds_toArray, List.set_cons_zero, List.set_cons_succ])) | (refine wpAny_take (i := 19) (v := undef) rfl (by kernel_rfl) (by kernel_rfl) (by kernel_rfl) (fun _ _ _ h => h) (Or.inr ⟨by rfl, rfl⟩) ?_; (try simp only [Act.put, List.getElem_toArray, List.getElem_cons_succ, List.getElem_cons_zero, List.setIfInBounds_toArray, List.set_cons_zero, List.set_cons_succ])) | fail "op 19"
        first | (refine wpAny_take (i := 20) (v := ?_) rfl (by kernel_rfl) (by kernel_rfl) (by kernel_rfl) (fun _ _ _ h => h) (Or.inl ⟨by rfl, ?_⟩) ?_; rotate_left; (focus (intro wz; go_simp; done)); (try simp only [Act.put, List.getElem_toArray, List.getElem_cons_succ, List.getElem_cons_zero, List.setIfInBounds_toArray, List.set_cons_zero, List.set_cons_succ])) | (refine wpAny_take (i := 20) (v := ?_) rfl (by kernel_rfl) (by kernel_rfl) (by kernel_rfl) (fun _ _ _ h => h) (Or.inl ⟨by rfl, ?_⟩) ?_; rotate_left; (focus (intro wz; go_simp; with_reducible rfl)); (try simp only [Act.put, List.getElem_toArray, List.getElem_cons_succ, List.getElem_cons_zero, List.setIfInBounds_toArray, List.set_cons_zero, List.set_cons_succ])) | (refine wpAny_take (i := 20) (v := undef) rfl (by kernel_rfl) (by kernel_rfl) (by kernel_rfl) (fun _ _ _ h => h) (Or.inr ⟨by rfl, rfl⟩) ?_; (try simp only [Act.put, List.getElem_toArray, List.getElem_cons_succ, List.getElem_cons_zero, List.setIfInBounds_toArray, List.set_cons_zero, List.set_cons_succ])) | fail "op 20"
        refine wpAny_done (by kernel_rfl) ?_ _
        obtain ⟨W, hW⟩ : ∃ W, W = w5 := ⟨_, rfl⟩
        have hbW : Below w1.heap.size w1 W := by rw [hW]; exact bl_step hb13 hbx
        rw [← hW]
        clear hW hb5 hbx
        have c0 := (hbW.cell (p := ⟨A, off + j * 5, none⟩) hA).trans HC0.out
        have c1 := (hbW.cell (p := ⟨A, off + j * 5 + 1, none⟩) hA).trans HC1.out
        have c2 := (hbW.cell (p := ⟨A, off + j * 5 + 2, none⟩) hA).trans HC2.out
        have c3 := (hbW.cell (p := ⟨A, off + j * 5 + 3, none⟩) hA).trans HC3.out
        have c4 := (hbW.cell (p := ⟨A, off + j * 5 + 4, none⟩) hA).trans HC4.out
        go_wp2_with (fail)
        (go_at_call 15; refine (KG.out _ hbW).mono ?_; rintro e w6 ⟨vm, rfl, hvm, hb6⟩)
        have hbW6 := bl_step hbW hb6
        have hvl : LV w6 vm (psL p s) := ⟨_, _, hvm⟩
        obtain ⟨va, vc, rfl, _, _⟩ := hvl.sl
        clear c0 c1 c2 c3 c4 hvm hb6
        cases hf : pfit p s with
        | false =>
          clear hvl
          go_wp2
          go_ret
          exact ⟨by first | rfl | (simp; done) | (rw [hrl]; simp; done) | simp [hrl], bl_step HB1.out hbW6⟩
        | true =>
          have hown := pR_own (xs := xs) (p := p) (by rw [HR.out]; omega) (List.mem_of_getElem? hp) hf (psL_mv hf)
          have KX := Lib.hid (KY.out _ _ w6 hbW6 hvl)
          obtain ⟨y, hy⟩ : ∃ y, pR ps s (psL p s) = y := ⟨_, rfl⟩
          rw [hy] at KX hown
          have hy1 : decide (1 ≤ y) = true := decide_eq_true hown
          clear hvl
          go_wp2_with (fail)
          (go_at_call 36; refine (KX.out).mono ?_; rintro e w7 ⟨rfl, hb7⟩)
          go_wp2
          go_ret
          exact ⟨by first | rfl | (simp; done) | (rw [hrl]; simp; done) | simp [hrl], bl_step HB1.out (bl_step hbW6 hb7)⟩
      · go_simp
        refine hK _ _ ?_
        clear hK K
        (try simp only [Act.put, List.getElem_toArray, List.getElem_cons_succ, List.getElem_cons_zero, List.setIfInBounds_toArray, List.set_cons_zero, List.set_cons_succ])
        obtain ⟨C18, eC18⟩ : ∃ C18, C18 = C14.alloc (.cells #[.int .i64 t0, .bool b0] 25) := ⟨_, rfl⟩
        have h18 : Below w3.heap.size w3 C18 := by rw [eC18]; exact h14.alloc h14.size _
        have blk18 : C18.heap[C14.heap.size]? = some (.cells #[.int .i64 t0, .bool b0] 25 (0, 0)) := by rw [eC18]; exact heap_alloc_new C14 _
        have lt18 : C14.heap.size < C18.heap.size := by rw [eC18]; simp
        have sep18 : ∀ g, Value.ownBlock (.slice (some ⟨C0.heap.size, 0, none⟩) 0 0) = some g → g ≠ C14.heap.size := fun g hg => by have := (own14.lt g hg).2; omega
        have own18 : C18.ownsRow w3.heap.size 25 2 (.slice (some ⟨C0.heap.size, 0, none⟩) 0 0) 0 [] := by rw [eC18]; exact own14.alloc _
        rw [← eC18]
        clear eC18
        refine wpAny_ready (rs := [12]) (by kernel_rfl) (by simp) ?_
        refine AllReady.cons rfl (fun K hK => ?_) AllReady.nil
        have hm19 := HMR.out.below h18 (.inr (Nat.le_refl _))
        refine if_yesP (by first | rfl | (go_simp; done) | simp [Region.wanted, yielded]) ?_
        refine wp_append_lies _ _ _ _ (by rfl) w3.heap.size 25 i0 (.agg #[.int .i64 0, .bool false]) 2 16 Try.underlying23 hi hq0 hq1 hq2 rfl (by omega) (.slice (some ⟨C0.heap.size, 0, none⟩) 0 0) 0 [] (by rfl) own18 ⟨gM, 0, none⟩ xs.length uc (tcs xs) (by rfl) (tcs_len xs) (fun j z hz => hm19.1.cells (g := gM) rfl j z hz) (tcs_one xs) (by omega) (by unfold maxLen; omega) (by omega) h18.size _ rfl ?_
        intro g19 p19 C19 ow19 gr19 at19 lx19
        simp only [Nat.zero_add, List.nil_append] at ow19
        refine hK _ _ ?_
        clear hK K
        (try simp only [Act.put, List.getElem_toArray, List.getElem_cons_succ, List.getElem_cons_zero, List.setIfInBounds_toArray, List.set_cons_zero, List.set_cons_succ])
        simp only [Nat.zero_add]
        have h19 : Below w3.heap.size w3 C19 := h18.grown gr19 h18.size (fun k hk => (own18.lt k hk).1)
        have blk19 : C19.heap[C14.heap.size]? = some (.cells #[.int .i64 t0, .bool b0] 25 (0, 0)) := (gr19.block _ lt18 (fun e => sep18 _ e.symm rfl)).trans blk18
        have lt19 : C14.heap.size < C19.heap.size := Nat.lt_of_lt_of_le lt18 gr19.size
        refine wpAny_ready (rs := [17]) (by kernel_rfl) (by simp) ?_
        refine AllReady.cons rfl (fun K hK => ?_) AllReady.nil
        refine if_yesP (by first | rfl | (go_simp; done) | simp [Region.wanted, yielded]) ?_
        refine wp_append_lies _ _ _ _ (by rfl) w3.heap.size 25 i0 (.agg #[.int .i64 0, .bool false]) 2 16 Try.underlying23 hi hq0 hq1 hq2 rfl (by omega) (.slice (some ⟨g19, 0, none⟩) xs.length p19) xs.length (tcs xs) (by rfl) ow19 ⟨C14.heap.size, 0, none⟩ 1 1 [.int .i64 t0, .bool b0] (by rfl) (by rfl) (World.news_of_block (cs := #[.int .i64 t0, .bool b0]) (t := 25) (fr := (0, 0)) blk19) news2_one (by omega) (by unfold maxLen; omega) (by omega) h19.size _ rfl ?_
        intro g20 p20 C20 ow20 gr20 at20 lx20
        refine hK _ _ ?_
        clear hK K
        (try simp only [Act.put, List.getElem_toArray, List.getElem_cons_succ, List.getElem_cons_zero, List.setIfInBounds_toArray, List.set_cons_zero, List.set_cons_succ])
        have h20 : Below w3.heap.size w3 C20 := h19.grown gr20 h19.size (fun k hk => (ow19.lt k hk).1)
        have hX : LV C20 (.slice (some ⟨g20, 0, none⟩) (xs.length + 1) p20) (xs ++ [(t0, b0)]) := ⟨_, _, trow_ofP (by rw [tcs_app]; exact ow20) (by simp)⟩
        refine wpAny_ready (rs := [18]) (by kernel_rfl) (by simp) ?_
        refine AllReady.cons rfl (fun K hK => ?_) AllReady.nil
        go_simp
        go_wp2_with (fail)
        (go_at_call 36; refine (KM.out _ C20 (bl_step hb13 h20) hX).mono ?_; rintro e w5 ⟨rfl, hb5⟩)
        have hbx : Below w3.heap.size w3 w5 := bl_step h20 hb5
        (try (refine hK _ _ ?_))
        (try clear hK K)
        (try simp only [Act.put, List.getElem_toArray, List.getElem_cons_succ, List.getElem_cons_zero, List.setIfInBounds_toArray, List.set_cons_zero, List.set_cons_succ])
        first | (refine wpAny_take (i := 19) (v := ?_) rfl (by kernel_rfl) (by kernel_rfl) (by kernel_rfl) (fun _ _ _ h => h) (Or.inl ⟨by rfl, ?_⟩) ?_; rotate_left; (focus (intro wz; go_simp; done)); (try simp only [Act.put, List.getElem_toArray, List.getElem_cons_succ, List.getElem_cons_zero, List.setIfInBounds_toArray, List.set_cons_zero, List.set_cons_succ])) | (refine wpAny_take (i := 19) (v := ?_) rfl (by kernel_rfl) (by kernel_rfl) (by kernel_rfl) (fun _ _ _ h => h) (Or.inl ⟨by rfl, ?_⟩) ?_; rotate_left; (focus (intro wz; go_simp; with_reducible rfl)); (try simp only [Act.put, List.getElem_toArray, List.getElem_cons_succ, List.getElem_cons_zero, List.setIfInBounds_toArray, List.set_cons_zero, List.set_cons_succ])) | (refine wpAny_take (i := 19) (v := undef) rfl (by kernel_rfl) (by kernel_rfl) (by kernel_rfl) (fun _ _ _ h => h) (Or.inr ⟨by rfl, rfl⟩) ?_; (try simp only [Act.put, List.getElem_toArray, List.getElem_cons_succ, List.getElem_cons_zero, List.setIfInBounds_toArray, List.set_cons_zero, List.set_cons_succ])) | fail "op 19"
        first | (refine wpAny_take (i := 20) (v := ?_) rfl (by kernel_rfl) (by kernel_rfl) (by kernel_rfl) (fun _ _ _ h => h) (Or.inl ⟨by rfl, ?_⟩) ?_; rotate_left; (focus (intro wz; go_simp; done)); (try simp only [Act.put, List.getElem_toArray, List.getElem_cons_succ, List.getElem_cons_zero, List.setIfInBounds_toArray, List.set_cons_zero, List.set_cons_succ])) | (refine wpAny_take (i := 20) (v := ?_) rfl (by kernel_rfl) (by kernel_rfl) (by kernel_rfl) (fun _ _ _ h => h) (Or.inl ⟨by rfl, ?_⟩) ?_; rotate_left; (focus (intro wz; go_simp; with_reducible rfl)); (try simp only [Act.put, List.getElem_toArray, List.getElem_cons_succ, List.getElem_cons_zero, List.setIfInBounds_toArray, List.set_cons_zero, List.set_cons_succ])) | (refine wpAny_take (i := 20) (v := undef) rfl (by kernel_rfl) (by kernel_rfl) (by kernel_rfl) (fun _ _ _ h => h) (Or.inr ⟨by rfl, rfl⟩) ?_; (try simp only [Act.put, List.getElem_toArray, List.getElem_cons_succ, List.getElem_cons_zero, List.setIfInBounds_toArray, List.set_cons_zero, List.set_cons_succ])) | fail "op 20"
        refine wpAny_done (by kernel_rfl) ?_ _
        obtain ⟨W, hW⟩ : ∃ W, W = w5 := ⟨_, rfl⟩
        have hbW : Below w1.heap.size w1 W := by rw [hW]; exact bl_step hb13 hbx
        rw [← hW]
        clear hW hb5 hbx
        have c0 := (hbW.cell (p := ⟨A, off + j * 5, none⟩) hA).trans HC0.out
        have c1 := (hbW.cell (p := ⟨A, off + j * 5 + 1, none⟩) hA).trans HC1.out
        have c2 := (hbW.cell (p := ⟨A, off + j * 5 + 2, none⟩) hA).trans HC2.out
        have c3 := (hbW.cell (p := ⟨A, off + j * 5 + 3, none⟩) hA).trans HC3.out
        have c4 := (hbW.cell (p := ⟨A, off + j * 5 + 4, none⟩) hA).trans HC4.out
        go_wp2_with (fail)
        (go_at_call 15; refine (KG.out _ hbW).mono ?_; rintro e w6 ⟨vm, rfl, hvm, hb6⟩)
        have hbW6 := bl_step hbW hb6
        have hvl : LV w6 vm (psL p s) := ⟨_, _, hvm⟩
        obtain ⟨va, vc, rfl, _, _⟩ := hvl.sl
        clear c0 c1 c2 c3 c4 hvm hb6
        cases hf : pfit p s with
        | false =>
          clear hvl
          go_wp2
          go_ret
          exact ⟨by first | rfl | (simp; done) | (rw [hrl]; simp; done) | simp [hrl], bl_step HB1.out hbW6⟩
        | true =>
          have hown := pR_own (xs := xs) (p := p) (by rw [HR.out]; omega) (List.mem_of_getElem? hp) hf (psL_mv hf)
          have KX := Lib.hid (KY.out _ _ w6 hbW6 hvl)
          obtain ⟨y, hy⟩ : ∃ y, pR ps s (psL p s) = y := ⟨_, rfl⟩
          rw [hy] at KX hown
          have hy1 : decide (1 ≤ y) = true := decide_eq_true hown
          clear hvl
          go_wp2_with (fail)
          (go_at_call 36; refine (KX.out).mono ?_; rintro e w7 ⟨rfl, hb7⟩)
          go_wp2
          go_ret
          exact ⟨by first | rfl | (simp; done) | (rw [hrl]; simp; done) | simp [hrl], bl_step HB1.out (bl_step hbW6 hb7)⟩
    · go_simp
      refine hK _ _ ?_
      clear hK K
      (try simp only [Act.put, List.getElem_toArray, List.getElem_cons_succ, List.getElem_cons_zero, List.setIfInBounds_toArray, List.set_cons_zero, List.set_cons_succ])
      obtain ⟨C21, eC21⟩ : ∃ C21, C21 = C0.alloc (.cells #[.int .i64 t0, .bool b0] 25) := ⟨_, rfl⟩
      have h21 : Below w3.heap.size w3 C21 := by rw [eC21]; exact h0.alloc h0.size _
      have blk21 : C21.heap[C0.heap.size]? = some (.cells #[.int .i64 t0, .bool b0] 25 (0, 0)) := by rw [eC21]; exact heap_alloc_new C0 _
      have lt21 : C0.heap.size < C21.heap.size := by rw [eC21]; simp
      rw [← eC21]
      clear eC21
      refine wpAny_ready (rs := [10]) (by kernel_rfl) (by simp) ?_
      refine AllReady.cons rfl (fun K hK => ?_) AllReady.nil
      go_simp
      refine hK _ _ ?_
      clear hK K
      (try simp only [Act.put, List.getElem_toArray, List.getElem_cons_succ, List.getElem_cons_zero, List.setIfInBounds_toArray, List.set_cons_zero, List.set_cons_succ])
      obtain ⟨C22, eC22⟩ : ∃ C22, C22 = C21.alloc (.cells #[] 25) := ⟨_, rfl⟩
      have h22 : Below w3.heap.size w3 C22 := by rw [eC22]; exact h21.alloc h21.size _
      have own22 : C22.ownsRow w3.heap.size 25 2 (.slice (some ⟨C21.heap.size, 0, none⟩) 0 0) 0 [] := by rw [eC22]; exact ⟨rfl, .inr ⟨C21.heap.size, 0, #[], rfl, h21.size, heap_alloc_new C21 _, by simp, by simp [maxLen], by simp, by simp⟩⟩
      have blk22 : C22.heap[C0.heap.size]? = some (.cells #[.int .i64 t0, .bool b0] 25 (0, 0)) := by rw [eC22]; exact (((Below.refl _ _).alloc (Nat.le_refl _) _).block _ lt21).trans blk21
      have lt22 : C0.heap.size < C22.heap.size := by rw [eC22]; simp; omega
      have sep22 : ∀ g, Value.ownBlock (.slice (some ⟨C21.heap.size, 0, none⟩) 0 0) = some g → g ≠ C0.heap.size := fun g hg => Nat.ne_of_gt (Nat.lt_of_lt_of_le lt21 (Nat.le_of_eq (by simpa [Value.ownBlock] using hg)))
      rw [← eC22]
      clear eC22
      refine wpAny_ready (rs := [12]) (by kernel_rfl) (by simp) ?_
      refine AllReady.cons rfl (fun K hK => ?_) AllReady.nil
      have hm23 := HMR.out.below h22 (.inr (Nat.le_refl _))
      refine if_yesP (by first | rfl | (go_simp; done) | simp [Region.wanted, yielded]) ?_
      refine wp_append_lies _ _ _ _ (by rfl) w3.heap.size 25 i0 (.agg #[.int .i64 0, .bool false]) 2 16 Try.underlying23 hi hq0 hq1 hq2 rfl (by omega) (.slice (some ⟨C21.heap.size, 0, none⟩) 0 0) 0 [] (by rfl) own22 ⟨gM, 0, none⟩ xs.length uc (tcs xs) (by rfl) (tcs_len xs) (fun j z hz => hm23.1.cells (g := gM) rfl j z hz) (tcs_one xs) (by omega) (by unfold maxLen; omega) (by omega) h22.size _ rfl ?_
      intro g23 p23 C23 ow23 gr23 at23 lx23
      simp only [Nat.zero_add, List.nil_append] at ow23
      refine hK _ _ ?_
      clear hK K
      (try simp only [Act.put, List.getElem_toArray, List.getElem_cons_succ, List.getElem_cons_zero, List.setIfInBounds_toArray, List.set_cons_zero, List.set_cons_succ])
      simp only [Nat.zero_add]
      have h23 : Below w3.heap.size w3 C23 := h22.grown gr23 h22.size (fun k hk => (own22.lt k hk).1)
      have blk23 : C23.heap[C0.heap.size]? = some (.cells #[.int .i64 t0, .bool b0] 25 (0, 0)) := (gr23.block _ lt22 (fun e => sep22 _ e.symm rfl)).trans blk22
      have lt23 : C0.heap.size < C23.heap.size := Nat.lt_of_lt_of_le lt22 gr23.size
      refine wpAny_ready (rs := [17]) (by kernel_rfl) (by simp) ?_
      refine AllReady.cons rfl (fun K hK => ?_) AllReady.nil
      refine if_yesP (by first | rfl | (go_simp; done) | simp [Region.wanted, yielded]) ?_
      refine wp_append_lies _ _ _ _ (by rfl) w3.heap.size 25 i0 (.agg #[.int .i64 0, .bool false]) 2 16 Try.underlying23 hi hq0 hq1 hq2 rfl (by omega) (.slice (some ⟨g23, 0, none⟩) xs.length p23) xs.length (tcs xs) (by rfl) ow23 ⟨C0.heap.size, 0, none⟩ 1 1 [.int .i64 t0, .bool b0] (by rfl) (by rfl) (World.news_of_block (cs := #[.int .i64 t0, .bool b0]) (t := 25) (fr := (0, 0)) blk23) news2_one (by omega) (by unfold maxLen; omega) (by omega) h23.size _ rfl ?_
      intro g24 p24 C24 ow24 gr24 at24 lx24
      refine hK _ _ ?_
      clear hK K
      (try simp only [Act.put, List.getElem_toArray, List.getElem_cons_succ, List.getElem_cons_zero, List.setIfInBounds_toArray, List.set_cons_zero, List.set_cons_succ])
      have h24 : Below w3.heap.size w3 C24 := h23.grown gr24 h23.size (fun k hk => (ow23.lt k hk).1)
      have hX : LV C24 (.slice (some ⟨g24, 0, none⟩) (xs.length + 1) p24) (xs ++ [(t0, b0)]) := ⟨_, _, trow_ofP (by rw [tcs_app]; exact ow24) (by simp)⟩
      refine wpAny_ready (rs := [18]) (by kernel_rfl) (by simp) ?_
      refine AllReady.cons rfl (fun K hK => ?_) AllReady.nil
      go_simp
      go_wp2_with (fail)
      (go_at_call 36; refine (KM.out _ C24 (bl_step hb13 h24) hX).mono ?_; rintro e w5 ⟨rfl, hb5⟩)
      have hbx : Below w3.heap.size w3 w5 := bl_step h24 hb5
      (try (refine hK _ _ ?_))
      (try clear hK K)
      (try simp only [Act.put, List.getElem_toArray, List.getElem_cons_succ, List.getElem_cons_zero, List.setIfInBounds_toArray, List.set_cons_zero, List.set_cons_succ])
      first | (refine wpAny_take (i := 19) (v := ?_) rfl (by kernel_rfl) (by kernel_rfl) (by kernel_rfl) (fun _ _ _ h => h) (Or.inl ⟨by rfl, ?_⟩) ?_; rotate_left; (focus (intro wz; go_simp; done)); (try simp only [Act.put, List.getElem_toArray, List.getElem_cons_succ, List.getElem_cons_zero, List.setIfInBounds_toArray, List.set_cons_zero, List.set_cons_succ])) | (refine wpAny_take (i := 19) (v := ?_) rfl (by kernel_rfl) (by kernel_rfl) (by kernel_rfl) (fun _ _ _ h => h) (Or.inl ⟨by rfl, ?_⟩) ?_; rotate_left; (focus (intro wz; go_simp; with_reducible rfl)); (try simp only [Act.put, List.getElem_toArray, List.getElem_cons_succ, List.getElem_cons_zero, List.setIfInBounds_toArray, List.set_cons_zero, List.set_cons_succ])) | (refine wpAny_take (i := 19) (v := undef) rfl (by kernel_rfl) (by kernel_rfl) (by kernel_rfl) (fun _ _ _ h => h) (Or.inr ⟨by rfl, rfl⟩) ?_; (try simp only [Act.put, List.getElem_toArray, List.getElem_cons_succ, List.getElem_cons_zero, List.setIfInBounds_toArray, List.set_cons_zero, List.set_cons_succ])) | fail "op 19"
      first | (refine wpAny_take (i := 20) (v := ?_) rfl (by kernel_rfl) (by kernel_rfl) (by kernel_rfl) (fun _ _ _ h => h) (Or.inl ⟨by rfl, ?_⟩) ?_; rotate_left; (focus (intro wz; go_simp; done)); (try simp only [Act.put, List.getElem_toArray, List.getElem_cons_succ, List.getElem_cons_zero, List.setIfInBounds_toArray, List.set_cons_zero, List.set_cons_succ])) | (refine wpAny_take (i := 20) (v := ?_) rfl (by kernel_rfl) (by kernel_rfl) (by kernel_rfl) (fun _ _ _ h => h) (Or.inl ⟨by rfl, ?_⟩) ?_; rotate_left; (focus (intro wz; go_simp; with_reducible rfl)); (try simp only [Act.put, List.getElem_toArray, List.getElem_cons_succ, List.getElem_cons_zero, List.setIfInBounds_toArray, List.set_cons_zero, List.set_cons_succ])) | (refine wpAny_take (i := 20) (v := undef) rfl (by kernel_rfl) (by kernel_rfl) (by kernel_rfl) (fun _ _ _ h => h) (Or.inr ⟨by rfl, rfl⟩) ?_; (try simp only [Act.put, List.getElem_toArray, List.getElem_cons_succ, List.getElem_cons_zero, List.setIfInBounds_toArray, List.set_cons_zero, List.set_cons_succ])) | fail "op 20"
      refine wpAny_done (by kernel_rfl) ?_ _
      obtain ⟨W, hW⟩ : ∃ W, W = w5 := ⟨_, rfl⟩
      have hbW : Below w1.heap.size w1 W := by rw [hW]; exact bl_step hb13 hbx
      rw [← hW]
      clear hW hb5 hbx
      have c0 := (hbW.cell (p := ⟨A, off + j * 5, none⟩) hA).trans HC0.out
      have c1 := (hbW.cell (p := ⟨A, off + j * 5 + 1, none⟩) hA).trans HC1.out
      have c2 := (hbW.cell (p := ⟨A, off + j * 5 + 2, none⟩) hA).trans HC2.out
      have c3 := (hbW.cell (p := ⟨A, off + j * 5 + 3, none⟩) hA).trans HC3.out
      have c4 := (hbW.cell (p := ⟨A, off + j * 5 + 4, none⟩) hA).trans HC4.out
      go_wp2_with (fail)
      (go_at_call 15; refine (KG.out _ hbW).mono ?_; rintro e w6 ⟨vm, rfl, hvm, hb6⟩)
      have hbW6 := bl_step hbW hb6
      have hvl : LV w6 vm (psL p s) := ⟨_, _, hvm⟩
      obtain ⟨va, vc, rfl, _, _⟩ := hvl.sl
      clear c0 c1 c2 c3 c4 hvm hb6
      cases hf : pfit p s with
      | false =>
        clear hvl
        go_wp2
        go_ret
        exact ⟨by first | rfl | (simp; done) | (rw [hrl]; simp; done) | simp [hrl], bl_step HB1.out hbW6⟩
      | true =>
        have hown := pR_own (xs := xs) (p := p) (by rw [HR.out]; omega) (List.mem_of_getElem? hp) hf (psL_mv hf)
        have KX := Lib.hid (KY.out _ _ w6 hbW6 hvl)
        obtain ⟨y, hy⟩ : ∃ y, pR ps s (psL p s) = y := ⟨_, rfl⟩
        rw [hy] at KX hown
        have hy1 : decide (1 ≤ y) = true := decide_eq_true hown
        clear hvl
        go_wp2_with (fail)
        (go_at_call 36; refine (KX.out).mono ?_; rintro e w7 ⟨rfl, hb7⟩)
        go_wp2
        go_ret
        exact ⟨by first | rfl | (simp; done) | (rw [hrl]; simp; done) | simp [hrl], bl_step HB1.out (bl_step hbW6 hb7)⟩
  -- END

noncomputable def fnPsalmRead_world (os : Os) : World := { World.holding Try.prog os ⟨#[], #[], []⟩ with heap := (World.holding Try.prog os ⟨#[], #[], []⟩).heap }
theorem fnPsalmRead_met (os : Os) : laidMet Try.prog Rows.fnPsalmReadRow.laid ((fnPsalmRead_world os).forCall (fun _ _ => 0) ⟨#[], #[.slice none 0 0, .slice none 0 0], []⟩).memory :=
  laidMet_of_run' 8 (by kernel_rfl) (by kernel_rfl)
theorem fnPsalmRead_reads (os : Os) {H : Type} (enc : TypeId × Value → H) : ∃ places, DataW.whole enc Try.prog ((fnPsalmRead_world os).forCall (fun _ _ => 0) ⟨#[], #[.slice none 0 0, .slice none 0 0], []⟩).memory Try.f8.params.toList Rows.fnPsalmReadSpec.vars false (#[.slice none 0 0, .slice none 0 0] : Array Value).toList 8 = some ([.nil, .nil], [], places) :=
  ⟨((DataW.whole enc Try.prog ((fnPsalmRead_world os).forCall (fun _ _ => 0) ⟨#[], #[.slice none 0 0, .slice none 0 0], []⟩).memory Try.f8.params.toList Rows.fnPsalmReadSpec.vars false (#[.slice none 0 0, .slice none 0 0] : Array Value).toList 8).getD ([], [], [])).2.2, by kernel_rfl⟩
set_option maxRecDepth 100000 in
theorem fnPsalmRead_lifted (os : Os) (started : os.Started) (H : Type) (enc : TypeId × Value → H) (F : Stop.Interp) :
    ReturnsInHanded {} Try.checked os 8 .any ((OpenSpec.ofChange Rows.fnPsalmReadSpec).preRow enc Try.prog Try.f8 Rows.fnPsalmReadRow.domain false Rows.fnPsalmReadRow.laid) (((OpenSpec.ofChange Rows.fnPsalmReadSpec).at F).post enc Try.prog Try.f8 false true false false) := by
  obtain ⟨places, hx⟩ := fnPsalmRead_reads os enc
  refine returnsInHanded_of_row (C := Try.checked) (s := OpenSpec.ofChange Rows.fnPsalmReadSpec) own started (by kernel_rfl) Try.func8
    (witness_row_at (enc := enc) (C := Try.checked) false (fnPsalmRead_world os) #[.slice none 0 0, .slice none 0 0] rfl (by kernel_rfl) (by kernel_rfl) (by kernel_rfl)
      (OpenSpec.preRow_of_cond 8 hx (by kernel_rfl) (fun k hk => by cases hk) (by kernel_rfl) (fnPsalmRead_met os))) ?_
  intro W base args ds gs before hval0 hW _ _ _ hL hSh _
  have hval : ∀ (j : Nat) t v, Try.f8.params[j]? = some t → args[j]? = some v → Value.okWide Try.prog W .any base t v := hval0
  have hW' := hW
  obtain ⟨p, q, hA0, hV, rfl, _, _⟩ := hW
  have hA : DataW.TrodAll enc Try.prog W 0 (fun _ => true) true Try.f8.params.toList args.toList ds p := hA0
  rw [Try.params8] at hA hval
  obtain ⟨v0, vs0, d0, ds0, p0, q0, hargs, rfl, rfl, h0, r0⟩ := trodAll_cons hA
  obtain ⟨v1, vs1, d1, ds1, p1, q1, rfl, rfl, rfl, h1, r1⟩ := trodAll_cons r0
  obtain ⟨rfl, rfl, rfl⟩ := trodAll_nil r1
  obtain rfl : args = #[v0, v1] := by cases args; simp_all
  obtain ⟨rfl, rfl⟩ := trodVars_none hV
  obtain ⟨a0, n0, c0, rfl⟩ := okWide_slice Try.underlying22 (hval 0 22 v0 rfl rfl)
  have k0 := h0
  have lt0 : ∀ x ∈ p0, x.block < W.heap.size := by obtain ⟨m, hm⟩ := k0; exact DataW.trod_lt m _ _ _ hm
  have y0 := code_in h0
  obtain ⟨a1, n1, c1, rfl⟩ := okWide_slice Try.underlying22 (hval 1 22 v1 rfl rfl)
  have k1 := h1
  have lt1 : ∀ x ∈ p1, x.block < W.heap.size := by obtain ⟨m, hm⟩ := k1; exact DataW.trod_lt m _ _ _ hm
  have y1 := code_in h1
  clear hA0 hval0
  refine (fnPsalmRead_walk a0 n0 c0 a1 n1 c1 W y0.1 y0.2.1 y0.2.2 (Nat.le_trans y1.2.1 y1.2.2) (Try.laysM145.s1_3 W hSh)).mono fun e W' ⟨he, hb⟩ => ?_
  subst he
  exact ⟨_, rfl, _, _, _, [], _, [], hW', trodAll_cons_mk (shut_bool Try.underlying4 _) trodAll_mk0, trodAll_cons_mk (Below.trod laidOut (by kernel_rfl) (of_decide_eq_true (by kernel_rfl)) k0 hb lt0) (trodAll_cons_mk (Below.trod laidOut (by kernel_rfl) (of_decide_eq_true (by kernel_rfl)) k1 hb lt1) (trodAll_mk0)), rfl, hb.frame _, fun h => by cases h⟩


end Go.Proofs.Ytcmcdomfmmjogaa
