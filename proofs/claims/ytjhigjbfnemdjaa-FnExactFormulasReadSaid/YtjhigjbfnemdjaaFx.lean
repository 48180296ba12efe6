/-
  What are formulas, in the program.
-/
import Derived.Test.YtjhigjbfnemdjaaFw
namespace Go.Proofs.Ytjhigjbfnemdjaa
open Go.RowKit
set_option maxRecDepth 100000
set_option linter.unusedVariables false

set_option maxHeartbeats 2000000 in
theorem same_any (u v : Value) (ys xs : List Int) (wt : Int) (Bf : Nat) (w : World) (h : IV w u ys) (k : IV w v xs) (hB : Bf < w.heap.size) (hc : w.cell? ⟨Bf, 0, none⟩ = some v) :
    Calls Try.prog 72 #[.agg #[u, .int .i64 wt], .pointer (some ⟨Bf, 0, none⟩)] w fun e w' => e = .returned (.bool (ieq ys xs)) ∧ Below w.heap.size w w' := by
  have HE := Lib.hid (fun w' (hb : Below w.heap.size w w') => slEqualV_any u v ys xs w' (h.below hb) (k.below hb))
  have e1 : (w.alloc (.cells #[u, .int .i64 wt] 59)).cell? ⟨Bf, 0, none⟩ = some v := by
    rw [← hc]
    exact ((Below.refl w.heap.size w).alloc (Nat.le_refl _) _).cell (p := ⟨Bf, 0, none⟩) hB
  go_enter Try.func72, Try.ntmps72
  go_wp2_with (fail)
  (go_at_call 68; refine (HE.out _ (by (repeat' (first | (with_reducible exact Below.refl _ _) | (with_reducible refine Below.alloc ?_ ?_ _) | (with_reducible refine Below.drew ?_) | (with_reducible refine Below.setCell ?_ ?_ _) | (with_reducible refine bl_step ?_ (by assumption)) | go_size)))).mono ?_; rintro e w1 ⟨rfl, hb1⟩)
  go_wp2
  go_ret
  exact ⟨rfl, by (repeat' (first | (with_reducible exact Below.refl _ _) | (with_reducible refine Below.alloc ?_ ?_ _) | (with_reducible refine Below.drew ?_) | (with_reducible refine Below.setCell ?_ ?_ _) | (with_reducible refine bl_step ?_ (by assumption)) | go_size))⟩

theorem dupl_end {fs : List Fm} {xs : List Int} (h : dup fs fs.length xs = false) : fs.any (fun g => g.1 == xs) = false := by
  unfold dup at h
  rwa [List.take_length] at h
theorem dupl_hit {fs : List Fm} {j : Nat} {g : Fm} {xs : List Int} (hg : fs[j]? = some g) (h : ieq g.1 xs = true) : fs.any (fun g => g.1 == xs) = true := by
  have hj := (List.getElem?_eq_some_iff.1 hg).1
  have h2 := dup_hit (n := fs.length) hg hj h
  unfold dup at h2
  rwa [List.take_length] at h2

set_option maxHeartbeats 4000000 in
theorem indexFunc_any (v : Value) (fs : List Fm) (vx : Value) (xs : List Int) (Bf : Nat) (w : World) (h : FV w v fs) (k : IV w vx xs) (hB : Bf < w.heap.size) (hcB : w.cell? ⟨Bf, 0, none⟩ = some vx) :
    Calls Try.prog 84 #[v, .func (.func 72) #[] #[.pointer (some ⟨Bf, 0, none⟩)]] w
      fun e w' => ∃ r : Int, e = .returned (.int .i64 r) ∧ decide (0 ≤ r) = fs.any (fun g => g.1 == xs) ∧ Below w.heap.size w w' := by
  obtain ⟨a, c, rfl, ha, hc1, hc2⟩ := h
  unfold maxLen at hc2
  have HA := Lib.hid ha
  clear ha
  go_enter Try.func84, Try.ntmps84
  go_wp2
  go_loopw [8] (fun i wr => ∃ k : Nat, k ≤ fs.length ∧ i = .int .i64 k ∧ dup fs k xs = false ∧ Below w.heap.size w wr) (fun i _ => fs.length - (intOf i).toNat)
  case atStart => exact ⟨0, Nat.zero_le _, rfl, dup_zero _ _, Below.refl _ _⟩
  case round =>
    obtain ⟨q, hq, rfl, hd, hb⟩ := hrel
    have HD := Lib.hid hd
    clear hd
    by_cases hlt : q < fs.length
    · obtain ⟨ys, wt, hy⟩ := fs_get hlt
      have HY := Lib.hid hy
      clear hy
      rcases HA.out with h | ⟨A, off, rfl, hA, hc⟩
      · subst h; simp at hlt
      obtain ⟨u, e1, hu, e2⟩ := hc q _ HY.out
      have e1 := (hb.cell (p := ⟨A, off + q * 2, none⟩) hA).trans e1
      have e2 := (hb.cell (p := ⟨A, off + q * 2 + 1, none⟩) hA).trans e2
      have hk0 : (0 : Int) ≤ (q : Int) := by omega
      have hk1 : (q : Int) < (fs.length : Int) := by omega
      have HS := Lib.hid (same_any u vx ys xs wt Bf wr (hu.below hb) (k.below hb) (Nat.lt_of_lt_of_le hB hb.size) ((hb.cell (p := ⟨Bf, 0, none⟩) hB).trans hcB))
      clear hc hu
      by_cases he : ieq ys xs = true
      · rw [he] at HS
        have HE := Lib.hid (dupl_hit HY.out he)
        clear he
        go_wp2_with (fail)
        (go_at_call 72; refine HS.out.mono ?_; rintro e w1 ⟨rfl, hb1⟩)
        go_wp2
        go_ret
        exact ⟨q, rfl, by rw [HE.out]; exact decide_eq_true hk0, bl_step hb hb1⟩
      · rw [Bool.not_eq_true] at he
        rw [he] at HS
        have HE := Lib.hid (dup_step HY.out HD.out he)
        clear he
        go_wp2_with (fail)
        (go_at_call 72; refine HS.out.mono ?_; rintro e w1 ⟨rfl, hb1⟩)
        go_wp2
        go_roundw
        case rel => exact ⟨q + 1, by omega, by go_num, HE.out, bl_step hb hb1⟩
        case measure => simp [intOf]; omega
    · have hkn : q = fs.length := by omega
      subst hkn
      have HE := Lib.hid (dupl_end HD.out)
      go_wp2
      go_ret
      exact ⟨-1, rfl, by rw [HE.out]; rfl, hb⟩

theorem containsFunc_any (v : Value) (fs : List Fm) (vx : Value) (xs : List Int) (Bf : Nat) (w : World) (h : FV w v fs) (k : IV w vx xs) (hB : Bf < w.heap.size) (hcB : w.cell? ⟨Bf, 0, none⟩ = some vx) :
    Calls Try.prog 74 #[v, .func (.func 72) #[] #[.pointer (some ⟨Bf, 0, none⟩)]] w
      fun e w' => e = .returned (.bool (fs.any (fun g => g.1 == xs))) ∧ Below w.heap.size w w' := by
  have HI := Lib.hid (indexFunc_any v fs vx xs Bf w h k hB hcB)
  generalize fs.any (fun g => g.1 == xs) = b at HI
  go_enter Try.func74, Try.ntmps74
  go_wp2_with (fail)
  (go_at_call 84; refine HI.out.mono ?_; rintro e w1 ⟨r, rfl, hr, hb1⟩)
  go_wp2
  go_ret
  exact ⟨rfl, hb1⟩

theorem fvOk_end {fs : List Fm} (h : fvTo fs fs.length = true) (h2 : fs.length ≤ 8) : fv fs = true := by rw [fv_end h]; exact decide_eq_true h2

set_option maxHeartbeats 4000000 in
theorem formulasValid_any (v : Value) (fs : List Fm) (w : World) (h : FV w v fs) :
    Calls Try.prog 50 #[v] w fun e w' => e = .returned (.bool (fv fs)) ∧ Below w.heap.size w w' := by
  obtain ⟨a, c, rfl, ha, hc1, hc2⟩ := h
  by_cases h8 : fs.length ≤ 8
  · have t8 : decide (8 < fs.length) = false := decide_eq_false (by omega)
    have t82 : decide (8 < (fs.length : Int)) = false := decide_eq_false (by omega)
    have HA := Lib.hid ha
    clear ha
    have hmf : ∀ (fn : Fn) (first cap : Array Value) (w : World), (Instr.makeFunc fn first cap).run Try.prog w = .ok (.func fn first cap) w := fun _ _ _ _ => rfl
    go_enter Try.func50, Try.ntmps50
    go_wp2
    go_loopw [11] (fun i wr => ∃ k : Nat, k ≤ fs.length ∧ i = .int .i64 k ∧ fvTo fs k = true ∧ Below w.heap.size w wr) (fun i _ => fs.length - (intOf i).toNat)
    case atStart => exact ⟨0, Nat.zero_le _, rfl, rfl, Below.refl _ _⟩
    case round =>
      obtain ⟨k, hk, rfl, hq, hb⟩ := hrel
      have HQ := Lib.hid hq
      clear hq
      by_cases hlt : k < fs.length
      · obtain ⟨xs, wt, hx⟩ := fs_get hlt
        have HX := Lib.hid hx
        clear hx
        rcases HA.out with h | ⟨A, off, rfl, hA, hc⟩
        · subst h; simp at hlt
        have HC := Lib.hid hc
        clear hc
        obtain ⟨u, e1, hu, e2⟩ := HC.out k _ HX.out
        have HU := Lib.hid hu
        clear hu
        have f1 := (hb.cell (p := ⟨A, off + k * 2, none⟩) hA).trans e1
        have f2 := (hb.cell (p := ⟨A, off + k * 2 + 1, none⟩) hA).trans e2
        clear e1 e2
        have hk0 : (0 : Int) ≤ (k : Int) := by omega
        have hk1 : (k : Int) < (fs.length : Int) := by omega
        have hkc : (k : Int) ≤ (c : Int) := by omega
        have hbs := hb.size
        obtain ⟨ua, uc, rfl, _, _, _⟩ := HU.out
        have HV := Lib.hid (fun w' (hb' : Below w.heap.size w w') => formValid_any _ xs wt w' (HU.out.below hb'))
        have HT : Hid (∀ w', Below w.heap.size w w' → FV w' (.slice (some ⟨A, off, none⟩) k c) (fs.take k)) := fun w' hb' => by
          refine ⟨_, c, by rw [List.length_take, Nat.min_eq_left (by omega)], (HA.out.take k).below hb', by simp; omega, hc2⟩
        have HF : Hid (∀ w' Bf, Below w.heap.size w w' → Bf < w'.heap.size → w'.cell? ⟨Bf, 0, none⟩ = some (.slice ua xs.length uc) → _) := fun w' Bf hb' hB hcB => containsFunc_any _ (fs.take k) _ xs Bf w' (HT.out w' hb') (HU.out.below hb') hB hcB
        have hdup : (fs.take k).any (fun g => g.1 == xs) = dup fs k xs := rfl
        rw [hdup] at HF
        clear hdup HT
        by_cases hfo : fo (xs, wt) = true
        · rw [hfo] at HV
          by_cases hd : dup fs k xs = true
          · rw [hd] at HF
            have HE := Lib.hid (fv_bad_dup HX.out hd)
            clear hd hfo
            go_wp2_with (fail)
            (go_at_call 73; refine (HV.out _ (by (repeat' (first | (with_reducible exact Below.refl _ _) | (with_reducible refine Below.alloc ?_ ?_ _) | (with_reducible refine Below.drew ?_) | (with_reducible refine Below.setCell ?_ ?_ _) | (with_reducible refine bl_step ?_ (by assumption)) | go_size)))).mono ?_; rintro e w1 ⟨rfl, hb1⟩; obtain ⟨hc1, hf1, hz1⟩ := bl hb1; (try simp at hz1); (try (refine got (p := wr.heap.size < w1.heap.size) ?_ ?_; (focus (go_size; done)); intro q1_wr0)); (try (refine got (p := w1.cell? ⟨wr.heap.size, 0, none⟩ = some (.slice ua xs.length uc)) ?_ ?_; (focus (refine (hc1 _ _ ?_).trans ?_; (focus (go_size; done)); go_simp; done)); intro c1_wr0_0)); (try (refine got (p := w1.cell? ⟨wr.heap.size, 1, none⟩ = some (.int .i64 wt)) ?_ ?_; (focus (refine (hc1 _ _ ?_).trans ?_; (focus (go_size; done)); go_simp; done)); intro c1_wr0_1)); (try (refine got (p := ∀ o, w1.frozen? ⟨wr.heap.size, o, none⟩ = false) ?_ ?_; (focus (intro o; refine (hf1 _ _ ?_).trans ?_; (focus (go_size; done)); go_simp; done)); intro f1_wr0)); clear hc1 hf1)
            go_wp2_with (fail)
            (go_at_call 74; refine (HF.out _ _ (by (repeat' (first | (with_reducible exact Below.refl _ _) | (with_reducible refine Below.alloc ?_ ?_ _) | (with_reducible refine Below.drew ?_) | (with_reducible refine Below.setCell ?_ ?_ _) | (with_reducible refine bl_step ?_ (by assumption)) | go_size))) (by go_size) (by assumption)).mono ?_; rintro e w2 ⟨rfl, hb2⟩)
            go_wp2
            go_ret
            exact ⟨by rw [HE.out]; rfl, by (repeat' (first | (with_reducible exact Below.refl _ _) | (with_reducible refine Below.alloc ?_ ?_ _) | (with_reducible refine Below.drew ?_) | (with_reducible refine Below.setCell ?_ ?_ _) | (with_reducible refine bl_step ?_ (by assumption)) | go_size))⟩
          · rw [Bool.not_eq_true] at hd
            rw [hd] at HF
            have HN := Lib.hid (fvTo_next HQ.out HX.out hfo hd)
            clear hd hfo
            go_wp2_with (fail)
            (go_at_call 73; refine (HV.out _ (by (repeat' (first | (with_reducible exact Below.refl _ _) | (with_reducible refine Below.alloc ?_ ?_ _) | (with_reducible refine Below.drew ?_) | (with_reducible refine Below.setCell ?_ ?_ _) | (with_reducible refine bl_step ?_ (by assumption)) | go_size)))).mono ?_; rintro e w1 ⟨rfl, hb1⟩; obtain ⟨hc1, hf1, hz1⟩ := bl hb1; (try simp at hz1); (try (refine got (p := wr.heap.size < w1.heap.size) ?_ ?_; (focus (go_size; done)); intro q1_wr0)); (try (refine got (p := w1.cell? ⟨wr.heap.size, 0, none⟩ = some (.slice ua xs.length uc)) ?_ ?_; (focus (refine (hc1 _ _ ?_).trans ?_; (focus (go_size; done)); go_simp; done)); intro c1_wr0_0)); (try (refine got (p := w1.cell? ⟨wr.heap.size, 1, none⟩ = some (.int .i64 wt)) ?_ ?_; (focus (refine (hc1 _ _ ?_).trans ?_; (focus (go_size; done)); go_simp; done)); intro c1_wr0_1)); (try (refine got (p := ∀ o, w1.frozen? ⟨wr.heap.size, o, none⟩ = false) ?_ ?_; (focus (intro o; refine (hf1 _ _ ?_).trans ?_; (focus (go_size; done)); go_simp; done)); intro f1_wr0)); clear hc1 hf1)
            go_wp2_with (fail)
            (go_at_call 74; refine (HF.out _ _ (by (repeat' (first | (with_reducible exact Below.refl _ _) | (with_reducible refine Below.alloc ?_ ?_ _) | (with_reducible refine Below.drew ?_) | (with_reducible refine Below.setCell ?_ ?_ _) | (with_reducible refine bl_step ?_ (by assumption)) | go_size))) (by go_size) (by assumption)).mono ?_; rintro e w2 ⟨rfl, hb2⟩)
            go_wp2
            go_roundw
            case rel => exact ⟨k + 1, by omega, by go_num, HN.out, by (repeat' (first | (with_reducible exact Below.refl _ _) | (with_reducible refine Below.alloc ?_ ?_ _) | (with_reducible refine Below.drew ?_) | (with_reducible refine Below.setCell ?_ ?_ _) | (with_reducible refine bl_step ?_ (by assumption)) | go_size))⟩
            case measure => simp [intOf]; omega
        · rw [Bool.not_eq_true] at hfo
          rw [hfo] at HV
          have HE := Lib.hid (fv_bad_fo HX.out hfo)
          clear hfo
          go_wp2_with (fail)
          (go_at_call 73; refine (HV.out _ (by (repeat' (first | (with_reducible exact Below.refl _ _) | (with_reducible refine Below.alloc ?_ ?_ _) | (with_reducible refine Below.drew ?_) | (with_reducible refine Below.setCell ?_ ?_ _) | (with_reducible refine bl_step ?_ (by assumption)) | go_size)))).mono ?_; rintro e w1 ⟨rfl, hb1⟩; obtain ⟨hc1, hf1, hz1⟩ := bl hb1; (try simp at hz1); (try (refine got (p := wr.heap.size < w1.heap.size) ?_ ?_; (focus (go_size; done)); intro q1_wr0)); (try (refine got (p := w1.cell? ⟨wr.heap.size, 0, none⟩ = some (.slice ua xs.length uc)) ?_ ?_; (focus (refine (hc1 _ _ ?_).trans ?_; (focus (go_size; done)); go_simp; done)); intro c1_wr0_0)); (try (refine got (p := w1.cell? ⟨wr.heap.size, 1, none⟩ = some (.int .i64 wt)) ?_ ?_; (focus (refine (hc1 _ _ ?_).trans ?_; (focus (go_size; done)); go_simp; done)); intro c1_wr0_1)); (try (refine got (p := ∀ o, w1.frozen? ⟨wr.heap.size, o, none⟩ = false) ?_ ?_; (focus (intro o; refine (hf1 _ _ ?_).trans ?_; (focus (go_size; done)); go_simp; done)); intro f1_wr0)); clear hc1 hf1)
          go_wp2
          go_ret
          exact ⟨by rw [HE.out]; rfl, by (repeat' (first | (with_reducible exact Below.refl _ _) | (with_reducible refine Below.alloc ?_ ?_ _) | (with_reducible refine Below.drew ?_) | (with_reducible refine Below.setCell ?_ ?_ _) | (with_reducible refine bl_step ?_ (by assumption)) | go_size))⟩
      · have hkn : k = fs.length := by omega
        subst hkn
        have HE := Lib.hid (fvOk_end HQ.out h8)
        go_wp2
        go_ret
        exact ⟨by rw [HE.out]; rfl, hb⟩
  · have HE := Lib.hid (fv_long (fs := fs) (by omega))
    have t8 : decide (8 < fs.length) = true := decide_eq_true (by omega)
    have t82 : decide (8 < (fs.length : Int)) = true := decide_eq_true (by omega)
    clear ha
    go_enter Try.func50, Try.ntmps50
    go_wp2
    go_ret
    exact ⟨by rw [HE.out]; rfl, Below.refl _ _⟩
end Go.Proofs.Ytjhigjbfnemdjaa
