/-
  The model's numbers of readings from each place on.
-/
import Derived.Test.YtjhigjbfnemdjaaRs
import Derived.Test.YtjhigjbfnemdjaaIq
import Derived.Test.YtjhigjbfnemdjaaVbl
import Derived.Test.YtjhigjbfnemdjaaFc
import Derived.Test.YtjhigjbfnemdjaaFw
namespace Go.Proofs.Ytjhigjbfnemdjaa
open Go.RowKit
set_option maxRecDepth 100000
set_option linter.unusedVariables false

theorem IV.cut {w : World} {A off n c p l : Nat} {s : List Int} (h : ArgI w (some ⟨A, off, none⟩) s) (hc : s.length ≤ c) (hm : c ≤ maxLen) (hp : p + l ≤ s.length) : IV w (.slice (some ⟨A, off + p, none⟩) l (c - p)) ((s.drop p).take l) := by
  have hl : ((s.drop p).take l).length = l := by simp; omega
  exact ⟨_, c - p, by rw [hl], (h.from_ p).take l, by rw [hl]; omega, by omega⟩
theorem mt_far {s : List Int} {p : Nat} {xs : List Int} (h : ¬ p + xs.length ≤ s.length) : mt s p xs = false := by unfold mt; rw [decide_eq_false h]; rfl
theorem mt_near {s : List Int} {p : Nat} {xs : List Int} (h : p + xs.length ≤ s.length) : mt s p xs = ieq ((s.drop p).take xs.length) xs := by unfold mt; rw [decide_eq_true h]; rfl

set_option maxHeartbeats 1000000 in
theorem l6fAt_any (u v : Value) (xs s : List Int) (wt : Int) (p : Nat) (hx : 0 < xs.length) (hx5 : xs.length ≤ 5) (hp : p ≤ s.length) (hs : s.length ≤ 23) (w : World) (h : IV w u xs) (k : IV w v s) :
    Calls Try.prog 39 #[.agg #[u, .int .i64 wt], v, .int .i64 p] w fun e w' => e = .returned (.bool (mt s p xs)) ∧ Below w.heap.size w w' := by
  have HU := Lib.hid h
  obtain ⟨a, c, rfl, ha, hc1, hc2⟩ := h
  obtain ⟨a', c', rfl, ha', hc1', hc2'⟩ := k
  have hp0 : (0 : Int) ≤ (p : Int) := by omega
  by_cases hg : p + xs.length ≤ s.length
  · have hS : ∃ A off, a' = some ⟨A, off, none⟩ := by
      rcases ha' with h | ⟨A, off, e, _⟩
      · subst h; rw [List.length_nil] at hg; omega
      · exact ⟨A, off, e⟩
    obtain ⟨A, off, rfl⟩ := hS
    have hcut := IV.cut (n := 0) (p := p) (l := xs.length) ha' hc1' hc2' hg
    have HL := Lib.hid (fun w' (hb : Below w.heap.size w w') => l2SameQ_any _ _ _ xs w' (hcut.below hb) (HU.out.below hb))
    rw [mt_near hg]
    generalize ieq ((s.drop p).take xs.length) xs = b at HL
    have t1 : decide ((p : Int) + (xs.length : Int) ≤ (s.length : Int)) = true := decide_eq_true (by omega)
    have i1 : (p : Int) ≤ (p : Int) + (xs.length : Int) := by omega
    have i2 : (p : Int) + (xs.length : Int) ≤ (c' : Int) := by omega
    have i3 : (p : Int) + (xs.length : Int) ≤ (s.length : Int) := by omega
    unfold maxLen at hc2 hc2'
    clear ha ha' hcut
    go_enter Try.func39, Try.ntmps39
    go_wp2
    go_quiet ((go_at_call 66; exact Calls.quiet_of (HL.out _ (by (repeat' (first | (with_reducible assumption) | (with_reducible exact Below.refl _ _) | (with_reducible refine Below.alloc ?_ ?_ _) | (with_reducible refine Below.drew ?_) | (with_reducible refine bl_drewN ?_ _) | (with_reducible refine Below.setCell ?_ ?_ _) | (with_reducible refine bl_step ?_ (by assumption)) | go_size))))))
    go_wp2
    go_ret
    exact ⟨rfl, by (repeat' (first | (with_reducible assumption) | (with_reducible exact Below.refl _ _) | (with_reducible refine Below.alloc ?_ ?_ _) | (with_reducible refine Below.drew ?_) | (with_reducible refine bl_drewN ?_ _) | (with_reducible refine Below.setCell ?_ ?_ _) | (with_reducible refine bl_step ?_ (by assumption)) | go_size))⟩
  · rw [mt_far hg]
    have t1 : decide ((p : Int) + (xs.length : Int) ≤ (s.length : Int)) = false := decide_eq_false (by omega)
    unfold maxLen at hc2 hc2'
    clear ha ha'
    go_enter Try.func39, Try.ntmps39
    go_wp2
    go_quiet (fail)
    go_wp2
    go_ret
    exact ⟨rfl, by (repeat' (first | (with_reducible assumption) | (with_reducible exact Below.refl _ _) | (with_reducible refine Below.alloc ?_ ?_ _) | (with_reducible refine Below.drew ?_) | (with_reducible refine bl_drewN ?_ _) | (with_reducible refine Below.setCell ?_ ?_ _) | (with_reducible refine bl_step ?_ (by assumption)) | go_size))⟩

/-- are the list formulas and the numbers differences? -/
def fok (fs : List Fm) (s : List Int) : Bool := fv fs && stq 23 20 s
theorem fok_parts {fs : List Fm} {s : List Int} (h : fok fs s = true) : fv fs = true ∧ s.length ≤ 23 := by
  unfold fok stq at h
  simp only [Bool.and_eq_true, decide_eq_true_eq] at h
  exact ⟨h.1, by omega⟩
theorem stq_l6 {s : List Int} (h : reaches 20 s = true) : stq 23 20 s = decide ((s.length : Int) < 24) := by
  rw [stq_end h]
  by_cases h : (s.length : Int) ≤ 23
  · rw [decide_eq_true h, decide_eq_true (by omega)]
  · rw [decide_eq_false h, decide_eq_false (by omega)]
set_option maxHeartbeats 2000000 in
theorem l6fSteps_any (v : Value) (s : List Int) (w : World) (h : IV w v s) :
    Calls Try.prog 65 #[v] w fun e w' => e = .returned (.bool (stq 23 20 s)) ∧ w = w' := by
  obtain ⟨a, c, rfl, ha, hc1, hc2⟩ := h
  unfold maxLen at hc2
  have HA := Lib.hid ha
  clear ha
  go_enter Try.func65, Try.ntmps65
  go_wp2
  go_loop [3] (fun i => ∃ k : Nat, k ≤ s.length ∧ i = .int .i64 k ∧ reaches 20 (s.take k) = true) (fun i => s.length - (intOf i).toNat)
  case atStart => exact ⟨0, Nat.zero_le _, rfl, by simp [reaches]⟩
  case round =>
    obtain ⟨k, hk, rfl, hq⟩ := hrel
    have HQ := Lib.hid hq
    clear hq
    by_cases hlt : k < s.length
    · rcases HA.out with h | ⟨A, off, rfl, hA, hc⟩
      · subst h; simp at hlt
      have e1 := hc k hlt
      have hk0 : (0 : Int) ≤ (k : Int) := by omega
      have hk1 : (k : Int) < (s.length : Int) := by omega
      clear hc
      by_cases hd : (decide (-20 ≤ s.getD k 0) && decide (s.getD k 0 ≤ 20)) = true
      · have hd' : -20 ≤ s.getD k 0 ∧ s.getD k 0 ≤ 20 := by simpa using hd
        have HX := Lib.hid (reaches_take (r := 20) HQ.out hlt hd'.1 hd'.2)
        clear hd'
        generalize s.getD k 0 = d at e1 hd
        have HL := Lib.hid (l6In_any d (-20) 20)
        rw [hd] at HL
        go_wp2_with (fail)
        (go_at_call 48; refine (HL.out _).mono ?_; rintro e wx ⟨rfl, rfl⟩)
        go_wp2
        go_round
        case rel => exact ⟨k + 1, by omega, by go_num, HX.out⟩
        case measure => simp [intOf]; omega
      · rw [Bool.not_eq_true] at hd
        have HX : Hid (stq 23 20 s = false) := stq_bad hlt (by simpa using hd)
        generalize s.getD k 0 = d at e1 hd
        have HL := Lib.hid (l6In_any d (-20) 20)
        rw [hd] at HL
        go_wp2_with (fail)
        (go_at_call 48; refine (HL.out _).mono ?_; rintro e wx ⟨rfl, rfl⟩)
        go_wp2
        go_ret
        exact ⟨by rw [HX.out]; rfl, rfl⟩
    · have hk0 : k = s.length := by omega
      subst hk0
      have hq2 := HQ.out
      rw [List.take_length] at hq2
      have HE := Lib.hid (stq_l6 hq2)
      clear hq2
      go_wp2
      go_ret
      exact ⟨by rw [HE.out]; first | rfl | simp, rfl⟩

theorem l6fOk_any (v u : Value) (fs : List Fm) (s : List Int) (w : World) (h : FV w v fs) (k : IV w u s) :
    Calls Try.prog 37 #[v, u] w fun e w' => e = .returned (.bool (fok fs s)) ∧ Below w.heap.size w w' := by
  have HV := Lib.hid (sFormulasValid_any v fs w h)
  have HS := Lib.hid (fun w' (hb : Below w.heap.size w w') => l6fSteps_any u s w' (k.below hb))
  clear h k
  unfold fok
  cases hv : fv fs with
  | false =>
    rw [hv] at HV
    rw [Bool.false_and]
    go_enter Try.func37, Try.ntmps37
    go_wp2_with (fail)
    (go_at_call 47; refine HV.out.mono ?_; rintro e w1 ⟨rfl, hb1⟩)
    go_wp2
    go_ret
    exact ⟨rfl, hb1⟩
  | true =>
    rw [hv] at HV
    rw [Bool.true_and]
    generalize stq 23 20 s = b at HS
    go_enter Try.func37, Try.ntmps37
    go_wp2_with (fail)
    (go_at_call 47; refine HV.out.mono ?_; rintro e w1 ⟨rfl, hb1⟩)
    go_wp2_with (fail)
    (go_at_call 65; refine (HS.out _ hb1).mono ?_; rintro e wx ⟨rfl, rfl⟩)
    go_wp2
    go_ret
    exact ⟨rfl, hb1⟩
end Go.Proofs.Ytjhigjbfnemdjaa
