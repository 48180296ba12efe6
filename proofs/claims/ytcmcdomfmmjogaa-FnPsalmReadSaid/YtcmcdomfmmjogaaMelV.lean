/-
  MelodyValid in both programs.
-/
import Derived.Test.YtcmcdomfmmjogaaMel
import Derived.Test.YtcmcdomfmmjogaaTL2
import Derived.Test.YtcmcdomfmmjogaaTL3
namespace Go.Proofs.Ytcmcdomfmmjogaa
open Go.RowKit
set_option maxRecDepth 100000
set_option linter.unusedVariables false

theorem melodyValid_any (lo hi : Nat) (v : Value) (xs : List (Int × Bool)) (w : World) (h : TRow w lo hi v xs) :
    Calls Try.prog 65 #[v] w fun e w' => e = .returned (.bool (mv xs)) ∧ Below w.heap.size w w' := by
  go_enter Try.func65, Try.ntmps65
  go_wp2_with (fail)
  (go_at_call 83; refine (newMelody_any lo hi v xs _ h).mono ?_; rintro e w1 ⟨p, rfl, hm, hb⟩)
  clear hm
  go_wp2
  go_ret
  exact ⟨rfl, hb⟩

theorem allv_take {xs : List (Int × Bool)} {k : Nat} {t : Int × Bool} (h : allv (xs.take k) = true) (hx : xs[k]? = some t) (hv : vd t.1 t.2 = true) : allv (xs.take (k + 1)) = true := by
  rw [List.take_add_one, hx]
  unfold allv at h ⊢
  rw [List.all_append, h]
  simp [hv]
theorem mv_eq {xs : List (Int × Bool)} (h : allv (xs.take xs.length) = true) : mv xs = decide ((xs.length : Int) ≤ 24) := by
  rw [List.take_length] at h
  unfold mv
  rw [h, Bool.and_true]
  by_cases g : xs.length ≤ 24
  · simp [g]; omega
  · simp [g]; omega

set_option maxHeartbeats 1000000 in
theorem sMelodyValid_any (lo hi : Nat) (v : Value) (xs : List (Int × Bool)) (w : World) (h : TRow w lo hi v xs) :
    Calls Try.prog 67 #[v] w fun e w' => e = .returned (.bool (mv xs)) ∧ Below w.heap.size w w' := by
  rcases h.form with ⟨rfl, rfl⟩ | ⟨g, cap, rfl, hg, hg2, hgs, hcap, hmax, hc⟩
  · go_enter Try.func67, Try.ntmps67
    go_wp2
    go_rounds 1
    go_ret
    exact ⟨rfl, Below.refl _ _⟩
  · unfold maxLen at hmax
    have hlen : xs.length ≤ 9223372036854775807 := by omega
    have HC := Lib.hid hc
    clear h hc
    go_enter Try.func67, Try.ntmps67
    go_wp2
    go_loopw [3] (fun i wr => ∃ k : Nat, k ≤ xs.length ∧ i = .int .i64 k ∧ allv (xs.take k) = true ∧ Below w.heap.size w wr) (fun i _ => xs.length - (intOf i).toNat)
    case atStart => exact ⟨0, Nat.zero_le _, rfl, rfl, Below.refl _ _⟩
    case round =>
      obtain ⟨k, hk, rfl, ha, hb⟩ := hrel
      by_cases hlt : k < xs.length
      · obtain ⟨t, ht⟩ : ∃ t, xs[k]? = some t := ⟨xs[k], List.getElem?_eq_getElem (by omega)⟩
        obtain ⟨s, b⟩ := t
        obtain ⟨e1, e2⟩ := HC.out k _ ht
        have e1 := (hb.cell (p := ⟨g, k * 2, none⟩) hgs).trans e1
        have e2 := (hb.cell (p := ⟨g, k * 2 + 1, none⟩) hgs).trans e2
        have hk0 : (0 : Int) ≤ (k : Int) := by omega
        have hk1 : (k : Int) < (xs.length : Int) := by omega
        by_cases hv : vd s b = false
        · have HB := Lib.hid (mv_bad ht hv)
          clear ha
          go_wp2_with (fail)
          (go_at_call 71; refine (sToneValid_any _ _ _).mono ?_; rintro e w1 ⟨rfl, hb1⟩)
          go_wp2
          go_ret
          exact ⟨by rw [HB.out]; rfl, bl_step hb hb1⟩
        · rw [Bool.not_eq_false] at hv
          have HA := Lib.hid (allv_take ha ht hv)
          clear ha
          go_wp2_with (fail)
          (go_at_call 71; refine (sToneValid_any _ _ _).mono ?_; rintro e w1 ⟨rfl, hb1⟩)
          go_wp2
          go_roundw
          case rel => exact ⟨k + 1, by omega, by go_num, HA.out, bl_step hb hb1⟩
          case measure => simp [intOf]; omega
      · have hkn : k = xs.length := by omega
        subst hkn
        have HB := Lib.hid (mv_eq ha)
        clear ha
        go_wp2
        go_ret
        exact ⟨by rw [HB.out]; rfl, hb⟩
end Go.Proofs.Ytcmcdomfmmjogaa
