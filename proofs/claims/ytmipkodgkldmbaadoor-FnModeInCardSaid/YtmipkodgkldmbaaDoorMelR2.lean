/-
  The range of a melody in the model.
-/
import Derived.Test.YtmipkodgkldmbaaDoorMelR
namespace Go.Proofs.YtmipkodgkldmbaaDoor
open Go.RowKit
set_option maxRecDepth 100000
set_option linter.unusedVariables false

set_option maxHeartbeats 2000000 in
theorem sMelodyRange_any (lo hi : Nat) (v : Value) (xs : List (Int × Bool)) (w : World) (h : TRow w lo hi v xs) :
    Calls Tryd.prog 54 #[v] w (Rng w xs) := by
  by_cases hv : mv xs = false
  · have HN : Hid (∀ w', Below w.heap.size w w' → Rng w xs (.returned (.tuple #[.int .i64 0, .int .i64 0, .bool false])) w') := fun w' hb => rng_no (by simp [rgOk, hv]) hb
    go_enter Tryd.func54, Tryd.ntmps54
    go_wp2_with (fail)
    (go_at_call 68; refine (sMelodyValid_any lo hi v xs _ h).mono ?_; rintro e w1 ⟨rfl, hb1⟩)
    clear h
    go_wp2
    go_ret3
    exact HN.out _ hb1
  rw [Bool.not_eq_false] at hv
  rcases h.form with ⟨rfl, rfl⟩ | ⟨g, cap, rfl, hg, hg2, hgs, hcap, hmax, hc⟩
  · have HN : Hid (∀ w', Below w.heap.size w w' → Rng w [] (.returned (.tuple #[.int .i64 0, .int .i64 0, .bool false])) w') := fun w' hb => rng_no (by simp [rgOk]) hb
    go_enter Tryd.func54, Tryd.ntmps54
    go_wp2_with (fail)
    (go_at_call 68; refine (sMelodyValid_any lo hi _ [] _ h).mono ?_; rintro e w1 ⟨rfl, hb1⟩)
    clear h
    go_wp2
    go_ret3
    exact HN.out _ hb1
  by_cases hx : xs = []
  · subst hx
    have HN : Hid (∀ w', Below w.heap.size w w' → Rng w [] (.returned (.tuple #[.int .i64 0, .int .i64 0, .bool false])) w') := fun w' hb => rng_no (by simp [rgOk]) hb
    go_enter Tryd.func54, Tryd.ntmps54
    go_wp2_with (fail)
    (go_at_call 68; refine (sMelodyValid_any lo hi _ [] _ h).mono ?_; rintro e w1 ⟨rfl, hb1⟩)
    clear h hc
    go_wp2
    go_ret3
    exact HN.out _ hb1
  unfold maxLen at hmax
  have hl : 0 < xs.length := List.length_pos_iff.2 hx
  have hl1 : ((xs.length : Int) == 0) = false := by simp; omega
  have hl2 : (0 : Int) < (xs.length : Int) := by omega
  have HN : Hid (∀ w', Below w.heap.size w w' → Rng w xs (.returned (.tuple #[.int .i64 (loF (hdS xs) xs), .int .i64 (hiF (hdS xs) xs), .bool true])) w') := fun w' hb => rng_yes (by simp [rgOk, hv, hx]) hb
  have HH : Hid (∀ t, xs[0]? = some t → t.1 = hdS xs) := fun t ht => by simp [hdS, List.getD_eq_getElem?_getD, ht]
  have HC := Lib.hid hc
  clear hx hc
  go_enter Tryd.func54, Tryd.ntmps54
  go_wp2_with (fail)
  (go_at_call 68; refine (sMelodyValid_any lo hi _ xs _ h).mono ?_; rintro e w1 ⟨rfl, hb1⟩)
  clear h
  obtain ⟨t0, ht0⟩ : ∃ t, xs[0]? = some t := ⟨xs[0], List.getElem?_eq_getElem hl⟩
  have e0 := (hb1.cell (p := ⟨g, 0 * 2, none⟩) hgs).trans (HC.out 0 _ ht0).1
  rw [HH.out t0 ht0, Nat.zero_mul] at e0
  clear HH ht0
  generalize hdS xs = a at HN e0
  go_wp2
  clear e0
  go_loopw [5, 6, 7] (fun x y i wr => ∃ k : Nat, k ≤ xs.length ∧ i = .int .i64 k ∧ x = .int .i64 (loF a (xs.take k)) ∧ y = .int .i64 (hiF a (xs.take k)) ∧ Below w.heap.size w wr) (fun _ _ i _ => xs.length - (intOf i).toNat)
  case atStart => exact ⟨0, Nat.zero_le _, rfl, rfl, rfl, hb1⟩
  case round =>
    obtain ⟨k, hk, rfl, rfl, rfl, hb⟩ := hrel
    by_cases hlt : k < xs.length
    · have ht : xs[k]? = some xs[k] := List.getElem?_eq_getElem hlt
      have HX : Hid (loF a (xs.take (k + 1)) = min (loF a (xs.take k)) xs[k].1) := loF_snoc ht
      have HY : Hid (hiF a (xs.take (k + 1)) = max (hiF a (xs.take k)) xs[k].1) := hiF_snoc ht
      have e1 := (hb.cell (p := ⟨g, k * 2, none⟩) hgs).trans (HC.out k _ ht).1
      have hk0 : (0 : Int) ≤ (k : Int) := by omega
      have hk1 : (k : Int) < (xs.length : Int) := by omega
      clear ht
      generalize xs[k].1 = s at e1 HX HY
      generalize loF a (xs.take k) = x at HX
      generalize hiF a (xs.take k) = y at HY
      go_wp2
      all_goals
        go_roundw
        case rel => exact ⟨k + 1, by omega, by go_num, by rw [HX.out]; congr 1; omega, by rw [HY.out]; congr 1; omega, hb⟩
        case measure => simp [intOf]; omega
    · have hk0 : k = xs.length := by omega
      subst hk0
      have HE := Lib.hid (HN.out _ hb)
      rw [List.take_length]
      go_wp2
      go_ret3
      exact HE.out
end Go.Proofs.YtmipkodgkldmbaaDoor
