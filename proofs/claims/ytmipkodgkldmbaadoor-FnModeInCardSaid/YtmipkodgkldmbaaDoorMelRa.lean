/-
  The range of a melody made of any part of a list of tones, in the program.
-/
import Derived.Test.YtmipkodgkldmbaaDoorMelR
import Derived.Test.YtmipkodgkldmbaaDoorMelA
namespace Go.Proofs.YtmipkodgkldmbaaDoor
open Go.RowKit
set_option maxRecDepth 100000
set_option linter.unusedVariables false

set_option maxHeartbeats 2000000 in
theorem melodyRange_at (a : Option Addr) (cap : Nat) (xs : List (Int × Bool)) (w : World) (h : ArgT w a xs) (hcap : xs.length ≤ cap) (hmax : cap ≤ maxLen) :
    Calls Tryd.prog 53 #[.slice a xs.length cap] w (Rng w xs) := by
  by_cases hv : mv xs = false
  · have HN : Hid (∀ w', Below w.heap.size w w' → Rng w xs (.returned (.tuple #[.int .i64 0, .int .i64 0, .bool false])) w') := fun w' hb => rng_no (by simp [rgOk, hv]) hb
    go_enter Tryd.func53, Tryd.ntmps53
    go_wp2_with (fail)
    (go_at_call 59; refine (newMelody_at a cap xs _ h hcap hmax).mono ?_; rintro e w1 ⟨p, rfl, hm, hb1⟩)
    clear hm h
    go_wp2
    go_ret3
    exact HN.out _ hb1
  rw [Bool.not_eq_false] at hv
  by_cases hx : xs = []
  · subst hx
    have HN : Hid (∀ w', Below w.heap.size w w' → Rng w [] (.returned (.tuple #[.int .i64 0, .int .i64 0, .bool false])) w') := fun w' hb => rng_no (by simp [rgOk]) hb
    go_enter Tryd.func53, Tryd.ntmps53
    go_wp2_with (fail)
    (go_at_call 59; refine (newMelody_at a cap [] _ h hcap hmax).mono ?_; rintro e w1 ⟨p, rfl, hm, hb1⟩)
    have hp : p = none := by simpa [mvl, Mel] using hm
    subst hp
    clear hm h
    go_wp2
    go_ret3
    exact HN.out _ hb1
  have hl : 0 < xs.length := List.length_pos_iff.2 hx
  have HN : Hid (∀ w', Below w.heap.size w w' → Rng w xs (.returned (.tuple #[.int .i64 (loF (hdS xs) xs), .int .i64 (hiF (hdS xs) xs), .bool true])) w') := fun w' hb => rng_yes (by simp [rgOk, hv, hx]) hb
  have hmv : mvl xs = xs := mvl_yes hv
  have hd0 : xs = xs[0] :: xs.drop 1 := by have := List.drop_eq_getElem_cons (l := xs) (i := 0) hl; simpa using this
  have hh0 : xs[0].1 = hdS xs := by simp [hdS, List.getD_eq_getElem?_getD, List.getElem?_eq_getElem hl]
  have H0 := Lib.hid hh0
  have HD := Lib.hid hd0
  have HV := Lib.hid hmv
  clear hx hh0 hd0 hmv
  go_enter Tryd.func53, Tryd.ntmps53
  go_wp2_with (fail)
  (go_at_call 59; refine (newMelody_at a cap xs _ h hcap hmax).mono ?_; rintro e w1 ⟨p, rfl, hm, hb1⟩)
  rw [HV.out] at hm
  have hm' : Mel w1 w.heap.size p (xs[0] :: xs.drop 1) := by rw [← HD.out]; exact hm
  obtain ⟨B, r, rfl, hlo, hB, c0, c1, c2, hr⟩ := hm'.head
  rw [H0.out] at c0
  clear hm' hr h
  generalize hdS xs = a at HN c0 H0
  clear H0
  have HM := Lib.hid hm
  clear hm
  go_wp2
  go_quiet (fail)
  go_wp2
  go_loopg [5, 7, 8] xs.length (fun k m x y wr => ∃ j, j + k = xs.length ∧ (∃ q lo, m = .pointer q ∧ Mel wr lo q (xs.drop j)) ∧ x = .int .i64 (loF a (xs.take j)) ∧ y = .int .i64 (hiF a (xs.take j)) ∧ Below w.heap.size w wr)
  case atStart => exact ⟨0, by omega, ⟨_, _, rfl, by simpa using HM.out.below (bl_drewN' (Below.refl _ _) _)⟩, by simp [loF], by simp [hiF], by first | exact hb1.drew | exact bl_drewN' hb1 _⟩
  case round =>
    obtain ⟨j, hj, ⟨q, lo', rfl, hm⟩, rfl, rfl, hb⟩ := hrel
    by_cases hlt : j < xs.length
    · have hd : xs.drop j = xs[j] :: xs.drop (j + 1) := List.drop_eq_getElem_cons hlt
      have ht : xs[j]? = some xs[j] := List.getElem?_eq_getElem hlt
      have HX : Hid (loF a (xs.take (j + 1)) = min (loF a (xs.take j)) xs[j].1) := loF_snoc ht
      have HY : Hid (hiF a (xs.take (j + 1)) = max (hiF a (xs.take j)) xs[j].1) := hiF_snoc ht
      rw [hd] at hm
      clear hd ht
      generalize xs[j] = t at hm HX HY
      obtain ⟨s, b⟩ := t
      obtain ⟨B, r, rfl, hlo, hB, c0, c1, c2, hr⟩ := hm.head
      have HR := Lib.hid hr
      have HJ := Lib.hid hj
      clear hr hm hj
      generalize loF a (xs.take j) = x at HX
      generalize hiF a (xs.take j) = y at HY
      go_wp2
      all_goals
        have hj := HJ.out
        go_roundg (gk - 1)
        case measure => omega
        case rel => exact ⟨j + 1, by omega, ⟨_, _, rfl, HR.out⟩, by rw [HX.out]; congr 1; omega, by rw [HY.out]; congr 1; omega, hb⟩
    · have hj0 : j = xs.length := by omega
      subst hj0
      have hp : q = none := by simpa [Mel] using hm
      subst hp
      have HE := Lib.hid (HN.out _ hb)
      rw [List.take_length]
      clear hm
      go_wp2
      go_ret3
      exact HE.out
end Go.Proofs.YtmipkodgkldmbaaDoor
