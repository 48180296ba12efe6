/-
  A melody made of any part of a list of tones.
-/
import Derived.Test.YtmipkodgkldmbaaDoorMel
import Derived.Test.YtmipkodgkldmbaaDoorTL2
namespace Go.Proofs.YtmipkodgkldmbaaDoor
open Go.RowKit
set_option maxRecDepth 100000
set_option linter.unusedVariables false

set_option maxHeartbeats 2000000 in
theorem newMelody_at (a : Option Addr) (cap : Nat) (xs : List (Int × Bool)) (w : World) (h : ArgT w a xs) (hcap : xs.length ≤ cap) (hmax : cap ≤ maxLen) :
    Calls Tryd.prog 59 #[.slice a xs.length cap] w (Made w xs) := by
  have HN : mv xs = false → ∀ w', Below w.heap.size w w' → Made w xs (.returned (.tuple #[.pointer none, .bool false])) w' := fun h w' hb => made_no h hb
  have HY : mv xs = true → ∀ w' p, Mel w' w.heap.size p xs → Below w.heap.size w w' → Made w xs (.returned (.tuple #[.pointer p, .bool true])) w' := fun h w' p hm hb => made_yes h hm hb
  rcases h with rfl | ⟨g, off, rfl, hgs, hc⟩
  · have HY0 := Lib.hid (HY rfl w none rfl (Below.refl _ _))
    clear HN HY
    go_enter Tryd.func59, Tryd.ntmps59
    go_wp2
    go_rounds 1
    go_ret2
    exact HY0.out
  · unfold maxLen at hmax
    have hlen : xs.length ≤ 9223372036854775807 := by omega
    by_cases hl : 24 < xs.length
    · have HN0 := Lib.hid (HN (mv_long hl) w (Below.refl _ _))
      have hl' : (24 : Int) < (xs.length : Int) := by omega
      clear HN HY hc
      go_enter Tryd.func59, Tryd.ntmps59
      go_wp2
      go_ret2
      exact HN0.out
    have hl' : decide ((24 : Int) < (xs.length : Int)) = false := by simp; omega
    have HC := Lib.hid hc
    have HN' := Lib.hid HN
    have HY' := Lib.hid HY
    clear hc HN HY
    go_enter Tryd.func59, Tryd.ntmps59
    go_wp2
    go_loopw [4, 5] (fun m i wr => ∃ k : Nat, NmInv w wr xs k m i) (fun _ i _ => (intOf i + 1).toNat)
    case atStart => exact ⟨xs.length, none, rfl, rfl, Nat.le_refl _, by simp [allv], by simp [Mel], Below.refl _ _⟩
    case round =>
      obtain ⟨k, p, rfl, rfl, hk, ha, hm, hb⟩ := hrel
      by_cases hk0 : k = 0
      · subst hk0
        go_wp2
        go_ret2
        exact HY'.out (mv_all (by omega) (by simpa using ha)) _ _ (by simpa using hm) hb
      · obtain ⟨j, rfl⟩ : ∃ j, k = j + 1 := ⟨k - 1, by omega⟩
        obtain ⟨t, ht⟩ : ∃ t, xs[j]? = some t := ⟨xs[j], List.getElem?_eq_getElem (by omega)⟩
        rw [show (((j + 1 : Nat) : Int) - 1) = (j : Int) by omega]
        obtain ⟨e1, e2⟩ := HC.out j t ht
        have e1 := (hb.cell (p := ⟨g, off + j * 2, none⟩) hgs).trans e1
        have e2 := (hb.cell (p := ⟨g, off + j * 2 + 1, none⟩) hgs).trans e2
        obtain ⟨s, b⟩ := t
        have hj0 : (0 : Int) ≤ (j : Int) := by omega
        have hj1 : (j : Int) < (xs.length : Int) := by omega
        by_cases hv : vd s b = false
        · have HN2 := Lib.hid (HN'.out (mv_bad ht hv))
          go_wp2_with (fail)
          (go_at_call 72; refine (valid_any _ _ _).mono ?_; rintro e w1 ⟨rfl, hb1⟩)
          go_wp2
          go_ret2
          exact HN2.out _ (bl_step hb hb1)
        · rw [Bool.not_eq_false] at hv
          go_wp2_with (fail)
          (go_at_call 72; refine (valid_any _ _ _).mono ?_; rintro e w1 ⟨rfl, hb1⟩)
          have e3 := (hb1.cell (p := ⟨g, off + j * 2, none⟩) (Nat.lt_of_lt_of_le hgs hb.size)).trans e1
          have e4 := (hb1.cell (p := ⟨g, off + j * 2 + 1, none⟩) (Nat.lt_of_lt_of_le hgs hb.size)).trans e2
          have HX := Lib.hid (NmInv.next (w1 := w1) ht hv ha (hm.below hb1) (bl_step hb hb1))
          clear e1 e2 hm
          go_wp2
          go_roundw
          case rel => exact ⟨j, _, rfl, by go_num, by omega, HX.out.1, HX.out.2.1, HX.out.2.2⟩
          case measure => simp [intOf]
end Go.Proofs.YtmipkodgkldmbaaDoor
