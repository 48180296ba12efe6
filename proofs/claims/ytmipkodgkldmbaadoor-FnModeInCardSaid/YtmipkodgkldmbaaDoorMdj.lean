/-
  What the program tells of a mode: its final, its tenor, its range, the other mode with the final.
-/
import Derived.Test.YtmipkodgkldmbaaDoorMdi
namespace Go.Proofs.YtmipkodgkldmbaaDoor
open Go.RowKit
set_option maxRecDepth 100000
set_option linter.unusedVariables false

set_option maxHeartbeats 1000000 in
theorem modeFinal_any (k : Int) (w : World) (ht : TenTab w) :
    Calls Tryd.prog 20 #[.int .i64 k] w fun e w' => e = .returned (.int .i64 (mdF k)) ∧ Below w.heap.size w w' := by
  have HT := Lib.hid ht
  clear ht
  by_cases h : mdv k = false
  · rw [(md_no h).1]
    go_enter Tryd.func20, Tryd.ntmps20
    go_wp2_with (fail)
    (go_at_call 49; refine (newMode_any k _ HT.out).mono ?_; rintro e w1 ⟨rfl, hb1⟩)
    rw [h]
    go_wp2
    go_ret
    exact ⟨rfl, by have := hb1.size; (repeat' (first | (with_reducible assumption) | (with_reducible exact Below.refl _ _) | (with_reducible refine Below.alloc ?_ ?_ _) | (with_reducible refine Below.drew ?_) | (with_reducible refine bl_drewN ?_ _) | (with_reducible refine Below.setCell ?_ ?_ _) | (with_reducible refine bl_step ?_ (by assumption)) | go_size))⟩
  rw [Bool.not_eq_false] at h
  have e := (md_yes h).1
  go_enter Tryd.func20, Tryd.ntmps20
  go_wp2_with (fail)
  (go_at_call 49; refine (newMode_any k _ HT.out).mono ?_; rintro e w1 ⟨rfl, hb1⟩)
  rw [h, e]
  clear e
  go_wp2
  go_ret
  exact ⟨rfl, by have := hb1.size; (repeat' (first | (with_reducible assumption) | (with_reducible exact Below.refl _ _) | (with_reducible refine Below.alloc ?_ ?_ _) | (with_reducible refine Below.drew ?_) | (with_reducible refine bl_drewN ?_ _) | (with_reducible refine Below.setCell ?_ ?_ _) | (with_reducible refine bl_step ?_ (by assumption)) | go_size))⟩

set_option maxHeartbeats 1000000 in
theorem modeTenor_any (k : Int) (w : World) (ht : TenTab w) :
    Calls Tryd.prog 21 #[.int .i64 k] w fun e w' => e = .returned (.int .i64 (mdT k)) ∧ Below w.heap.size w w' := by
  have HT := Lib.hid ht
  clear ht
  by_cases h : mdv k = false
  · rw [(md_no h).2.1]
    go_enter Tryd.func21, Tryd.ntmps21
    go_wp2_with (fail)
    (go_at_call 49; refine (newMode_any k _ HT.out).mono ?_; rintro e w1 ⟨rfl, hb1⟩)
    rw [h]
    go_wp2
    go_ret
    exact ⟨rfl, by have := hb1.size; (repeat' (first | (with_reducible assumption) | (with_reducible exact Below.refl _ _) | (with_reducible refine Below.alloc ?_ ?_ _) | (with_reducible refine Below.drew ?_) | (with_reducible refine bl_drewN ?_ _) | (with_reducible refine Below.setCell ?_ ?_ _) | (with_reducible refine bl_step ?_ (by assumption)) | go_size))⟩
  rw [Bool.not_eq_false] at h
  have e := (md_yes h).2
  go_enter Tryd.func21, Tryd.ntmps21
  go_wp2_with (fail)
  (go_at_call 49; refine (newMode_any k _ HT.out).mono ?_; rintro e w1 ⟨rfl, hb1⟩)
  rw [h, e]
  clear e
  go_wp2
  go_ret
  exact ⟨rfl, by have := hb1.size; (repeat' (first | (with_reducible assumption) | (with_reducible exact Below.refl _ _) | (with_reducible refine Below.alloc ?_ ?_ _) | (with_reducible refine Below.drew ?_) | (with_reducible refine bl_drewN ?_ _) | (with_reducible refine Below.setCell ?_ ?_ _) | (with_reducible refine bl_step ?_ (by assumption)) | go_size))⟩

set_option maxHeartbeats 1000000 in
theorem modeRange_any (k : Int) (w : World) (ht : TenTab w) :
    Calls Tryd.prog 17 #[.int .i64 k] w fun e w' => e = .returned (.tuple #[.int .i64 (mdL k), .int .i64 (mdH k), .bool (mdv k)]) ∧ Below w.heap.size w w' := by
  have HT := Lib.hid ht
  clear ht
  go_enter Tryd.func17, Tryd.ntmps17
  go_wp2_with (fail)
  (go_at_call 49; refine (newMode_any k _ HT.out).mono ?_; rintro e w1 ⟨rfl, hb1⟩)
  have z1 := hb1.size
  go_wp2
  go_quiet (fail)
  go_wp2
  go_ret3
  exact ⟨rfl, by first | (exact bl_drewN' (by (repeat' (first | (with_reducible assumption) | (with_reducible exact Below.refl _ _) | (with_reducible refine Below.alloc ?_ ?_ _) | (with_reducible refine Below.drew ?_) | (with_reducible refine bl_drewN ?_ _) | (with_reducible refine Below.setCell ?_ ?_ _) | (with_reducible refine bl_step ?_ (by assumption)) | go_size))) _) | (repeat' (first | (with_reducible assumption) | (with_reducible exact Below.refl _ _) | (with_reducible refine Below.alloc ?_ ?_ _) | (with_reducible refine Below.drew ?_) | (with_reducible refine bl_drewN ?_ _) | (with_reducible refine Below.setCell ?_ ?_ _) | (with_reducible refine bl_step ?_ (by assumption)) | go_size))⟩

/-- no mode below j is another one with the final -/
def NoP (k : Int) (j : Nat) : Prop := ∀ i : Nat, 1 ≤ i → i < j → (i : Int) = k ∨ mdF i ≠ mdF k
theorem noP_end {k : Int} (h : NoP k 9) : mdP k = -1 := by
  cases hv : mdv k
  · exact (md_no hv).2.2.2.2.2.2
  · exfalso
    obtain ⟨_, _, _, _, _, e, n, v⟩ := md_in hv
    obtain ⟨a, b⟩ := mdv_in v
    rcases h (mdP k).toNat (by omega) (by omega) with g | g
    · exact n (by omega)
    · rw [show ((mdP k).toNat : Int) = mdP k by omega] at g
      exact g e
theorem noP_next {k : Int} {j : Nat} (h : NoP k j) (g : (j : Int) = k ∨ mdF j ≠ mdF k) : NoP k (j + 1) := fun i h1 h2 => by
  by_cases e : i = j
  · subst e; exact g
  · exact h i h1 (by omega)
theorem noP_hit {k : Int} {j : Nat} (h1 : 1 ≤ j) (h8 : j ≤ 8) (hn : (j : Int) ≠ k) (e : mdF j = mdF k) : mdP k = j := by
  have hj : mdv (j : Int) = true := mdv_yes (by omega) (by omega)
  cases hv : mdv k
  · exfalso
    have a := (md_no hv).1
    have b := (md_in hj).1
    omega
  · exact mdP_least hv hj hn e

set_option maxHeartbeats 2000000 in
theorem modePair_any (k : Int) (w : World) (ht : TenTab w) :
    Calls Tryd.prog 19 #[.int .i64 k] w fun e w' => e = .returned (.int .i64 (mdP k)) ∧ Below w.heap.size w w' := by
  have HT := Lib.hid ht
  clear ht
  go_enter Tryd.func19, Tryd.ntmps19
  go_wp2
  go_loopw [3] (fun i wr => ∃ j : Nat, 1 ≤ j ∧ j ≤ 9 ∧ i = .int .i64 j ∧ NoP k j ∧ Below w.heap.size w wr) (fun i _ => 9 - (intOf i).toNat)
  case atStart => exact ⟨1, by omega, by omega, rfl, fun i h1 h2 => by omega, Below.refl _ _⟩
  case round =>
    obtain ⟨j, h1, h9, rfl, hno, hb⟩ := hrel
    have HN := Lib.hid hno
    clear hno
    by_cases hlt : j ≤ 8
    · have hl : (j : Int) ≤ 8 := by omega
      by_cases he : (j : Int) = k
      · have hq : ((j : Int) != k) = false := by simpa using he
        have HX := Lib.hid (noP_next HN.out (.inl he))
        clear he
        go_wp2
        go_roundw
        case rel => exact ⟨j + 1, by omega, by omega, by go_num, HX.out, hb⟩
        case measure => simp [intOf]; omega
      · have hq : ((j : Int) != k) = true := by simpa using he
        have HE := Lib.hid he
        clear he
        go_wp2_with (fail)
        (go_at_call 20; refine (modeFinal_any (j : Int) _ (HT.out.below hb)).mono ?_; rintro e w1 ⟨rfl, hb1⟩)
        have hb1' := bl_step hb hb1
        go_wp2_with (fail)
        (go_at_call 20; refine (modeFinal_any k _ (HT.out.below hb1')).mono ?_; rintro e w2 ⟨rfl, hb2⟩)
        have hb2' := bl_step hb1' hb2
        by_cases hf : mdF (j : Int) = mdF k
        · have hg : (mdF (j : Int) == mdF k) = true := by simpa using hf
          have HR := Lib.hid (noP_hit h1 hlt HE.out hf)
          clear hf
          go_wp2
          go_ret
          exact ⟨by rw [HR.out]; first | done | rfl, hb2'⟩
        · have hg : (mdF (j : Int) == mdF k) = false := by simpa using hf
          have HX := Lib.hid (noP_next HN.out (.inr hf))
          clear hf
          go_wp2
          go_roundw
          case rel => exact ⟨j + 1, by omega, by omega, by go_num, HX.out, hb2'⟩
          case measure => simp [intOf]; omega
    · have hj : j = 9 := by omega
      subst hj
      have HR := Lib.hid (noP_end HN.out)
      go_wp2
      go_ret
      exact ⟨by rw [HR.out]; first | done | rfl, hb⟩
end Go.Proofs.YtmipkodgkldmbaaDoor
