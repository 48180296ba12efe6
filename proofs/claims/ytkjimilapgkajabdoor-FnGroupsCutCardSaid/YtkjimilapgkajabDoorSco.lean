/-
  The contour of a melody, in the model.
-/
import Derived.Test.YtkjimilapgkajabDoorMelV
import Derived.Deep.QuietTactic
import Derived.Deep.RegionWith
import Derived.Laws.Concat
import Derived.Laws.IdiomStrings
import Derived.IntWalk
namespace Go.Proofs.YtkjimilapgkajabDoor
open Go.RowKit
set_option maxRecDepth 100000
set_option linter.unusedVariables false

/-- the way from one step to another -/
def wyc (a b : Int) : UInt8 := if a < b then 117 else if b < a then 100 else 115
/-- the first k ways of a list -/
def ctw (xs : List (Int × Bool)) (k : Nat) : List UInt8 := (List.range k).map fun i => wyc (xs.getD i (0, false)).1 (xs.getD (i + 1) (0, false)).1
/-- the contour of a melody, none of what is none -/
def ctO (xs : List (Int × Bool)) : ByteArray := if mv xs = true then ⟨(ctw xs (xs.length - 1)).toArray⟩ else ⟨#[]⟩
theorem ctO_no {xs : List (Int × Bool)} (h : mv xs = false) : ctO xs = ⟨#[]⟩ := by simp [ctO, h]

theorem ctO_yes {xs : List (Int × Bool)} (h : mv xs = true) : ctO xs = ⟨(ctw xs (xs.length - 1)).toArray⟩ := by simp [ctO, h]

theorem ctw_len (xs : List (Int × Bool)) (k : Nat) : (ctw xs k).length = k := by simp [ctw]

theorem ctw_succ (xs : List (Int × Bool)) (k : Nat) : (⟨(ctw xs k).toArray⟩ : ByteArray) ++ ⟨#[wyc (xs.getD k (0, false)).1 (xs.getD (k + 1) (0, false)).1]⟩ = ⟨(ctw xs (k + 1)).toArray⟩ := by
  rw [ByteArray.mk_append_mk]
  unfold ctw
  rw [List.range_succ, List.map_append]
  simp

theorem l3Way_any (a b : Int) (w : World) : Calls Tryd.prog 114 #[.int .i64 a, .int .i64 b] w fun e w' => e = .returned (.string ⟨#[wyc a b]⟩) ∧ Below w.heap.size w w' := by
  by_cases h : a < b
  · have e : wyc a b = 117 := by simp [wyc, h]
    rw [e]
    clear e
    go_enter Tryd.func114, Tryd.ntmps114
    go_wp2
    go_ret
    exact ⟨rfl, Below.refl _ _⟩
  · have h1 : decide (a < b) = false := by simpa using h
    by_cases h2 : b < a
    · have e : wyc a b = 100 := by simp [wyc, h, h2]
      rw [e]
      clear e
      go_enter Tryd.func114, Tryd.ntmps114
      go_wp2
      go_ret
      exact ⟨rfl, Below.refl _ _⟩
    · have h3 : decide (b < a) = false := by simpa using h2
      have e : wyc a b = 115 := by simp [wyc, h, h2]
      rw [e]
      clear e
      go_enter Tryd.func114, Tryd.ntmps114
      go_wp2
      go_ret
      exact ⟨rfl, Below.refl _ _⟩

set_option maxHeartbeats 4000000 in
theorem l3Contour_any (lo hi : Nat) (v : Value) (xs : List (Int × Bool)) (w : World) (h : TRow w lo hi v xs) (hm : mv xs = true) :
    Calls Tryd.prog 73 #[v] w fun e w' => e = .returned (.string (ctO xs)) ∧ Below w.heap.size w w' := by
  rw [ctO_yes hm]
  have hlx : xs.length ≤ 24 := by simp [mv] at hm; exact hm.1
  clear hm
  rcases h.form with ⟨rfl, rfl⟩ | ⟨g, cap, rfl, hg, hg2, hgs, hcap, hmax, hc⟩
  · clear h
    go_enter Tryd.func73, Tryd.ntmps73
    go_wp2
    go_rounds 1
    go_ret
    exact ⟨rfl, Below.refl _ _⟩
  unfold maxLen at hmax
  have HC := Lib.hid hc
  clear h hc
  obtain ⟨L, hL⟩ : ∃ L, xs.length = L := ⟨_, rfl⟩
  rw [hL] at hcap hlx ⊢
  have HL := Lib.hid hL
  clear hL
  by_cases hL0 : L = 0
  · subst hL0
    go_enter Tryd.func73, Tryd.ntmps73
    go_wp2
    go_rounds 1
    go_ret
    exact ⟨rfl, Below.refl _ _⟩
  go_enter Tryd.func73, Tryd.ntmps73
  go_wp2
  go_loopw [3, 4] (fun o i wr => ∃ k : Nat, k ≤ L - 1 ∧ i = .int .i64 ((k : Int) + 1) ∧ o = .string ⟨(ctw xs k).toArray⟩ ∧ Below w.heap.size w wr) (fun _ i _ => L - (intOf i).toNat)
  case atStart => exact ⟨0, Nat.zero_le _, rfl, rfl, Below.refl _ _⟩
  case round =>
    obtain ⟨k, hk, rfl, rfl, hb⟩ := hrel
    by_cases hlt : k + 1 < L
    · have hk0 : k < xs.length := by rw [HL.out]; omega
      have hk1 : k + 1 < xs.length := by rw [HL.out]; omega
      have e1 := (hb.cell (p := ⟨g, k * 2, none⟩) hgs).trans (HC.out k _ (List.getElem?_eq_getElem hk0)).1
      have e2 := (hb.cell (p := ⟨g, (k + 1) * 2, none⟩) hgs).trans (HC.out (k + 1) _ (List.getElem?_eq_getElem hk1)).1
      have d1 : xs.getD k (0, false) = xs[k] := by rw [List.getD_eq_getElem?_getD, List.getElem?_eq_getElem hk0]; rfl
      have d2 : xs.getD (k + 1) (0, false) = xs[k + 1] := by rw [List.getD_eq_getElem?_getD, List.getElem?_eq_getElem hk1]; rfl
      rw [← d1] at e1
      rw [← d2] at e2
      have HX := Lib.hid (ctw_succ xs k)
      have hsz : (⟨(ctw xs k).toArray⟩ : ByteArray).size = k := by show (ctw xs k).toArray.size = k; rw [List.size_toArray, ctw_len]
      clear d1 d2
      generalize (xs.getD k (0, false)).1 = x at e1 HX
      generalize (xs.getD (k + 1) (0, false)).1 = y at e2 HX
      generalize (⟨(ctw xs k).toArray⟩ : ByteArray) = o at HX hsz ⊢
      have hadd : ∀ W : World, (Op.stringOp .add o ⟨#[wyc x y]⟩).run Tryd.prog W = .ok (.string (o ++ ⟨#[wyc x y]⟩)) W := fun W => run_string_add_sum W _ _ (by show o.size + 1 ≤ 9223372036854775807; omega)
      have k0 : (0 : Int) ≤ (k : Int) := by omega
      have k1 : (k : Int) < (L : Int) := by omega
      have k2 : (0 : Int) ≤ (k : Int) + 1 := by omega
      have k3 : (k : Int) + 1 < (L : Int) := by omega
      have k4 : IntKind.i64.wrap ((k : Int) + 1 - 1) = (k : Int) := by rw [show (k : Int) + 1 - 1 = (k : Int) by omega]; exact IntWalk.i64_in _ (by omega)
      have k5 : IntKind.i64.wrap (k : Int) = (k : Int) := IntWalk.i64_in _ (by omega)
      have k6 : ((k : Int) + 1).toNat = k + 1 := by omega
      have hsz2 := hb.size
      have KW := Lib.hid (fun W => l3Way_any x y W)
      go_wp2
      go_region_held3 (fun wx => wx.cell? ⟨g, k * 2, none⟩ = some (.int .i64 x) ∧ wx.cell? ⟨g, (k + 1) * 2, none⟩ = some (.int .i64 y)) (go_keep)
        (first | (go_at_call 114; refine (KW.out _).mono ?_; rintro e w2 ⟨rfl, hb2⟩; have f1 := (hb2.cell (p := ⟨g, k * 2, none⟩) (Nat.lt_of_lt_of_le hgs hsz2)).trans e1; have f2 := (hb2.cell (p := ⟨g, (k + 1) * 2, none⟩) (Nat.lt_of_lt_of_le hgs hsz2)).trans e2))
      all_goals
        go_wp2
        go_roundw
        case rel => exact ⟨k + 1, by omega, by go_num, by first | rw [HX.out] | (rw [← HX.out]), bl_step hb.drew hb2⟩
        case measure => simp [intOf]; omega
    · have hke : k = L - 1 := by omega
      have k3 : ¬ (k : Int) + 1 < (L : Int) := by omega
      have k3' : (L : Int) ≤ (k : Int) + 1 := by omega
      subst hke
      go_wp2
      go_ret
      exact ⟨rfl, hb⟩

theorem sContourOf_any (lo hi : Nat) (v : Value) (xs : List (Int × Bool)) (w : World) (h : TRow w lo hi v xs) :
    Calls Tryd.prog 27 #[v] w fun e w' => e = .returned (.string (ctO xs)) ∧ Below w.heap.size w w' := by
  by_cases hv : mv xs = false
  · rw [ctO_no hv]
    go_enter Tryd.func27, Tryd.ntmps27
    go_wp2_with (fail)
    (go_at_call 58; refine (sMelodyValid_any lo hi v xs _ h).mono ?_; rintro e w1 ⟨rfl, hb1⟩)
    rw [hv]
    clear h
    go_wp2
    go_ret
    exact ⟨rfl, hb1⟩
  rw [Bool.not_eq_false] at hv
  have KC := Lib.hid (fun W h => l3Contour_any lo hi v xs W h hv)
  go_enter Tryd.func27, Tryd.ntmps27
  go_wp2_with (fail)
  (go_at_call 58; refine (sMelodyValid_any lo hi v xs _ h).mono ?_; rintro e w1 ⟨rfl, hb1⟩)
  have HT := Lib.hid (h.below hb1 (.inr (Nat.le_refl _)))
  rw [hv]
  clear h hv
  go_wp2_with (fail)
  (go_at_call 73; refine (KC.out _ HT.out).mono ?_; rintro e w2 ⟨rfl, hb2⟩)
  go_wp2
  go_ret
  exact ⟨rfl, bl_step hb1 hb2⟩
end Go.Proofs.YtkjimilapgkajabDoor
