/-
  The mutations of a list that sings a melody, in both programs.
-/
import Derived.Test.YthnofdkkocpjhaaDoorSing4
namespace Go.Proofs.YthnofdkkocpjhaaDoor
open Go.RowKit
set_option maxRecDepth 100000
set_option linter.unusedVariables false

theorem bl_drewN5 {B : Nat} {a w : World} (h : Below B a w) (n : Nat) : Below B a (w.drewN n) := ⟨h.os, h.tape, h.output, h.size, h.block⟩
/-- the mutations among the first k + 1 steps -/
def mutTo (zs : List Int) (k : Nat) : Int := ((List.range k).filter fun i => zs.getD (i + 1) 0 != zs.getD i 0).length
def smu (xs : List (Int × Bool)) (zs : List Int) : Int := if sok xs zs then mutTo zs (zs.length - 1) else -1
theorem smu_no {xs : List (Int × Bool)} {zs : List Int} (h : sok xs zs = false) : smu xs zs = -1 := by simp [smu, h]
theorem smu_yes {xs : List (Int × Bool)} {zs : List Int} (h : sok xs zs = true) : smu xs zs = mutTo zs (zs.length - 1) := by simp [smu, h]
theorem mutTo_hit {zs : List Int} {k : Nat} (h : (zs.getD (k + 1) 0 != zs.getD k 0) = true) : mutTo zs (k + 1) = mutTo zs k + 1 := by
  unfold mutTo; rw [List.range_succ, List.filter_append]; simp at h; simp [h]
theorem mutTo_miss {zs : List Int} {k : Nat} (h : (zs.getD (k + 1) 0 != zs.getD k 0) = false) : mutTo zs (k + 1) = mutTo zs k := by
  unfold mutTo; rw [List.range_succ, List.filter_append]; simp at h; simp [h]
theorem mutTo_bd (zs : List Int) (k : Nat) : 0 ≤ mutTo zs k ∧ mutTo zs k ≤ k := by
  have := List.length_filter_le (fun i => zs.getD (i + 1) 0 != zs.getD i 0) (List.range k)
  simp only [List.length_range] at this
  unfold mutTo
  omega
theorem sok_len {xs : List (Int × Bool)} {zs : List Int} (h : sok xs zs = true) : zs.length ≤ 24 := by
  simp [sok, mv] at h; omega

set_option maxHeartbeats 4000000 in
theorem singMutations_any (lo hi lo' hi' : Nat) (v u : Value) (xs : List (Int × Bool)) (zs : List Int) (w : World) (h : TRow w lo hi v xs) (k : IRow w lo' hi' u zs) :
    Calls Tryd.prog 12 #[v, u] w fun e w' => e = .returned (.int .i64 (smu xs zs)) ∧ Below w.heap.size w w' := by
  by_cases hv : sok xs zs = false
  · rw [smu_no hv]
    go_enter Tryd.func12, Tryd.ntmps12
    go_wp2_with (fail)
    (go_at_call 16; refine (singOk_any _ _ _ _ v u xs zs _ h k).mono ?_; rintro e w1 ⟨rfl, hb1⟩)
    clear h k
    go_wp2
    go_ret
    exact ⟨rfl, hb1⟩
  rw [Bool.not_eq_false] at hv
  rw [smu_yes hv]
  have hl := sok_len hv
  rcases k.form with ⟨rfl, rfl⟩ | ⟨g', cap', cur, rfl, _, _, hgs', hcap', hmax', _, _, _, hc', _⟩
  · go_enter Tryd.func12, Tryd.ntmps12
    go_wp2_with (fail)
    (go_at_call 16; refine (singOk_any _ _ _ _ v _ xs [] _ h k).mono ?_; rintro e w1 ⟨rfl, hb1⟩)
    clear h k
    go_wp2
    go_rounds 1
    go_ret
    exact ⟨rfl, hb1⟩
  have HC' := Lib.hid hc'
  clear hc' hmax'
  go_enter Tryd.func12, Tryd.ntmps12
  go_wp2_with (fail)
  (go_at_call 16; refine (singOk_any _ _ _ _ v _ xs zs _ h k).mono ?_; rintro e w1 ⟨rfl, hb1⟩)
  clear h k
  go_wp2
  clear hv
  go_loopw [5, 6] (fun n i wr => ∃ k : Nat, k ≤ zs.length - 1 ∧ i = .int .i64 ((k : Int) + 1) ∧ n = .int .i64 (mutTo zs k) ∧ Below w.heap.size w wr) (fun _ i _ => zs.length - (intOf i).toNat)
  case atStart => exact ⟨0, Nat.zero_le _, rfl, by simp [mutTo], hb1⟩
  case round =>
    obtain ⟨k, hk, rfl, rfl, hb⟩ := hrel
    by_cases hlt : k + 1 < zs.length
    · have e0 := (hb.cell (p := ⟨g', k, none⟩) hgs').trans (HC'.out k (by omega))
      have e1 := (hb.cell (p := ⟨g', k + 1, none⟩) hgs').trans (HC'.out (k + 1) hlt)
      obtain ⟨m0, m1⟩ := mutTo_bd zs k
      have hk0 : (0 : Int) ≤ (k : Int) := by omega
      have hk1 : (k : Int) + 1 < (zs.length : Int) := by omega
      have hk2 : (0 : Int) ≤ (k : Int) + 1 := by omega
      have hk3 : (k : Int) < (zs.length : Int) := by omega
      have s1w : IntKind.i64.wrap ((k : Int) + 1 - 1) = (k : Int) := by rw [show (k : Int) + 1 - 1 = (k : Int) by omega]; exact IntWalk.i64_in _ (by omega)
      have s4w : IntKind.i64.wrap (k : Int) = (k : Int) := IntWalk.i64_in _ (by omega)
      have s3w : ((k : Int) + 1).toNat = k + 1 := by omega
      by_cases hm : (zs.getD (k + 1) 0 != zs.getD k 0) = true
      · have HX := Lib.hid (mutTo_hit hm)
        generalize zs.getD (k + 1) 0 = y at e1 hm
        generalize zs.getD k 0 = x at e0 hm
        generalize mutTo zs k = n at m0 m1 HX
        go_wp2
        go_quiet (fail)
        go_wp2
        go_roundw
        case rel => exact ⟨k + 1, by omega, by go_num, by rw [HX.out], bl_drewN5 hb _⟩
        case measure => simp [intOf]; omega
      · rw [Bool.not_eq_true] at hm
        have HX := Lib.hid (mutTo_miss hm)
        generalize zs.getD (k + 1) 0 = y at e1 hm
        generalize zs.getD k 0 = x at e0 hm
        generalize mutTo zs k = n at m0 m1 HX
        go_wp2
        go_quiet (fail)
        go_wp2
        go_roundw
        case rel => exact ⟨k + 1, by omega, by go_num, by rw [HX.out], bl_drewN5 hb _⟩
        case measure => simp [intOf]; omega
    · have hk1 : (zs.length : Int) ≤ (k : Int) + 1 := by omega
      have HE : Hid (k = zs.length - 1) := (by omega : k = zs.length - 1)
      go_wp2
      go_ret
      exact ⟨by rw [← HE.out]; rfl, hb⟩
end Go.Proofs.YthnofdkkocpjhaaDoor
