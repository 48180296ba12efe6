/-
  What are formulas, in both programs.
-/
import Derived.Test.YtjhigjbfnemdjaaFv
import Derived.Deep.RegionWith
import Derived.Deep.RegionHeld3
namespace Go.Proofs.Ytjhigjbfnemdjaa
open Go.RowKit
set_option maxRecDepth 100000
set_option linter.unusedVariables false

theorem ArgF.take {w : World} {a : Option Addr} {fs : List Fm} (h : ArgF w a fs) (k : Nat) : ArgF w a (fs.take k) := by
  rcases h with rfl | ⟨A, off, e, hA, hc⟩
  · exact .inl (by simp)
  · refine .inr ⟨A, off, e, hA, fun i f hf => hc i f ?_⟩
    rw [List.getElem?_take] at hf
    split at hf
    · exact hf
    · cases hf
theorem dup_zero (fs : List Fm) (xs : List Int) : dup fs 0 xs = false := by simp [dup]
theorem dup_step {fs : List Fm} {j : Nat} {g : Fm} {xs : List Int} (hg : fs[j]? = some g) (h0 : dup fs j xs = false) (h : ieq g.1 xs = false) : dup fs (j + 1) xs = false := by
  rw [dup_succ hg, h0]
  unfold ieq at h
  simpa using h
theorem dup_hit {fs : List Fm} {j n : Nat} {g : Fm} {xs : List Int} (hg : fs[j]? = some g) (hj : j < n) (h : ieq g.1 xs = true) : dup fs n xs = true := by
  refine dup_yes hg hj ?_
  unfold ieq at h
  simpa using h
theorem ieq_symm (xs ys : List Int) : ieq xs ys = ieq ys xs := by
  unfold ieq
  by_cases h : xs = ys
  · subst h; rfl
  · rw [decide_eq_false h, decide_eq_false (fun e => h e.symm)]

set_option maxHeartbeats 4000000 in
theorem sFormulasValid_any (v : Value) (fs : List Fm) (w : World) (h : FV w v fs) :
    Calls Try.prog 47 #[v] w fun e w' => e = .returned (.bool (fv fs)) ∧ Below w.heap.size w w' := by
  obtain ⟨a, c, rfl, ha, hc1, hc2⟩ := h
  unfold maxLen at hc2
  have HA := Lib.hid ha
  clear ha
  go_enter Try.func47, Try.ntmps47
  go_wp2
  go_loopw [3] (fun i wr => ∃ k : Nat, k ≤ fs.length ∧ i = .int .i64 k ∧ fvTo fs k = true ∧ Below w.heap.size w wr) (fun i _ => fs.length - (intOf i).toNat)
  case atStart => exact ⟨0, Nat.zero_le _, rfl, rfl, Below.refl _ _⟩
  case round =>
    obtain ⟨k, hk, rfl, hq, hb⟩ := hrel
    have HQ := Lib.hid hq
    clear hq
    by_cases hlt : k < fs.length
    · obtain ⟨xs, wt, hx⟩ := fs_get hlt
      have HX := Lib.hid hx
      clear hx
      rcases HA.out with h | ⟨A, off, rfl, hA, hc⟩
      · subst h; simp at hlt
      have HC := Lib.hid hc
      clear hc
      obtain ⟨u, e1, hu, e2⟩ := HC.out k _ HX.out
      have HU := Lib.hid hu
      clear hu
      have f1 := (hb.cell (p := ⟨A, off + k * 2, none⟩) hA).trans e1
      have f2 := (hb.cell (p := ⟨A, off + k * 2 + 1, none⟩) hA).trans e2
      have hk0 : (0 : Int) ≤ (k : Int) := by omega
      have hk1 : (k : Int) < (fs.length : Int) := by omega
      by_cases hfo : fo (xs, wt) = true
      · have HO := Lib.hid (l6fOne_any u xs wt wr (HU.out.below hb))
        rw [hfo] at HO
        have HFO := Lib.hid hfo
        clear hfo
        go_wp2_with (fail)
        (go_at_call 71; refine HO.out.mono ?_; rintro e w1 ⟨rfl, hb1⟩)
        have hb1 := bl_step hb hb1
        go_wp2
        go_loopw [4] (fun j wr' => ∃ q : Nat, q ≤ k ∧ j = .int .i64 q ∧ dup fs q xs = false ∧ Below w.heap.size w wr') (fun j _ => k - (intOf j).toNat)
        case atStart => exact ⟨0, Nat.zero_le _, rfl, dup_zero _ _, hb1⟩
        case round =>
          rename_i wz
          obtain ⟨q, hqk, rfl, hdq, hbz⟩ := hrel
          have HD := Lib.hid hdq
          clear hdq
          by_cases hql : q < k
          · obtain ⟨ys, wt2, hy⟩ := fs_get (show q < fs.length by omega)
            have HY := Lib.hid hy
            clear hy
            obtain ⟨u2, d1, hu2, d2⟩ := HC.out q _ HY.out
            have HU2 := Lib.hid hu2
            clear hu2
            have g1 := (hbz.cell (p := ⟨A, off + k * 2, none⟩) hA).trans e1
            have g2 := (hbz.cell (p := ⟨A, off + q * 2, none⟩) hA).trans d1
            have hq0 : (0 : Int) ≤ (q : Int) := by omega
            have hq1 : (q : Int) < (k : Int) := by omega
            have hq2 : (q : Int) < (fs.length : Int) := by omega
            have HS := Lib.hid (fun w' (hb' : Below w.heap.size w w') => l2SameV_any u u2 xs ys w' (HU.out.below hb') (HU2.out.below hb'))
            clear d2
            by_cases he : ieq xs ys = true
            · rw [he] at HS
              have HE := Lib.hid (fv_bad_dup HX.out (dup_hit HY.out hql (by rw [ieq_symm]; exact he)))
              clear he
              go_wp2
              go_region_with (go_at_call 66; refine (HS.out _ (by (repeat' (first | (with_reducible assumption) | (with_reducible exact Below.refl _ _) | (with_reducible refine Below.alloc ?_ ?_ _) | (with_reducible refine Below.drew ?_) | (with_reducible refine bl_drewN ?_ _) | (with_reducible refine Below.setCell ?_ ?_ _) | (with_reducible refine bl_step ?_ (by assumption)) | go_size)))).mono ?_; rintro e w2 ⟨rfl, hb2⟩)
              all_goals
                go_wp2
                go_ret
                exact ⟨by rw [HE.out]; rfl, bl_step hbz.drew hb2⟩
            · rw [Bool.not_eq_true] at he
              rw [he] at HS
              have HE := Lib.hid (dup_step HY.out HD.out (by rw [ieq_symm]; exact he))
              clear he
              go_wp2
              go_region_with (go_at_call 66; refine (HS.out _ (by (repeat' (first | (with_reducible assumption) | (with_reducible exact Below.refl _ _) | (with_reducible refine Below.alloc ?_ ?_ _) | (with_reducible refine Below.drew ?_) | (with_reducible refine bl_drewN ?_ _) | (with_reducible refine Below.setCell ?_ ?_ _) | (with_reducible refine bl_step ?_ (by assumption)) | go_size)))).mono ?_; rintro e w2 ⟨rfl, hb2⟩)
              all_goals
                go_wp2
                go_roundw
                case rel => exact ⟨q + 1, by omega, by go_num, HE.out, bl_step hbz.drew hb2⟩
                case measure => simp [intOf]; omega
          · have hqk2 : q = k := by omega
            subst hqk2
            have HN := Lib.hid (fvTo_next HQ.out HX.out HFO.out HD.out)
            go_wp2
            go_roundw
            case rel => exact ⟨q + 1, by omega, by go_num, HN.out, hbz⟩
            case measure => simp [intOf]; omega
      · rw [Bool.not_eq_true] at hfo
        have HO := Lib.hid (l6fOne_any u xs wt wr (HU.out.below hb))
        rw [hfo] at HO
        have HE := Lib.hid (fv_bad_fo HX.out hfo)
        clear hfo
        go_wp2_with (fail)
        (go_at_call 71; refine HO.out.mono ?_; rintro e w1 ⟨rfl, hb1⟩)
        have hb1 := bl_step hb hb1
        go_wp2
        go_ret
        exact ⟨by rw [HE.out]; rfl, hb1⟩
    · have hkn : k = fs.length := by omega
      subst hkn
      have HE := Lib.hid (fv_end HQ.out)
      have t1 : decide ((fs.length : Int) ≤ 8) = decide (fs.length ≤ 8) := by simp; omega
      go_wp2
      go_ret
      exact ⟨by rw [HE.out]; rfl, hb⟩
end Go.Proofs.Ytjhigjbfnemdjaa
