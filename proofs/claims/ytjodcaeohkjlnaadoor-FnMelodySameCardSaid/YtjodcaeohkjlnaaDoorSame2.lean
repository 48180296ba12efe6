/-
  MelodySame in the model.
-/
import Derived.Test.YtjodcaeohkjlnaaDoorSame
namespace Go.Proofs.YtjodcaeohkjlnaaDoor
open Go.RowKit
set_option maxRecDepth 100000
set_option linter.unusedVariables false

set_option maxHeartbeats 4000000 in
theorem sMelodySame_any (lo hi lo' hi' : Nat) (v u : Value) (xs ys : List (Int × Bool)) (w : World) (h : TRow w lo hi v xs) (k : TRow w lo' hi' u ys) (hhi : hi ≤ w.heap.size) (hhi' : hi' ≤ w.heap.size) :
    Calls Tryd.prog 62 #[v, u] w fun e w' => e = .returned (.bool (msame xs ys)) ∧ Below w.heap.size w w' := by
  obtain ⟨va, vc, rfl⟩ := trow_len h
  obtain ⟨ua, uc, rfl⟩ := trow_len k
  by_cases h1 : mv xs = false
  · have HE := Lib.hid (msame_1 (ys := ys) h1)
    go_enter Tryd.func62, Tryd.ntmps62
    go_wp2_with (fail)
    (go_at_call 105; refine (sMelodyValid_any lo hi _ xs _ h).mono ?_; rintro e w1 ⟨rfl, hb1⟩)
    clear h k
    go_wp2
    go_ret
    exact ⟨by rw [HE.out]; rfl, hb1⟩
  rw [Bool.not_eq_false] at h1
  by_cases h2 : mv ys = false
  · have HE := Lib.hid (msame_2 (xs := xs) h2)
    go_enter Tryd.func62, Tryd.ntmps62
    go_wp2_with (fail)
    (go_at_call 105; refine (sMelodyValid_any lo hi _ xs _ h).mono ?_; rintro e w1 ⟨rfl, hb1⟩)
    have k1 := k.below hb1 (.inl hhi')
    clear h k
    go_wp2_with (fail)
    (go_at_call 105; refine (sMelodyValid_any lo' hi' _ ys _ k1).mono ?_; rintro e w2 ⟨rfl, hb2⟩)
    clear k1
    go_wp2
    go_ret
    exact ⟨by rw [HE.out]; rfl, bl_step hb1 hb2⟩
  rw [Bool.not_eq_false] at h2
  by_cases h3 : xs.length = ys.length
  case neg =>
    have HE := Lib.hid (msame_3 h3)
    have hl' : ((xs.length : Int) == (ys.length : Int)) = false := by simp; omega
    clear h3
    go_enter Tryd.func62, Tryd.ntmps62
    go_wp2_with (fail)
    (go_at_call 105; refine (sMelodyValid_any lo hi _ xs _ h).mono ?_; rintro e w1 ⟨rfl, hb1⟩)
    have k1 := k.below hb1 (.inl hhi')
    clear h k
    go_wp2_with (fail)
    (go_at_call 105; refine (sMelodyValid_any lo' hi' _ ys _ k1).mono ?_; rintro e w2 ⟨rfl, hb2⟩)
    clear k1
    go_wp2
    go_ret
    exact ⟨by rw [HE.out]; rfl, bl_step hb1 hb2⟩
  have hl' : ((xs.length : Int) == (ys.length : Int)) = true := by simp; omega
  have H4 := Lib.hid (fun h => msame_4 (xs := xs) (ys := ys) h)
  have H5 := Lib.hid (fun h => msame_5 h1 h2 h3 h)
  clear h3
  go_enter Tryd.func62, Tryd.ntmps62
  go_wp2_with (fail)
  (go_at_call 105; refine (sMelodyValid_any lo hi _ xs _ h).mono ?_; rintro e w1 ⟨rfl, hb1⟩)
  have HH := Lib.hid h
  have HK := Lib.hid k
  have k1 := k.below hb1 (.inl hhi')
  clear h k
  go_wp2_with (fail)
  (go_at_call 105; refine (sMelodyValid_any lo' hi' _ ys _ k1).mono ?_; rintro e w2 ⟨rfl, hb2⟩)
  have hbw2 := bl_step hb1 hb2
  have r2 := HH.out.below hbw2 (.inl hhi)
  clear k1
  go_wp2_with (fail)
  (go_at_call 122; refine (sMelodySemis_any _ _ _ xs _ r2).mono ?_; rintro e w3 ⟨x1, rfl, hx1, hb3⟩)
  have hbw3 := bl_step hbw2 hb3
  have r3 := HK.out.below hbw3 (.inl hhi')
  clear r2
  go_wp2_with (fail)
  (go_at_call 122; refine (sMelodySemis_any _ _ _ ys _ r3).mono ?_; rintro e w4 ⟨x2, rfl, hx2, hb4⟩)
  have hbw4 := bl_step hbw3 hb4
  have hx1 := hx1.below hb4 (.inl (Nat.le_refl _))
  clear r3
  by_cases h4 : ieq (semisOf xs) (semisOf ys) = false
  · have HE := Lib.hid (H4.out h4)
    go_wp2_with (fail)
    (go_at_call 121; refine (l2Same_any _ _ _ _ _ _ (semisOf xs) (semisOf ys) _ hx1 hx2).mono ?_; rintro e w5 ⟨rfl, hb5⟩)
    clear hx1 hx2
    go_wp2
    go_ret
    exact ⟨by rw [HE.out]; rfl, bl_step hbw4 hb5⟩
  rw [Bool.not_eq_false] at h4
  have HE := Lib.hid (H5.out h4)
  go_wp2_with (fail)
  (go_at_call 121; refine (l2Same_any _ _ _ _ _ _ (semisOf xs) (semisOf ys) _ hx1 hx2).mono ?_; rintro e w5 ⟨rfl, hb5⟩)
  have hbw5 := bl_step hbw4 hb5
  have r5 := HH.out.below hbw5 (.inl hhi)
  clear hx1 hx2
  go_wp2_with (fail)
  (go_at_call 123; refine (sMelodySteps_any _ _ _ xs _ r5).mono ?_; rintro e w6 ⟨x3, rfl, hx3, hb6⟩)
  have hbw6 := bl_step hbw5 hb6
  have r6 := HK.out.below hbw6 (.inl hhi')
  clear r5
  go_wp2_with (fail)
  (go_at_call 123; refine (sMelodySteps_any _ _ _ ys _ r6).mono ?_; rintro e w7 ⟨x4, rfl, hx4, hb7⟩)
  have hbw7 := bl_step hbw6 hb7
  have hx3 := hx3.below hb7 (.inl (Nat.le_refl _))
  clear r6
  go_wp2_with (fail)
  (go_at_call 121; refine (l2Same_any _ _ _ _ _ _ (stepsOf xs) (stepsOf ys) _ hx3 hx4).mono ?_; rintro e w8 ⟨rfl, hb8⟩)
  clear hx3 hx4
  go_wp2
  go_ret
  exact ⟨by rw [HE.out]; rfl, bl_step hbw7 hb8⟩
end Go.Proofs.YtjodcaeohkjlnaaDoor
