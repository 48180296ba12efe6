/-
  MelodySame in both programs.
-/
import Derived.Test.YtjodcaeohkjlnaaDoorMelS3
import Derived.Test.YtjodcaeohkjlnaaDoorMelS2
import Derived.Test.YtjodcaeohkjlnaaDoorEqI
import Derived.Test.YtjodcaeohkjlnaaDoorMelV
namespace Go.Proofs.YtjodcaeohkjlnaaDoor
open Go.RowKit
set_option maxRecDepth 100000
set_option linter.unusedVariables false

def msame (xs ys : List (Int × Bool)) : Bool := mv xs && mv ys && decide (xs.length = ys.length) && ieq (semisOf xs) (semisOf ys) && ieq (stepsOf xs) (stepsOf ys)
theorem msame_1 {xs ys : List (Int × Bool)} (h : mv xs = false) : msame xs ys = false := by simp [msame, h]
theorem msame_2 {xs ys : List (Int × Bool)} (h : mv ys = false) : msame xs ys = false := by simp [msame, h]
theorem msame_3 {xs ys : List (Int × Bool)} (h : xs.length ≠ ys.length) : msame xs ys = false := by simp [msame, h]
theorem msame_4 {xs ys : List (Int × Bool)} (h : ieq (semisOf xs) (semisOf ys) = false) : msame xs ys = false := by simp [msame, h]
theorem msame_5 {xs ys : List (Int × Bool)} (h1 : mv xs = true) (h2 : mv ys = true) (h3 : xs.length = ys.length) (h4 : ieq (semisOf xs) (semisOf ys) = true) : msame xs ys = ieq (stepsOf xs) (stepsOf ys) := by simp [msame, h1, h2, h3, h4]
theorem trow_len {w : World} {lo hi : Nat} {v : Value} {xs : List (Int × Bool)} (h : TRow w lo hi v xs) : ∃ a c, v = .slice a xs.length c := by
  rcases h.form with ⟨rfl, rfl⟩ | ⟨g, cap, rfl, _⟩
  · exact ⟨none, 0, rfl⟩
  · exact ⟨_, _, rfl⟩

set_option maxHeartbeats 4000000 in
theorem melodySame_any (lo hi lo' hi' : Nat) (v u : Value) (xs ys : List (Int × Bool)) (w : World) (h : TRow w lo hi v xs) (k : TRow w lo' hi' u ys) (ht : StepTab w) :
    Calls Tryd.prog 45 #[v, u] w fun e w' => e = .returned (.bool (msame xs ys)) ∧ Below w.heap.size w w' := by
  obtain ⟨va, vc, rfl⟩ := trow_len h
  obtain ⟨ua, uc, rfl⟩ := trow_len k
  have HT := Lib.hid ht
  clear ht
  by_cases h1 : mv xs = false
  · have HE := Lib.hid (msame_1 (ys := ys) h1)
    go_enter Tryd.func45, Tryd.ntmps45
    go_wp2_with (fail)
    (go_at_call 102; refine (newMelody_any lo hi _ xs _ h).mono ?_; rintro e w1 ⟨p, rfl, hm, hb1⟩)
    have k1 := k.below hb1 (.inr (Nat.le_refl _))
    clear h k
    go_wp2_with (fail)
    (go_at_call 102; refine (newMelody_any lo' hi' _ ys _ k1).mono ?_; rintro e w2 ⟨q, rfl, hq, hb2⟩)
    clear hm hq k1
    go_wp2
    go_ret
    exact ⟨by rw [HE.out]; rfl, bl_step hb1 hb2⟩
  rw [Bool.not_eq_false] at h1
  by_cases h2 : mv ys = false
  · have HE := Lib.hid (msame_2 (xs := xs) h2)
    go_enter Tryd.func45, Tryd.ntmps45
    go_wp2_with (fail)
    (go_at_call 102; refine (newMelody_any lo hi _ xs _ h).mono ?_; rintro e w1 ⟨p, rfl, hm, hb1⟩)
    have k1 := k.below hb1 (.inr (Nat.le_refl _))
    clear h k
    go_wp2_with (fail)
    (go_at_call 102; refine (newMelody_any lo' hi' _ ys _ k1).mono ?_; rintro e w2 ⟨q, rfl, hq, hb2⟩)
    clear hm hq k1
    go_wp2
    go_ret
    exact ⟨by rw [HE.out]; rfl, bl_step hb1 hb2⟩
  rw [Bool.not_eq_false] at h2
  by_cases h3 : xs.length = ys.length
  case neg =>
    have HE := Lib.hid (msame_3 h3)
    have hl' : ((xs.length : Int) != (ys.length : Int)) = true := by simp; omega
    clear h3
    go_enter Tryd.func45, Tryd.ntmps45
    go_wp2_with (fail)
    (go_at_call 102; refine (newMelody_any lo hi _ xs _ h).mono ?_; rintro e w1 ⟨p, rfl, hm, hb1⟩)
    have k1 := k.below hb1 (.inr (Nat.le_refl _))
    clear h k
    go_wp2_with (fail)
    (go_at_call 102; refine (newMelody_any lo' hi' _ ys _ k1).mono ?_; rintro e w2 ⟨q, rfl, hq, hb2⟩)
    clear hm hq k1
    go_wp2
    go_ret
    exact ⟨by rw [HE.out]; rfl, bl_step hb1 hb2⟩
  have hl' : ((xs.length : Int) != (ys.length : Int)) = false := by simp; omega
  have H4 := Lib.hid (fun h => msame_4 (xs := xs) (ys := ys) h)
  have H5 := Lib.hid (fun h => msame_5 h1 h2 h3 h)
  have VX := Lib.hid (mvl_allv xs)
  have LX := Lib.hid (mvl_len xs)
  have VY := Lib.hid (mvl_allv ys)
  have LY := Lib.hid (mvl_len ys)
  clear h3
  go_enter Tryd.func45, Tryd.ntmps45
  go_wp2_with (fail)
  (go_at_call 102; refine (newMelody_any lo hi _ xs _ h).mono ?_; rintro e w1 ⟨p, rfl, hm, hb1⟩)
  have k1 := k.below hb1 (.inr (Nat.le_refl _))
  clear h k
  go_wp2_with (fail)
  (go_at_call 102; refine (newMelody_any lo' hi' _ ys _ k1).mono ?_; rintro e w2 ⟨q, rfl, hq, hb2⟩)
  have hm2 := hm.below hb2
  have hbw2 := bl_step hb1 hb2
  clear hm k1
  have semi : ∀ (w0 : World), Below w.heap.size w w0 → ∀ s b t c (wz : World), Below w0.heap.size w0 wz → vd s b = true → vd t c = true → Calls Tryd.prog 32 #[.agg #[.int .i64 s, .bool b], .agg #[.int .i64 t, .bool c]] wz fun e w' => e = .returned (.tuple #[.int .i64 (sem s b t c), .bool true]) ∧ Below wz.heap.size wz w' := fun w0 hw0 s b t c wz hz g1 g2 => by
    have := toneSemis_any s t b c wz ((HT.out.below hw0).below hz)
    rw [both_yes g1 g2] at this
    exact this
  have step : ∀ (w0 : World), ∀ s b t c (wz : World), Below w0.heap.size w0 wz → vd s b = true → vd t c = true → Calls Tryd.prog 110 #[.agg #[.int .i64 s, .bool b], .agg #[.int .i64 t, .bool c]] wz fun e w' => e = .returned (.tuple #[.int .i64 (stp s b t c), .bool true]) ∧ Below wz.heap.size wz w' := fun w0 s b t c wz hz g1 g2 => by
    have := toneSteps_any s t b c wz
    rw [both_yes g1 g2] at this
    exact this
  have SE := Lib.hid semi
  have ST := Lib.hid step
  clear semi step
  go_wp2_with (fail)
  (go_at_call 109; refine (differencesSemis_any sem p _ _ _ hm2 VX.out LX.out (SE.out _ hbw2)).mono ?_; rintro e w3 ⟨x1, rfl, hx1, hb3⟩)
  have hbw3 := bl_step hbw2 hb3
  have hq3 := hq.below hb3
  have hm3 := hm2.below hb3
  go_wp2_with (fail)
  (go_at_call 109; refine (differencesSemis_any sem q _ _ _ hq3 VY.out LY.out (SE.out _ hbw3)).mono ?_; rintro e w4 ⟨x2, rfl, hx2, hb4⟩)
  have hbw4 := bl_step hbw3 hb4
  have hx1 := hx1.below hb4 (.inl (Nat.le_refl _))
  have hq4 := hq3.below hb4
  have hm4 := hm3.below hb4
  clear hm2 hm3 hq3 hq
  by_cases h4 : ieq (semisOf xs) (semisOf ys) = false
  · have HE := Lib.hid (H4.out h4)
    go_wp2_with (fail)
    (go_at_call 108; refine (slEqual_any _ _ _ _ _ _ (semisOf xs) (semisOf ys) _ hx1 hx2).mono ?_; rintro e w5 ⟨rfl, hb5⟩)
    clear hx1 hx2 hq4 hm4
    go_wp2
    go_ret
    exact ⟨by rw [HE.out]; rfl, bl_step hbw4 hb5⟩
  rw [Bool.not_eq_false] at h4
  have HE := Lib.hid (H5.out h4)
  go_wp2_with (fail)
  (go_at_call 108; refine (slEqual_any _ _ _ _ _ _ (semisOf xs) (semisOf ys) _ hx1 hx2).mono ?_; rintro e w5 ⟨rfl, hb5⟩)
  have hbw5 := bl_step hbw4 hb5
  have hq5 := hq4.below hb5
  have hm5 := hm4.below hb5
  clear hx1 hx2 hq4 hm4
  go_wp2_with (fail)
  (go_at_call 109; refine (differencesSteps_any stp p _ _ _ hm5 VX.out LX.out (ST.out _)).mono ?_; rintro e w6 ⟨x3, rfl, hx3, hb6⟩)
  have hbw6 := bl_step hbw5 hb6
  have hq6 := hq5.below hb6
  clear hm5 hq5
  go_wp2_with (fail)
  (go_at_call 109; refine (differencesSteps_any stp q _ _ _ hq6 VY.out LY.out (ST.out _)).mono ?_; rintro e w7 ⟨x4, rfl, hx4, hb7⟩)
  have hbw7 := bl_step hbw6 hb7
  have hx3 := hx3.below hb7 (.inl (Nat.le_refl _))
  clear hq6
  go_wp2_with (fail)
  (go_at_call 108; refine (slEqual_any _ _ _ _ _ _ (stepsOf xs) (stepsOf ys) _ hx3 hx4).mono ?_; rintro e w8 ⟨rfl, hb8⟩)
  clear hx3 hx4
  go_wp2
  go_ret
  exact ⟨by rw [HE.out]; rfl, bl_step hbw7 hb8⟩
end Go.Proofs.YtjodcaeohkjlnaaDoor
