/-
  Two melodies joined, in the model.
-/
import Derived.Test.YtgehfianpahgcabMelJ
namespace Go.Proofs.Ytgehfianpahgcab
open Go.RowKit
set_option linter.unusedVariables false

theorem trow_of {w : World} {base n : Nat} {v : Value} {xs : List (Int × Bool)} (h : w.ownsRow base 40 2 v n (tcs xs)) (hn : n = xs.length) : TRow w base w.heap.size v xs := by
  subst hn; exact ⟨h, fun g hg => (h.lt g hg).2⟩

set_option maxHeartbeats 4000000 in
theorem sMelodyJoin_any (lo hi lo' hi' : Nat) (v u : Value) (xs ys : List (Int × Bool)) (w : World) (h : TRow w lo hi v xs) (k : TRow w lo' hi' u ys) (hx : xs.length ≤ 1048576) (hy : ys.length ≤ 1048576) :
    Calls Try.prog 13 #[v, u] w (TBuilt2 w (jn xs ys) (jok xs ys)) := by
  have hb0 : Below w.heap.size w (w.alloc (.cells #[] 40)) := (Below.refl _ _).alloc (Nat.le_refl _) _
  have hown0 : (w.alloc (.cells #[] 40)).ownsRow w.heap.size 40 2 (.slice (some ⟨w.heap.size, 0, none⟩) 0 0) 0 [] := ⟨rfl, .inr ⟨w.heap.size, 0, #[], rfl, Nat.le_refl _, heap_alloc_new w _, by simp, by simp [maxLen], by simp, by simp⟩⟩
  have h1 := h.below hb0 (.inr (Nat.le_refl _))
  have hz1 : w.heap.size ≤ (w.alloc (.cells #[] 40)).heap.size := hb0.size
  have HN : Hid (jok xs ys = false → ∀ w1, Below w.heap.size w w1 → TBuilt2 w (jn xs ys) (jok xs ys) (.returned (.tuple #[.slice (some ⟨w1.heap.size, 0, none⟩) 0 0, .bool false])) (w1.alloc (.cells #[] 40))) := fun hj w1 hb => by
    rw [jn_no hj, hj]
    exact ⟨_, rfl, (empty_row w1).lohi hb.size (Nat.le_refl _), hb.alloc hb.size _⟩
  have HY : Hid (jok xs ys = true → ∀ (w1 : World) (o : Value), TRow w1 w.heap.size w1.heap.size o (xs ++ ys) → Below w.heap.size w w1 → TBuilt2 w (jn xs ys) (jok xs ys) (.returned (.tuple #[o, .bool true])) w1) := fun hj w1 o ho hb => by
    rw [jn_yes hj, hj]
    exact ⟨o, rfl, ho, hb⟩
  have hjm := jok_mv xs ys
  have HH := Lib.hid h
  have HK := Lib.hid k
  clear h k
  go_enter Try.func13, Try.ntmps13
  go_wp2_with (first | (at_builtin; refine append_tones rfl (.tmp 7) (.tmp 8) rfl w.heap.size lo hi _ v 0 [] xs rfl hown0 rfl h1 (by omega) (by omega) hz1 ?_; intro v1 w2 hown1 hg1; have hb2 : Below w.heap.size w w2 := hb0.grown hg1 hz1 (fun k hk => (hown0.lt k hk).1); have hu2 := HK.out.below hb2 (.inr (Nat.le_refl _)); have hz2 := hb2.size; clear hown0 hg1 h1) | (at_builtin; refine append_tones rfl (.tmp 9) (.tmp 10) rfl w.heap.size lo' hi' _ u _ _ ys rfl hown1 rfl hu2 (by omega) (by omega) hz2 ?_; intro v2 w3 hown2 hg2; have hb3 : Below w.heap.size w w3 := hb2.grown hg2 hz2 (fun k hk => (hown1.lt k hk).1); have hr3 : TRow w3 w.heap.size w3.heap.size v2 (xs ++ ys) := trow_of (by rw [tcs_app]; exact hown2) (by simp); clear hown1 hg2 hown2 hu2 hz2) | (fail))
  have hv3 := HH.out.below hb3 (.inr (Nat.le_refl _))
  have hu3 := HK.out.below hb3 (.inr (Nat.le_refl _))
  have HM := Lib.hid hjm
  clear HH HK hb0 hz1 hb2 hjm
  by_cases g1 : mv xs = false
  · have HF := Lib.hid (HN.out (by rw [← HM.out, g1]; rfl))
    go_wp2_with (fail)
    (go_at_call 37; refine (sMelodyValid_any _ _ v xs _ hv3).mono ?_; rintro e w4 ⟨rfl, hb4⟩)
    have HG := Lib.hid (HF.out w4 (bl_step hb3 hb4))
    clear hv3 hu3 hr3
    go_wp2
    go_ret2
    exact HG.out
  rw [Bool.not_eq_false] at g1
  by_cases g2 : mv ys = false
  · have HF := Lib.hid (HN.out (by rw [← HM.out, g1, g2]; rfl))
    go_wp2_with (fail)
    (go_at_call 37; refine (sMelodyValid_any _ _ v xs _ hv3).mono ?_; rintro e w4 ⟨rfl, hb4⟩)
    have hu4 := hu3.below hb4 (.inr (Nat.le_refl _))
    go_wp2_with (fail)
    (go_at_call 37; refine (sMelodyValid_any _ _ u ys _ hu4).mono ?_; rintro e w5 ⟨rfl, hb5⟩)
    have HG := Lib.hid (HF.out w5 (bl_step (bl_step hb3 hb4) hb5))
    clear hv3 hu3 hr3 hu4
    go_wp2
    go_ret2
    exact HG.out
  rw [Bool.not_eq_false] at g2
  by_cases g3 : mv (xs ++ ys) = false
  · have HF := Lib.hid (HN.out (by rw [← HM.out, g1, g2, g3]; rfl))
    go_wp2_with (fail)
    (go_at_call 37; refine (sMelodyValid_any _ _ v xs _ hv3).mono ?_; rintro e w4 ⟨rfl, hb4⟩)
    have hu4 := hu3.below hb4 (.inr (Nat.le_refl _))
    have hr4 := hr3.below hb4 (.inl (Nat.le_refl _))
    go_wp2_with (fail)
    (go_at_call 37; refine (sMelodyValid_any _ _ u ys _ hu4).mono ?_; rintro e w5 ⟨rfl, hb5⟩)
    have hr5 := hr4.below hb5 (.inl hb4.size)
    go_wp2_with (fail)
    (go_at_call 37; refine (sMelodyValid_any _ _ v2 (xs ++ ys) _ hr5).mono ?_; rintro e w6 ⟨rfl, hb6⟩)
    have HG := Lib.hid (HF.out w6 (bl_step (bl_step (bl_step hb3 hb4) hb5) hb6))
    clear hv3 hu3 hr3 hu4 hr4 hr5
    go_wp2
    go_ret2
    exact HG.out
  rw [Bool.not_eq_false] at g3
  have HF := Lib.hid (HY.out (by rw [← HM.out, g1, g2, g3]; rfl))
  go_wp2_with (fail)
  (go_at_call 37; refine (sMelodyValid_any _ _ v xs _ hv3).mono ?_; rintro e w4 ⟨rfl, hb4⟩)
  have hu4 := hu3.below hb4 (.inr (Nat.le_refl _))
  have hr4 := hr3.below hb4 (.inl (Nat.le_refl _))
  go_wp2_with (fail)
  (go_at_call 37; refine (sMelodyValid_any _ _ u ys _ hu4).mono ?_; rintro e w5 ⟨rfl, hb5⟩)
  have hr5 := hr4.below hb5 (.inl hb4.size)
  go_wp2_with (fail)
  (go_at_call 37; refine (sMelodyValid_any _ _ v2 (xs ++ ys) _ hr5).mono ?_; rintro e w6 ⟨rfl, hb6⟩)
  have hr6 := hr5.below hb6 (.inl (Nat.le_trans hb4.size hb5.size))
  have HG := Lib.hid (HF.out w6 v2 (hr6.lohi (Nat.le_refl _) (Nat.le_trans (Nat.le_trans hb4.size hb5.size) hb6.size)) (bl_step (bl_step (bl_step hb3 hb4) hb5) hb6))
  clear hv3 hu3 hr3 hu4 hr4 hr5 hr6
  go_wp2
  go_ret2
  exact HG.out
end Go.Proofs.Ytgehfianpahgcab
