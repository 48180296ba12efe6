/-
  The contracts of the small functions on tones.
-/
import Derived.Test.YtcmcdomfmmjogaaBase
import Derived.Test.YtcmcdomfmmjogaaMath
import Derived.OpenShut
import Derived.WalkLawsBesides
import Derived.Handy
namespace Go.Proofs.Ytcmcdomfmmjogaa
open Go.RowKit
set_option maxRecDepth 100000
set_option linter.unusedVariables false

theorem slice_ltr (s : Int) (w : World) :
    (Instr.slice 9 (Value.string ⟨#[71, 65, 66, 67, 68, 69, 70]⟩) (some (Value.int .i64 (s % 7))) (some (Value.int .i64 (s % 7 + 1))) none).run Try.prog w = .ok (.string (ltr s)) w := by
  unfold ltr
  rcases mod7 s with h | h | h | h | h | h | h <;> rw [h] <;> kernel_rfl

set_option maxHeartbeats 400000 in
theorem letter_any (s : Int) (b : Bool) (h0 : 0 ≤ s) (h1 : s ≤ 20) (w : World) :
    Calls Try.prog 90 #[.agg #[.int .i64 s, .bool b]] w fun e w' => e = .returned (.string (ltr s)) ∧ Below w.heap.size w w' := by
  have hs := slice_ltr s
  go_enter Try.func90, Try.ntmps90
  go_wp2
  go_ret
  exact ⟨rfl, by (repeat' (first | (with_reducible exact Below.refl _ _) | (with_reducible refine Below.alloc ?_ ?_ _) | (with_reducible refine Below.drew ?_) | (with_reducible refine Below.setCell ?_ ?_ _) | (with_reducible refine bl_step ?_ (by assumption)) | go_size))⟩

set_option maxHeartbeats 400000 in
theorem valid_any (s : Int) (b : Bool) (w : World) :
    Calls Try.prog 80 #[.agg #[.int .i64 s, .bool b]] w fun e w' => e = .returned (.bool (vd s b)) ∧ Below w.heap.size w w' := by
  by_cases h0 : s < 0
  · rw [vd_lo h0]
    go_enter Try.func80, Try.ntmps80
    go_wp2
    go_ret
    exact ⟨rfl, by (repeat' (first | (with_reducible exact Below.refl _ _) | (with_reducible refine Below.alloc ?_ ?_ _) | (with_reducible refine Below.drew ?_) | (with_reducible refine Below.setCell ?_ ?_ _) | (with_reducible refine bl_step ?_ (by assumption)) | go_size))⟩
  by_cases h1 : 20 < s
  · rw [vd_hi h1]
    go_enter Try.func80, Try.ntmps80
    go_wp2
    go_ret
    exact ⟨rfl, by (repeat' (first | (with_reducible exact Below.refl _ _) | (with_reducible refine Below.alloc ?_ ?_ _) | (with_reducible refine Below.drew ?_) | (with_reducible refine Below.setCell ?_ ?_ _) | (with_reducible refine bl_step ?_ (by assumption)) | go_size))⟩
  rw [vd_mid (by omega) (by omega)]
  have hl := ltr_b s
  cases b
  · go_enter Try.func80, Try.ntmps80
    go_wp2
    go_ret
    exact ⟨rfl, by (repeat' (first | (with_reducible exact Below.refl _ _) | (with_reducible refine Below.alloc ?_ ?_ _) | (with_reducible refine Below.drew ?_) | (with_reducible refine Below.setCell ?_ ?_ _) | (with_reducible refine bl_step ?_ (by assumption)) | go_size))⟩
  · go_enter Try.func80, Try.ntmps80
    go_wp2_with (go_at_call 90; refine (letter_any _ _ (by omega) (by omega) _).mono ?_; rintro e w1 ⟨rfl, hb1⟩; obtain ⟨hc1, hf1, hz1⟩ := bl hb1; (try simp at hz1); clear hc1 hf1)
    go_ret
    refine ⟨by simp, ?_⟩
    (repeat' (first | (with_reducible exact Below.refl _ _) | (with_reducible refine Below.alloc ?_ ?_ _) | (with_reducible refine Below.drew ?_) | (with_reducible refine Below.setCell ?_ ?_ _) | (with_reducible refine bl_step ?_ (by assumption)) | go_size))
end Go.Proofs.Ytcmcdomfmmjogaa
