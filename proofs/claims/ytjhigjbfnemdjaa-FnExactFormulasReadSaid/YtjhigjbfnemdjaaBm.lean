/-
  The best reading, in the program.
-/
import Derived.Test.YtjhigjbfnemdjaaEn
import Derived.Test.YtjhigjbfnemdjaaFb
namespace Go.Proofs.Ytjhigjbfnemdjaa
open Go.RowKit Go.Maps
set_option maxRecDepth 100000
set_option linter.unusedVariables false

theorem R0_best_len {fs : List Fm} {s : List Int} : (R0 fs s).best.length ≤ 23 := by
  unfold R0
  cases hk : fok fs s with
  | false => simp [Rs.zero]
  | true =>
    obtain ⟨hv, hs⟩ := fok_parts hk
    have := (R_ok (s := s) hv _ 0 rfl (Nat.zero_le _)).blen
    simp only [cond_true]
    omega
set_option maxHeartbeats 4000000 in
theorem formulasBest_any (v u : Value) (fs : List Fm) (s : List Int) (w : World) (h : FV w v fs) (k : IV w u s) :
    Calls Try.prog 61 #[v, u] w (IBuilt2 w (R0 fs s).best (decide (0 < (R0 fs s).many))) := by
  have HFI := Lib.hid (finder_whole v u fs s w h k)
  clear h k
  generalize R0 fs s = rr at *
  generalize fok fs s = ok at *
  go_enter Try.func61, Try.ntmps61
  go_wp2_with (fail)
  (go_at_call 41; refine HFI.out.mono ?_; rintro e w1 ⟨a, n, c, a', n', c', mb, rfl, hb1, hw⟩)
  have HW := Lib.hid hw
  have hz1 := hb1.size
  clear hw
  go_wp2_with (fail)
  (go_at_call 46; refine (HW.out _ (by (repeat' (first | (with_reducible exact Below.refl _ _) | (with_reducible refine Below.alloc ?_ ?_ _) | (with_reducible refine Below.drew ?_) | (with_reducible refine Below.setCell ?_ ?_ _) | (with_reducible refine bl_step ?_ (by assumption)) | go_size)))).mono ?_; rintro e w3 ⟨y, rfl, hi, hb3⟩)
  obtain ⟨ya, yc, rfl, _, _, _⟩ := hi.view
  have hz3 := hb3.size
  have HI := Lib.hid hi
  clear hi
  unfold rdV rdC
  have HE : Hid (∀ w', w' = w3.alloc (.cells #[.int .i64 rr.many, .int .i64 rr.few, .int .i64 rr.wt, .slice ya rr.best.length yc, .bool (rr.used 0), .bool (rr.used 1), .bool (rr.used 2), .bool (rr.used 3), .bool (rr.used 4), .bool (rr.used 5), .bool (rr.used 6), .bool (rr.used 7)] 69) → ∀ nq, IBuilt2 w rr.best (decide (0 < rr.many)) (.returned (.tuple #[.slice ya rr.best.length yc, .bool (decide (0 < rr.many))])) (w'.drewN nq)) := fun w' hw' nq => by
    subst hw'
    have hb : Below w3.heap.size w3 ((w3.alloc (.cells #[.int .i64 rr.many, .int .i64 rr.few, .int .i64 rr.wt, .slice ya rr.best.length yc, .bool (rr.used 0), .bool (rr.used 1), .bool (rr.used 2), .bool (rr.used 3), .bool (rr.used 4), .bool (rr.used 5), .bool (rr.used 6), .bool (rr.used 7)] 69)).drewN nq) := bl_drewN ((Below.refl _ _).alloc (Nat.le_refl _) _) nq
    exact ⟨_, rfl, (HI.out.below hb (.inl (Nat.le_refl _))).lohi (Nat.le_refl _) hb.size, bl_step hb3 hb⟩
  go_wp2_with (fail)
  go_quiet (fail)
  go_wp2_with (fail)
  go_ret2
  exact HE.out _ rfl _
end Go.Proofs.Ytjhigjbfnemdjaa
