/-
  The draw of a word of a list, and of a text that is often that of a tone.
-/
import Derived.Test.YtjodcaeohkjlnaaDoorDraw2
import Derived.Test.YtjodcaeohkjlnaaDoorDrawOf
import Derived.Test.YtjodcaeohkjlnaaDoorTxt
namespace Go.Proofs.YtjodcaeohkjlnaaDoor
open Go.RowKit
set_option maxRecDepth 100000
set_option linter.unusedVariables false

def DrewText (m : Nat) (w : World) (e : Ending) (w' : World) : Prop :=
  ∃ x : ByteArray, e = .returned (.string x) ∧ x.size ≤ m ∧ Below w.heap.size w w'
theorem ttx_size (s : Int) (b : Bool) : (ttx s b).size ≤ 9 := by
  unfold ttx
  split
  · show 2 ≤ 9; omega
  · show 0 ≤ 9; omega

set_option maxHeartbeats 2000000 in
theorem drawToneFrom_any (a : Option Addr) (n cap : Nat) (w : World) (h : CodeAt w a n) (hc : n ≤ cap) (hcap : cap ≤ maxLen) :
    Calls Tryd.prog 26 #[.slice a n cap] w (DrewText 9 w) := by
  go_enter Tryd.func26, Tryd.ntmps26
  go_wp2_with (fail)
  (go_at_call 77; refine (open_any a n cap _ h hc hcap).mono ?_; rintro e w1 ⟨A, rfl, hr1, hb1, hs1⟩; obtain ⟨hc1, hf1, hz1⟩ := bl hb1; (try simp at hz1); clear hc1 hf1)
  have hB := hr1.lt
  have hA : A < w1.heap.size := hr1.ltA
  go_wp2_with (fail)
  (go_at_call 85; refine (pick_any 4 w.heap.size A 0 (by omega) (by omega) (by omega) _ hr1).mono ?_; rintro e w2 ⟨k2, rfl, h20, h21, hr2, hb2⟩; obtain ⟨hc2, hf2, hz2⟩ := bg hb2; (try simp at hz2); clear hc2 hf2)
  have hb2w := below_gb hb1 hb2 (by omega)
  have z2 : w.heap.size < w2.heap.size := hr2.lt
  by_cases g0 : k2 = 0
  · subst g0
    go_wp2_with (fail)
    (go_at_call 86; refine (of_any w.heap.size A 1 w2.heap.size 10 9 (by omega) (by omega) (by omega) _ (hr2.alloc _) (by omega) (by simp) ?_).mono ?_)
    · intro j hj
      rw [World.cell?_alloc_mark]
      match j, hj with
      | 0, _ => exact ⟨_, rfl, by decide⟩
      | 1, _ => exact ⟨_, rfl, by decide⟩
      | 2, _ => exact ⟨_, rfl, by decide⟩
      | 3, _ => exact ⟨_, rfl, by decide⟩
      | 4, _ => exact ⟨_, rfl, by decide⟩
      | 5, _ => exact ⟨_, rfl, by decide⟩
      | 6, _ => exact ⟨_, rfl, by decide⟩
      | 7, _ => exact ⟨_, rfl, by decide⟩
      | 8, _ => exact ⟨_, rfl, by decide⟩
      | 9, _ => exact ⟨_, rfl, by decide⟩
    rintro e w3 ⟨x, rfl, hx, hr3, hb3⟩
    have hb3w := below_gb (hb2w.alloc hb2w.size _) hb3 (by omega)
    have HX := Lib.hid hx
    clear hx
    go_wp2
    go_ret
    exact ⟨x, rfl, HX.out, hb3w⟩
  have e0 : (k2 == 0) = false := by simpa using g0
  clear g0
  go_wp2_with (fail)
  (go_at_call 76; refine (l91Tone_any w.heap.size A 1 (by omega) _ hr2).mono ?_; rintro e w3 ⟨s, b, rfl, hs0, hs9, hr3, hb3⟩)
  have hb3w := below_gb hb2w hb3 (by omega)
  go_wp2_with (fail)
  (go_at_call 22; refine (sToneText_any s b _).mono ?_; rintro e w4 ⟨rfl, hb4⟩)
  go_wp2
  go_ret
  exact ⟨ttx s b, rfl, ttx_size s b, bl_step hb3w hb4⟩
end Go.Proofs.YtjodcaeohkjlnaaDoor
