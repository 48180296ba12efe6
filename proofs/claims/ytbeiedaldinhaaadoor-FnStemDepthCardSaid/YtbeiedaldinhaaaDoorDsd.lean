/-
  The draw of manuscripts, a stem and an index.
-/
import Derived.Test.YtbeiedaldinhaaaDoorDst
import Derived.Test.YtbeiedaldinhaaaDoorDbf
namespace Go.Proofs.YtbeiedaldinhaaaDoor
open Go.RowKit
set_option maxRecDepth 100000
set_option linter.unusedVariables false

def StmAtPicked (w : World) (e : Ending) (w' : World) : Prop :=
  ∃ v u ss zs k, e = .returned (.tuple #[v, u, .int .i64 k]) ∧ SV w' v ss ∧ IV w' u zs ∧ ss.length ≤ 5 ∧ (∀ s ∈ ss, s.size ≤ 8) ∧ (Lit.int .i64 k).wf = true ∧ Below w.heap.size w w'

set_option maxHeartbeats 4000000 in
theorem drawStemDepth_any (a : Option Addr) (n cap : Nat) (w : World) (h : CodeAt w a n) (hc : n ≤ cap) (hcap : cap ≤ maxLen) :
    Calls Tryd.prog 31 #[.slice a n cap] w (StmAtPicked w) := by
  have HO := Lib.hid (open_any a n cap w h hc hcap)
  clear h
  go_enter Tryd.func31, Tryd.ntmps31
  go_wp2_with (fail)
  (go_at_call 34; refine (HO.out).mono ?_; rintro e w1 ⟨A, rfl, hr1, hb1, hz1⟩)
  go_wp2_with (fail)
  (go_at_call 33; refine (l92Stem_any w.heap.size A 0 true (by omega) _ hr1).mono ?_; rintro e w2 ⟨v, u, ss, zs, rfl, hI, hU, hl, hs⟩)
  have HI := Lib.hid hI
  have HU := Lib.hid hU
  have hrI := hI.rd
  obtain ⟨ad, c, hv, _, _, _⟩ := hI.view
  rw [hv] at HI ⊢
  obtain ⟨au, cu, hu, _, _, _⟩ := hU w2 (gb_refl _ _)
  rw [hu] at HU ⊢
  clear hI hv hU hu
  go_wp2_with (fail)
  (go_at_call 46; refine (l91At_any w.heap.size A _ ss.length (by omega) (by omega) _ hrI).mono ?_; rintro e w3 ⟨k, rfl, hk0, hk1, hr3, hg3⟩)
  have hI3 := HI.out.pick hz1 hr3 hg3
  have HX := Lib.hid (show StmAtPicked w (.returned (.tuple #[.slice ad ss.length c, .slice au zs.length cu, .int .i64 k])) w3 from ⟨_, _, ss, zs, k, rfl, hI3.view, HU.out w3 hg3, hl, hs, wf_small hk0 hk1, gb_below hb1 hI3.gr⟩)
  clear hI3 hb1 hr1 hs hg3 hr3
  go_wp2
  go_ret3
  exact HX.out
end Go.Proofs.YtbeiedaldinhaaaDoor
