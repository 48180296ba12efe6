/-
  What the draws of manuscripts return.
-/
import Derived.Test.YthhndlefafcdeaaDoorDb
import Derived.Test.YthhndlefafcdeaaDoorCode
namespace Go.Proofs.YthhndlefafcdeaaDoor
open Go.RowKit
set_option maxRecDepth 100000
set_option linter.unusedVariables false

theorem BkI.view {B A q : Nat} {w wr : World} {v : Value} {ss : List ByteArray} (h : BkI B A q w wr v ss) : SV wr v ss :=
  SRow.view (lo := w.heap.size) (hi := wr.heap.size) ⟨h.own, fun g hg => (own_lts h.own hg).2⟩

theorem wf_small {i : Int} (h0 : -1 ≤ i) (h1 : i ≤ 1000) : (Lit.int .i64 i).wf = true := by
  simp [Lit.wf, IntKind.min, IntKind.max, IntKind.signed, IntKind.bits]
  omega

/-- what only turned a reader that is new is below -/
theorem gb_below {w w1 w' : World} (h1 : Below w.heap.size w w1) (hg : w1.grownBy w' (some w.heap.size)) : Below w.heap.size w w' :=
  ⟨hg.os.trans h1.os, hg.tape.trans h1.tape, hg.output.trans h1.output, Nat.le_trans h1.size hg.size, fun k hk => (hg.block k (Nat.lt_of_lt_of_le hk h1.size) (fun e => by have := Option.some.inj e; omega)).trans (h1.block k hk)⟩

def BksOnly (w : World) (e : Ending) (w' : World) : Prop :=
  ∃ v ss, e = .returned v ∧ SV w' v ss ∧ (∀ s ∈ ss, s.size ≤ 8) ∧ ss.length ≤ 5 ∧ Below w.heap.size w w'
def BksFarPicked (w : World) (e : Ending) (w' : World) : Prop :=
  ∃ v ss i k, e = .returned (.tuple #[v, .int .i64 i, .int .i64 k]) ∧ SV w' v ss ∧ (∀ s ∈ ss, s.size ≤ 8) ∧ ss.length ≤ 5 ∧ (Lit.int .i64 i).wf = true ∧ (Lit.int .i64 k).wf = true ∧ Below w.heap.size w w'

set_option maxHeartbeats 2000000 in
theorem drawBooksCommon_any (a : Option Addr) (n cap : Nat) (w : World) (h : CodeAt w a n) (hc : n ≤ cap) (hcap : cap ≤ maxLen) :
    Calls Tryd.prog 45 #[.slice a n cap] w (BksOnly w) := by
  have HO := Lib.hid (open_any a n cap w h hc hcap)
  clear h
  go_enter Tryd.func45, Tryd.ntmps45
  go_wp2_with (fail)
  (go_at_call 60; refine (HO.out).mono ?_; rintro e w1 ⟨A, rfl, hr1, hb1, hz1⟩)
  go_wp2_with (fail)
  (go_at_call 61; refine (l92Books_any w.heap.size A 0 false (by omega) _ hr1).mono ?_; rintro e w2 ⟨v, ss, rfl, hI, hl, hs⟩)
  have HX := Lib.hid (show BksOnly w (.returned v) w2 from ⟨v, ss, rfl, hI.view, hs, hl, gb_below hb1 hI.gr⟩)
  clear hI hb1 hr1 hs
  go_wp2
  go_ret
  exact HX.out

set_option maxHeartbeats 2000000 in
theorem drawBooksFar_any (a : Option Addr) (n cap : Nat) (w : World) (h : CodeAt w a n) (hc : n ≤ cap) (hcap : cap ≤ maxLen) :
    Calls Tryd.prog 44 #[.slice a n cap] w (BksFarPicked w) := by
  have HO := Lib.hid (open_any a n cap w h hc hcap)
  clear h
  go_enter Tryd.func44, Tryd.ntmps44
  go_wp2_with (fail)
  (go_at_call 60; refine (HO.out).mono ?_; rintro e w1 ⟨A, rfl, hr1, hb1, hz1⟩)
  go_wp2_with (fail)
  (go_at_call 61; refine (l92Books_any w.heap.size A 0 false (by omega) _ hr1).mono ?_; rintro e w2 ⟨v, ss, rfl, hI, hl, hs⟩)
  have HI := Lib.hid hI
  have hrI := hI.rd
  obtain ⟨ad, c, hv, _, _, _⟩ := hI.view
  rw [hv] at HI ⊢
  clear hI hv
  go_wp2_with (fail)
  (go_at_call 62; refine (l91At_any w.heap.size A _ ss.length (by omega) (by omega) _ hrI).mono ?_; rintro e w3 ⟨i, rfl, hi0, hi1, hr3, hg3⟩)
  have HI3 := Lib.hid (HI.out.pick hz1 hr3 hg3)
  clear hg3 hrI
  go_wp2_with (fail)
  (go_at_call 62; refine (l91At_any w.heap.size A _ ss.length (by omega) (by omega) _ hr3).mono ?_; rintro e w4 ⟨k, rfl, hk0, hk1, hr4, hg4⟩)
  have hI4 := HI3.out.pick hz1 hr4 hg4
  have HX := Lib.hid (show BksFarPicked w (.returned (.tuple #[.slice ad ss.length c, .int .i64 i, .int .i64 k])) w4 from ⟨_, ss, i, k, rfl, hI4.view, hs, hl, wf_small hi0 hi1, wf_small hk0 hk1, gb_below hb1 hI4.gr⟩)
  clear hI4 hb1 hr1 hs hg4 hr3 hr4
  go_wp2
  go_ret3
  exact HX.out
end Go.Proofs.YthhndlefafcdeaaDoor
