/-
  The best reading of a melody, in both programs.
-/
import Derived.Test.YtjhigjbfnemdjaaBm
import Derived.Test.YtjhigjbfnemdjaaBs
import Derived.Test.YtjhigjbfnemdjaaMelS2
import Derived.Test.YtjhigjbfnemdjaaMelV
namespace Go.Proofs.Ytjhigjbfnemdjaa
open Go.RowKit
set_option maxRecDepth 100000
set_option linter.unusedVariables false

/-- the best reading of a melody's differences, none if it is no melody -/
def frd (fs : List Fm) (xs : List (Int × Bool)) : List Int := if mv xs = true then (R0 fs (stepsOf xs)).best else []
def frdOk (fs : List Fm) (xs : List (Int × Bool)) : Bool := mv xs && decide (0 < (R0 fs (stepsOf xs)).many)

set_option maxHeartbeats 2000000 in
theorem formulasRead_any (lo hi : Nat) (v u : Value) (fs : List Fm) (xs : List (Int × Bool)) (w : World) (h : FV w v fs) (k : TRow w lo hi u xs) :
    Calls Try.prog 32 #[v, u] w (IBuilt2 w (frd fs xs) (frdOk fs xs)) := by
  have KV := Lib.hid (melodyValid_any lo hi u xs w k)
  have hlt := k.2
  cases hm : mv xs with
  | false =>
    have e1 : frd fs xs = [] := by unfold frd; rw [hm]; rfl
    have e2 : frdOk fs xs = false := by unfold frdOk; rw [hm]; rfl
    rw [e1, e2]
    rw [hm] at KV
    clear e1 e2 hm h k hlt
    go_enter Try.func32, Try.ntmps32
    go_wp2_with (fail)
    (go_at_call 60; refine (KV.out).mono ?_; rintro e w1 ⟨rfl, hb1⟩)
    have HN := Lib.hid (IBuilt2.none hb1)
    clear hb1
    go_wp2
    go_ret2
    exact HN.out
  | true =>
    have e1 : frd fs xs = (R0 fs (stepsOf xs)).best := by unfold frd; rw [if_pos hm]
    have e2 : frdOk fs xs = decide (0 < (R0 fs (stepsOf xs)).many) := by unfold frdOk; rw [hm]; rfl
    rw [e1, e2]
    rw [hm] at KV
    have HKT := Lib.hid (fun w' (hb : Below w.heap.size w w') => melodySteps_any lo hi u xs w' (TRow.keep k fun j h1 h2 h3 => hb.block j h1))
    have HB := Lib.hid (fun w' u' (hb : Below w.heap.size w w') (h2 : IV w' u' (stepsOf xs)) => formulasBest_any v u' fs (stepsOf xs) w' (h.below hb) h2)
    clear e1 e2 hm h k hlt
    generalize decide (0 < (R0 fs (stepsOf xs)).many) = ok at HB ⊢
    generalize (R0 fs (stepsOf xs)).best = bs at HB ⊢
    go_enter Try.func32, Try.ntmps32
    go_wp2_with (fail)
    (go_at_call 60; refine (KV.out).mono ?_; rintro e w1 ⟨rfl, hb1⟩)
    go_wp2_with (fail)
    (go_at_call 62; refine (HKT.out _ hb1).mono ?_; rintro e w2 ⟨y, rfl, hr2, hb2⟩)
    have hb12 := bl_step hb1 hb2
    have hv2 := hr2.view
    clear hr2 hb1 hb2
    go_wp2_with (fail)
    (go_at_call 61; refine (HB.out _ _ hb12 hv2).mono ?_; rintro e w3 ⟨z, rfl, hr3, hb3⟩)
    have HX : Hid (IBuilt2 w bs ok (.returned (.tuple #[z, .bool ok])) w3) := IBuilt2.from_ ⟨z, rfl, hr3, hb3⟩ hb12
    clear hr3 hb3 hb12 hv2
    go_wp2
    go_ret2
    exact HX.out

set_option maxHeartbeats 2000000 in
theorem sFormulasRead_any (lo hi : Nat) (v u : Value) (fs : List Fm) (xs : List (Int × Bool)) (w : World) (h : FV w v fs) (k : TRow w lo hi u xs) :
    Calls Try.prog 30 #[v, u] w (IBuilt2 w (frd fs xs) (frdOk fs xs)) := by
  have KV := Lib.hid (sMelodyValid_any lo hi u xs w k)
  have hlt := k.2
  cases hm : mv xs with
  | false =>
    have e1 : frd fs xs = [] := by unfold frd; rw [hm]; rfl
    have e2 : frdOk fs xs = false := by unfold frdOk; rw [hm]; rfl
    rw [e1, e2]
    rw [hm] at KV
    clear e1 e2 hm h k hlt
    go_enter Try.func30, Try.ntmps30
    go_wp2_with (fail)
    (go_at_call 54; refine (KV.out).mono ?_; rintro e w1 ⟨rfl, hb1⟩)
    have HN := Lib.hid (IBuilt2.none hb1)
    clear hb1
    go_wp2
    go_ret2
    exact HN.out
  | true =>
    have e1 : frd fs xs = (R0 fs (stepsOf xs)).best := by unfold frd; rw [if_pos hm]
    have e2 : frdOk fs xs = decide (0 < (R0 fs (stepsOf xs)).many) := by unfold frdOk; rw [hm]; rfl
    rw [e1, e2]
    rw [hm] at KV
    have HKT := Lib.hid (fun w' (hb : Below w.heap.size w w') => sMelodySteps_any lo hi u xs w' (TRow.keep k fun j h1 h2 h3 => hb.block j h1))
    have HB0 := fun w' u' (hb : Below w.heap.size w w') (h2 : IV w' u' (stepsOf xs)) => sFormulasBest_any v u' fs (stepsOf xs) w' (h.below hb) h2
    have hr : R0s fs (stepsOf xs) = R0 fs (stepsOf xs) := rfl
    rw [hr] at HB0
    have HB := Lib.hid HB0
    clear e1 e2 hm h k hlt hr HB0
    generalize decide (0 < (R0 fs (stepsOf xs)).many) = ok at HB ⊢
    generalize (R0 fs (stepsOf xs)).best = bs at HB ⊢
    go_enter Try.func30, Try.ntmps30
    go_wp2_with (fail)
    (go_at_call 54; refine (KV.out).mono ?_; rintro e w1 ⟨rfl, hb1⟩)
    go_wp2_with (fail)
    (go_at_call 59; refine (HKT.out _ hb1).mono ?_; rintro e w2 ⟨y, rfl, hr2, hb2⟩)
    have hb12 := bl_step hb1 hb2
    have hv2 := hr2.view
    clear hr2 hb1 hb2
    go_wp2_with (fail)
    (go_at_call 58; refine (HB.out _ _ hb12 hv2).mono ?_; rintro e w3 ⟨z, rfl, hr3, hb3⟩)
    have HX : Hid (IBuilt2 w bs ok (.returned (.tuple #[z, .bool ok])) w3) := IBuilt2.from_ ⟨z, rfl, hr3, hb3⟩ hb12
    clear hr3 hb3 hb12 hv2
    go_wp2
    go_ret2
    exact HX.out

theorem frd_len (fs : List Fm) (xs : List (Int × Bool)) : (frd fs xs).length ≤ 10000000 := by
  unfold frd
  split
  · have := R0_best_len (fs := fs) (s := stepsOf xs); omega
  · simp

/-- what measures a list of tones, whatever is left -/
theorem szToneL_any (a : Option Addr) (n c l : Nat) (hn : n ≤ 9223372036854775807) (hl : l ≤ 1048576) (w : World) :
    Calls Try.prog 29 #[.slice a n c, .int .i64 (l : Int)] w fun e w' => e = .returned (.int .i64 (if n ≤ l then (l : Int) - (n : Int) else -1)) ∧ w = w' := by
  by_cases h : n ≤ l
  · rw [if_pos h]
    have g : decide ((l : Int) - (n : Int) < 0) = false := by simp; omega
    go_enter Try.func29, Try.ntmps29
    go_wp2
    go_ret
    exact ⟨rfl, rfl⟩
  · rw [if_neg h]
    have g : decide ((l : Int) - (n : Int) < 0) = true := by simp; omega
    have g2 : l < n := by omega
    go_enter Try.func29, Try.ntmps29
    go_wp2
    go_ret
    exact ⟨rfl, rfl⟩
end Go.Proofs.Ytjhigjbfnemdjaa
