/-
  Psalm tones marked by the exact laws' helper.
-/
import Derived.Test.YtcmcdomfmmjogaaPsh
namespace Go.Proofs.Ytcmcdomfmmjogaa
open Go.RowKit
set_option maxRecDepth 100000
set_option linter.unusedVariables false

def PMarked (w : World) (lo hi : Nat) (s : Int) (n : Nat) (e : Ending) (w' : World) : Prop :=
  e = .returned (.int .i64 (s + 2 * (n : Int))) ∧ Turned lo hi w w'
theorem Turned.trans {lo hi : Nat} {w w1 w2 : World} (h : Turned lo hi w w1) (k : Turned lo hi w1 w2) : Turned lo hi w w2 :=
  ⟨k.os.trans h.os, k.tape.trans h.tape, k.output.trans h.output, Nat.le_trans h.size k.size, fun i hi' ho => (k.block i (Nat.lt_of_lt_of_le hi' h.size) ho).trans (h.block i hi' ho)⟩
theorem Turned.wide {lo hi lo' hi' : Nat} {w w1 : World} (h : Turned lo hi w w1) (h1 : lo' ≤ lo) (h2 : hi ≤ hi') : Turned lo' hi' w w1 :=
  ⟨h.os, h.tape, h.output, h.size, fun i hi ho => h.block i hi (by omega)⟩
theorem Turned.of_below {lo hi : Nat} {w w1 : World} (h : Below w.heap.size w w1) : Turned lo hi w w1 := ⟨h.os, h.tape, h.output, h.size, fun i hi _ => h.block i hi⟩
theorem Turned.cellt {lo hi : Nat} {w w1 : World} (h : Turned lo hi w w1) {B o : Nat} {x : Value} (hc : w.cell? ⟨B, o, none⟩ = some x) (hB : B < lo ∨ hi ≤ B) : w1.cell? ⟨B, o, none⟩ = some x := by
  have := h.block B (World.block_lt_of_cell? w _ hc) hB
  unfold World.cell? at hc ⊢
  rw [this]; exact hc

set_option maxHeartbeats 4000000 in
theorem markPsalm_any (lo m1 m2 hi : Nat) (v0 v1 v2 : Value) (p : Psa) (s : Int) (hs : 0 ≤ s) (hs1 : s ≤ 1000000) (hx : p.st.length + p.mi.length + p.en.length ≤ 1048576) (w : World) (h : PRow w lo m1 m2 hi v0 v1 v2 p) (hhi : hi ≤ w.heap.size) :
    Calls Try.prog 43 #[.agg #[v0, .int .i64 p.tn.1, .bool p.tn.2, v1, v2], .int .i64 s] w (PMarked w lo hi s (p.st.length + p.mi.length + p.en.length)) := by
  have l0 := h.le0; have l1 := h.le1; have l2 := h.le2
  have K0 := Lib.hid (fun W k => markToneS_any lo m1 v0 p.st s hs (by omega) (by omega) W k)
  have K1 := Lib.hid (fun W k => markToneS_any m1 m2 v1 p.mi (s + 2 * (p.st.length : Int)) (by omega) (by omega) (by omega) W k)
  have K2 := Lib.hid (fun W k => markToneS_any m2 hi v2 p.en (s + 2 * (p.st.length : Int) + 2 * (p.mi.length : Int)) (by omega) (by omega) (by omega) W k)
  unfold TMarked at K0 K1 K2
  have HS := Lib.hid h.st
  have HM := Lib.hid h.mi
  have HE := Lib.hid h.en
  obtain ⟨a0, c0, rfl, _, _⟩ := (LV.sl ⟨_, _, h.st⟩)
  obtain ⟨a1, c1, rfl, _, _⟩ := (LV.sl ⟨_, _, h.mi⟩)
  obtain ⟨a2, c2, rfl, _, _⟩ := (LV.sl ⟨_, _, h.en⟩)
  clear h
  have HZ : Hid (s + 2 * (p.st.length : Int) + 2 * (p.mi.length : Int) + 2 * (p.en.length : Int) = s + 2 * ((p.st.length + p.mi.length + p.en.length : Nat) : Int)) := by show _ = _; omega
  generalize s + 2 * ((p.st.length + p.mi.length + p.en.length : Nat) : Int) = zz at HZ
  unfold PMarked
  have HP : Hid (s + 2 * ((p.st.length + p.mi.length + p.en.length : Nat) : Int) = s + 2 * (p.st.length : Int) + 2 * (p.mi.length : Int) + 2 * (p.en.length : Int)) := by show _ = _; omega
  generalize s + 2 * ((p.st.length + p.mi.length + p.en.length : Nat) : Int) = zz2 at HP ⊢
  have hw0 : Below w.heap.size w (w.alloc (.cells #[.slice a0 p.st.length c0, .int .i64 p.tn.1, .bool p.tn.2, .slice a1 p.mi.length c1, .slice a2 p.en.length c2] 27)) := (Below.refl _ _).alloc (Nat.le_refl _) _
  have HW0 := Lib.hid hw0
  have hs0 := HS.out.below hw0 (.inr (Nat.le_refl _))
  generalize s + 2 * (p.st.length : Int) + 2 * (p.mi.length : Int) + 2 * (p.en.length : Int) = q3 at *
  generalize s + 2 * (p.st.length : Int) + 2 * (p.mi.length : Int) = q2 at *
  generalize s + 2 * (p.st.length : Int) = q1 at *
  clear hx
  generalize p.st.length = n0 at *
  generalize p.mi.length = n1 at *
  generalize p.en.length = n2 at *
  generalize p.tn.1 = tt at *
  generalize p.tn.2 = tb at *
  clear hw0
  go_enter Try.func43, Try.ntmps43
  go_wp2_with (fail)
  (go_at_call 44; refine (K0.out _ hs0).mono ?_; rintro e wa ⟨rfl, _, ta⟩)
  have k0 : wa.cell? ⟨w.heap.size, 0, none⟩ = some (.slice a0 n0 c0) := ta.cellt (by go_simp) (.inr (by omega))
  have k1 : wa.cell? ⟨w.heap.size, 1, none⟩ = some (.int .i64 tt) := ta.cellt (by go_simp) (.inr (by omega))
  have k2 : wa.cell? ⟨w.heap.size, 2, none⟩ = some (.bool tb) := ta.cellt (by go_simp) (.inr (by omega))
  have k3 : wa.cell? ⟨w.heap.size, 3, none⟩ = some (.slice a1 n1 c1) := ta.cellt (by go_simp) (.inr (by omega))
  have k4 : wa.cell? ⟨w.heap.size, 4, none⟩ = some (.slice a2 n2 c2) := ta.cellt (by go_simp) (.inr (by omega))
  have hm1 := (HM.out.below HW0.out (.inr (Nat.le_refl _))).turned ta (.inr (Nat.le_refl _))
  have hTa : Turned lo hi w wa := (Turned.of_below HW0.out).trans (ta.wide (Nat.le_refl _) (by omega))
  have hEa := (HE.out.below HW0.out (.inr (Nat.le_refl _))).turned ta (.inr (by omega))
  have TA := Lib.hid hTa
  have EA := Lib.hid hEa
  clear ta hTa hEa hs0
  go_wp2_with (fail)
  (go_at_call 44; refine (K1.out _ hm1).mono ?_; rintro e wb ⟨rfl, _, tb'⟩)
  have j4 : wb.cell? ⟨w.heap.size, 4, none⟩ = some (.slice a2 n2 c2) := tb'.cellt k4 (.inr (by omega))
  have hEb := EA.out.turned tb' (.inr (Nat.le_refl _))
  have TB := Lib.hid (TA.out.trans (tb'.wide (by omega) (by omega)))
  clear tb' hm1 k0 k1 k2 k3 k4
  go_wp2_with (fail)
  (go_at_call 44; refine (K2.out _ hEb).mono ?_; rintro e wc ⟨rfl, _, tc⟩)
  have TC := Lib.hid (TB.out.trans (tc.wide (by omega) (by omega)))
  clear tc hEb
  go_wp2
  go_ret
  exact ⟨by rw [HP.out]; rfl, TC.out⟩
end Go.Proofs.Ytcmcdomfmmjogaa
