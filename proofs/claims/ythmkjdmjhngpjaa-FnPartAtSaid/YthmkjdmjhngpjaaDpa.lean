/-
  The draw of a part and a beat.
-/
import Derived.Test.YthmkjdmjhngpjaaDp8
import Derived.Test.YthmkjdmjhngpjaaAt8
import Derived.Test.YthmkjdmjhngpjaaSp8
namespace Go.Proofs.Ythmkjdmjhngpjaa
open Go.RowKit
set_option maxRecDepth 100000
set_option linter.unusedVariables false

/-- a part and a number of a draw -/
def DrewPart (w : World) (e : Ending) (w' : World) : Prop :=
  ∃ (v : Value) (xs : List Vc) (k : Int), e = .returned (.tuple #[v, .int .i64 k]) ∧ VV w' v xs ∧ -1 ≤ k ∧ k ≤ 1000 ∧ Below w.heap.size w w'
set_option maxHeartbeats 4000000 in
theorem drawPartAt_any (a : Option Addr) (n cap : Nat) (w : World) (h : CodeAt w a n) (hc : n ≤ cap) (hcap : cap ≤ maxLen) :
    Calls Try.prog 26 #[.slice a n cap] w (DrewPart w) := by
  go_enter Try.func26, Try.ntmps26
  go_wp2_with (fail)
  (go_at_call 36; refine (open_any a n cap _ h hc hcap).mono ?_; rintro e w1 ⟨A, rfl, hr1, hb1, hs1⟩)
  go_wp2_with (fail)
  (go_at_call 38; refine (pick_any 14 w.heap.size A 0 (by omega) (by omega) (by omega) _ hr1).mono ?_; rintro e w2 ⟨k2, rfl, h20, h21, hr2, hb2⟩)
  obtain ⟨kn, rfl⟩ : ∃ q : Nat, k2 = (q : Int) := ⟨k2.toNat, by omega⟩
  go_wp2_with (fail)
  (go_at_call 49; refine (l92Part_any w.heap.size A 1 kn (by omega) (by omega) _ hr2).mono ?_; rintro e w3 ⟨v, xs, rfl, hd, hxl⟩)
  have HE := Lib.hid (below_gb (below_gb hb1 hb2 (Nat.le_refl _)) hd.gb (Nat.le_refl _))
  have HD := Lib.hid hd
  have hz := hd.gb.size
  have hBlt := hr2.lt
  clear hr1 hb1 hr2 hb2 hd
  have HP := Lib.hid (sPartBeats_any v xs w3 HD.out.row.view)
  obtain ⟨z, hz9⟩ : ∃ z, pbt xs = z := ⟨_, rfl⟩
  have hzb : -1 ≤ z ∧ z ≤ 24 := by
    rw [← hz9]
    cases hp : pval xs with
    | false => rw [pbt_no hp]; omega
    | true => rw [pbt_yes hp]; have := pval_in hp; have := bsm_in this.1; omega
  rw [hz9] at HP
  clear hz9
  go_wp2_with (fail)
  (go_at_call 51; refine (HP.out).mono ?_; rintro e w4 ⟨rfl, hb4⟩)
  have HV4 := Lib.hid (HD.out.row.below hb4 (.inl (Nat.le_refl _)))
  have HR4 := Lib.hid (HD.out.rd.below hb4)
  have HE4 := Lib.hid (bl_step HE.out hb4)
  have hz4 := hb4.size
  clear hb4
  have key : ∀ {w5 : World}, w4.grownBy w5 (some w.heap.size) → VV w5 v xs ∧ Below w.heap.size w w5 := fun {w5} hg =>
    ⟨(HV4.out.keep fun k h1 h2 h3 => hg.block k h1 (fun e => by injection e; omega)).view, below_gb HE4.out hg (Nat.le_refl _)⟩
  have HK := Lib.hid (fun w5 hg => key (w5 := w5) hg)
  clear key
  obtain ⟨nn, hnn, hmx⟩ : ∃ nn : Nat, nn ≤ 24 ∧ ((z < 0 ∧ nn = 0) ∨ (0 ≤ z ∧ z = (nn : Int))) := by
    by_cases h0 : z < 0
    · exact ⟨0, by omega, .inl ⟨h0, rfl⟩⟩
    · exact ⟨z.toNat, by omega, .inr ⟨by omega, by omega⟩⟩
  have HL := Lib.hid (l91At_any w.heap.size A 41 nn (by omega) (by omega) w4 (HR4.out.more (by omega)))
  rcases hmx with ⟨h0, rfl⟩ | ⟨h0, rfl⟩
  · have g1 : decide ((0 : Int) ≤ z) = false := decide_eq_false (by omega)
    have g2 : decide (z ≤ 0) = true := decide_eq_true (by omega)
    go_wp2_with (fail)
    (go_at_call 50; refine (HL.out).mono ?_; rintro e w5 ⟨k, rfl, hk0, hk1, hr5, hg5⟩)
    have HX := Lib.hid (HK.out w5 hg5)
    clear hr5 hg5
    go_wp2
    go_ret2
    exact ⟨v, xs, k, rfl, HX.out.1, hk0, hk1, HX.out.2⟩
  by_cases hn0 : nn = 0
  · subst hn0
    go_wp2_with (fail)
    (go_at_call 50; refine (HL.out).mono ?_; rintro e w5 ⟨k, rfl, hk0, hk1, hr5, hg5⟩)
    have HX := Lib.hid (HK.out w5 hg5)
    clear hr5 hg5
    go_wp2
    go_ret2
    exact ⟨v, xs, k, rfl, HX.out.1, hk0, hk1, HX.out.2⟩
  · have g1 : (0 : Int) < (nn : Int) := by omega
    have g2 : 0 < nn := by omega
    have g3 : decide ((nn : Int) ≤ 0) = false := decide_eq_false (by omega)
    have g4 : decide (nn ≤ 0) = false := decide_eq_false (by omega)
    have g5 : decide (nn = 0) = false := decide_eq_false hn0
    have g6 : decide ((0 : Int) ≤ (nn : Int)) = true := decide_eq_true h0
    have g7 : decide (0 < nn) = true := decide_eq_true g2
    go_wp2_with (fail)
    (go_at_call 50; refine (HL.out).mono ?_; rintro e w5 ⟨k, rfl, hk0, hk1, hr5, hg5⟩)
    have HX := Lib.hid (HK.out w5 hg5)
    clear hr5 hg5
    go_wp2
    go_ret2
    exact ⟨v, xs, k, rfl, HX.out.1, hk0, hk1, HX.out.2⟩
end Go.Proofs.Ythmkjdmjhngpjaa
