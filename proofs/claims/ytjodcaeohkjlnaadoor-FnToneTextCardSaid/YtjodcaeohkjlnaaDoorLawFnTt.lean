/-
  The law FnToneText: for every code, the text of a tone.
-/
import Derived.Test.YtjodcaeohkjlnaaDoorTxi
import Derived.Test.YtjodcaeohkjlnaaDoorTfi
import Derived.Test.YtjodcaeohkjlnaaDoorDraw6
import Derived.Deep.QuietTactic
import Derived.BigQuiet
import Derived.Deep.DeepHandedRow
import Derived.OpenVars
import Derived.Test.YtjodcaeohkjlnaaDoorCode
import Derived.Test.YtjodcaeohkjlnaaDoorCards
import Derived.Test.YtjodcaeohkjlnaaDoorTie
namespace Go.Proofs.YtjodcaeohkjlnaaDoor
open Go.RowKit Go.ChangeShapes Go.WideShapes Go.ChangeAt
set_option maxRecDepth 100000
set_option linter.unusedVariables false

/-- the letter that the law asks for -/
def lwt (s : Int) (b : Bool) : ByteArray := ⟨#[tb0 s b]⟩
theorem tb_up {s : Int} {b : Bool} : tb0 (s + 7) b = tb0 s b := by
  unfold tb0; rw [show (s + 7) % 7 = s % 7 by omega]
theorem tb1_up {s : Int} (h0 : 0 ≤ s) (h1 : s + 7 ≤ 20) : ((tb1 (s + 7)).toNat : Int) = (tb1 s).toNat + 1 ∧ (tb1 s).toNat ≤ 57 := by
  unfold tb1
  have : s / 7 = 0 ∨ s / 7 = 1 := by omega
  rw [show (s + 7) / 7 = s / 7 + 1 by omega]
  rcases this with h | h <;> rw [h] <;> decide
theorem slice1 (a b : UInt8) (W : World) : (Instr.slice 9 (Value.string ⟨#[a, b]⟩) none (some (Value.int .i64 1)) none).run Tryd.prog W = .ok (.string ⟨#[a]⟩) W := by kernel_rfl

set_option maxHeartbeats 8000000 in
theorem fnToneText_walk (a : Option Addr) (n cap : Nat) (w : World) (h : CodeAt w a n) (hc : n ≤ cap) (hcap : cap ≤ maxLen) :
    Calls Tryd.prog 3 #[.slice a n cap] w fun e w' => e = .returned (.bool true) ∧ Below w.heap.size w w' := by
  by_cases hn : 1048576 < n
  · have g : (1048576 : Int) < (n : Int) := by omega
    go_enter Tryd.func3, Tryd.ntmps3
    go_wp2
    go_ret
    exact ⟨rfl, Below.refl _ _⟩
  have g : decide ((1048576 : Int) < (n : Int)) = false := by simp; omega
  go_enter Tryd.func3, Tryd.ntmps3
  go_wp2_with (fail)
  (go_at_call 20; refine (drawToneText_any a n cap _ h hc hcap).mono ?_; rintro e w1 ⟨s, b, rfl, hs0, hs9, hb1⟩; obtain ⟨hc1, hf1, hz1⟩ := bl hb1; (try simp at hz1); clear hc1 hf1)
  clear h hc hcap g hn
  by_cases hv : vd s b = false
  · have e1 := ttx_no hv
    have e2 : ((⟨#[]⟩ : ByteArray).toList) = [] := by rw [ByteArray.toList_eq]
    go_wp2_with (fail)
    (go_at_call 21; refine (toneText_any _ _ _).mono ?_; rintro e w2 ⟨rfl, hb2⟩; obtain ⟨hc2, hf2, hz2⟩ := bl hb2; (try simp at hz2); (try (refine got (p := w1.heap.size < w2.heap.size) ?_ ?_; (focus (go_size; done)); intro q2_w10)); (try (refine got (p := w2.cell? ⟨w1.heap.size, 0, none⟩ = some (.int .i64 s)) ?_ ?_; (focus (refine (hc2 _ _ ?_).trans ?_; (focus (go_size; done)); go_simp; done)); intro c2_w10_0)); (try (refine got (p := w2.cell? ⟨w1.heap.size, 1, none⟩ = some (.bool b)) ?_ ?_; (focus (refine (hc2 _ _ ?_).trans ?_; (focus (go_size; done)); go_simp; done)); intro c2_w10_1)); (try (refine got (p := ∀ o, w2.frozen? ⟨w1.heap.size, o, none⟩ = false) ?_ ?_; (focus (intro o; refine (hf2 _ _ ?_).trans ?_; (focus (go_size; done)); go_simp; done)); intro f2_w10)); clear hc2 hf2)
    go_wp2_with (fail)
    (go_at_call 22; refine (sToneText_any _ _ _).mono ?_; rintro e w3 ⟨rfl, hb3⟩; obtain ⟨hc3, hf3, hz3⟩ := bl hb3; (try simp at hz3); (try (refine got (p := w1.heap.size < w3.heap.size) ?_ ?_; (focus (go_size; done)); intro q3_w10)); (try (refine got (p := w3.cell? ⟨w1.heap.size, 0, none⟩ = some (.int .i64 s)) ?_ ?_; (focus (refine (hc3 _ _ ?_).trans ?_; (focus (go_size; done)); go_simp; done)); intro c3_w10_0)); (try (refine got (p := w3.cell? ⟨w1.heap.size, 1, none⟩ = some (.bool b)) ?_ ?_; (focus (refine (hc3 _ _ ?_).trans ?_; (focus (go_size; done)); go_simp; done)); intro c3_w10_1)); (try (refine got (p := ∀ o, w3.frozen? ⟨w1.heap.size, o, none⟩ = false) ?_ ?_; (focus (intro o; refine (hf3 _ _ ?_).trans ?_; (focus (go_size; done)); go_simp; done)); intro f3_w10)); clear hc3 hf3)
    go_wp2
    go_ret
    exact ⟨by first | rfl | simp, by (repeat' (first | (with_reducible exact Below.refl _ _) | (with_reducible refine Below.alloc ?_ ?_ _) | (with_reducible refine Below.drew ?_) | (with_reducible refine Below.setCell ?_ ?_ _) | (with_reducible refine bl_step ?_ (by assumption)) | go_size))⟩
  rw [Bool.not_eq_false] at hv
  obtain ⟨h0, h1⟩ := vd_in hv
  have e1 := ttx_yes hv
  have hz : (⟨#[tb0 s b, tb1 s]⟩ : ByteArray).size ≤ 9223372036854775807 := by show 2 ≤ _; omega
  have K := toneFrom_any ⟨#[tb0 s b, tb1 s]⟩ hz
  have ht := tfr_valid hv
  rw [e1] at ht
  rw [ht] at K
  have KF := Lib.hid K
  have K2 := Lib.hid (toneText_any s b)
  have K3 := Lib.hid (sToneText_any s b)
  rw [e1] at K2 K3
  clear K ht
  have hx0 : ∀ h, (⟨#[tb0 s b, tb1 s]⟩ : ByteArray)[1]'h = tb1 s := fun _ => rfl
  have hs1 := slice1 (tb0 s b) (tb1 s)
  have n0 : (((⟨#[tb0 s b, tb1 s]⟩ : ByteArray).toList) == []) = false := by rw [ByteArray.toList_eq]; rfl
  have n1 : (((⟨#[tb0 s b, tb1 s]⟩ : ByteArray).toList) != ((⟨#[tb0 s b, tb1 s]⟩ : ByteArray).toList)) = false := by simp
  go_wp2_with (fail)
  (go_at_call 21; refine (K2.out _).mono ?_; rintro e w2 ⟨rfl, hb2⟩; obtain ⟨hc2, hf2, hz2⟩ := bl hb2; (try simp at hz2); (try (refine got (p := w1.heap.size < w2.heap.size) ?_ ?_; (focus (go_size; done)); intro q2_w10)); (try (refine got (p := w2.cell? ⟨w1.heap.size, 0, none⟩ = some (.int .i64 s)) ?_ ?_; (focus (refine (hc2 _ _ ?_).trans ?_; (focus (go_size; done)); go_simp; done)); intro c2_w10_0)); (try (refine got (p := w2.cell? ⟨w1.heap.size, 1, none⟩ = some (.bool b)) ?_ ?_; (focus (refine (hc2 _ _ ?_).trans ?_; (focus (go_size; done)); go_simp; done)); intro c2_w10_1)); (try (refine got (p := ∀ o, w2.frozen? ⟨w1.heap.size, o, none⟩ = false) ?_ ?_; (focus (intro o; refine (hf2 _ _ ?_).trans ?_; (focus (go_size; done)); go_simp; done)); intro f2_w10)); clear hc2 hf2)
  go_wp2_with (fail)
  (go_at_call 22; refine (K3.out _).mono ?_; rintro e w3 ⟨rfl, hb3⟩; obtain ⟨hc3, hf3, hz3⟩ := bl hb3; (try simp at hz3); (try (refine got (p := w1.heap.size < w3.heap.size) ?_ ?_; (focus (go_size; done)); intro q3_w10)); (try (refine got (p := w3.cell? ⟨w1.heap.size, 0, none⟩ = some (.int .i64 s)) ?_ ?_; (focus (refine (hc3 _ _ ?_).trans ?_; (focus (go_size; done)); go_simp; done)); intro c3_w10_0)); (try (refine got (p := w3.cell? ⟨w1.heap.size, 1, none⟩ = some (.bool b)) ?_ ?_; (focus (refine (hc3 _ _ ?_).trans ?_; (focus (go_size; done)); go_simp; done)); intro c3_w10_1)); (try (refine got (p := ∀ o, w3.frozen? ⟨w1.heap.size, o, none⟩ = false) ?_ ?_; (focus (intro o; refine (hf3 _ _ ?_).trans ?_; (focus (go_size; done)); go_simp; done)); intro f3_w10)); clear hc3 hf3)
  cases b
  · have hp0 := hv
    have KL := Lib.hid (toneLetter_any s false)
    have hlt : tl s false = ltr s := tl_yes hv
    rw [hlt] at KL
    clear hlt
    have c1 : ((⟨#[tb0 s false]⟩ : ByteArray).toList == (ltr s).toList) = true := by first | (rw [ByteArray.toList_eq]; rfl) | (rw [ByteArray.toList_eq, ByteArray.toList_eq]; simp [ltr, tb0])
    have c1' : ([tb0 s false] = (ltr s).toList) = True := by
      apply eq_true
      have := c1
      rw [beq_iff_eq, ByteArray.toList_eq] at this
      exact this
    by_cases hq : abv s false 7 false = false
    · obtain ⟨e3, e4⟩ := ab_no hq
      have KT := Lib.hid (toneText_any 0 false)
      clear hv hp0
      skip
      go_wp2_with (fail)
      (go_at_call 23; refine (KF.out _).mono ?_; rintro e w4 ⟨rfl, hb4⟩; obtain ⟨hc4, hf4, hz4⟩ := bl hb4; (try simp at hz4); (try (refine got (p := w1.heap.size < w4.heap.size) ?_ ?_; (focus (go_size; done)); intro q4_w10)); (try (refine got (p := w4.cell? ⟨w1.heap.size, 0, none⟩ = some (.int .i64 s)) ?_ ?_; (focus (refine (hc4 _ _ ?_).trans ?_; (focus (go_size; done)); go_simp; done)); intro c4_w10_0)); (try (refine got (p := w4.cell? ⟨w1.heap.size, 1, none⟩ = some (.bool false)) ?_ ?_; (focus (refine (hc4 _ _ ?_).trans ?_; (focus (go_size; done)); go_simp; done)); intro c4_w10_1)); (try (refine got (p := ∀ o, w4.frozen? ⟨w1.heap.size, o, none⟩ = false) ?_ ?_; (focus (intro o; refine (hf4 _ _ ?_).trans ?_; (focus (go_size; done)); go_simp; done)); intro f4_w10)); (try (refine got (p := w5.heap.size < w4.heap.size) ?_ ?_; (focus (go_size; done)); intro q4_w50)); (try (refine got (p := w4.cell? ⟨w5.heap.size, 0, none⟩ = some (.int .i64 (abS s false 7 false))) ?_ ?_; (focus (refine (hc4 _ _ ?_).trans ?_; (focus (go_size; done)); go_simp; done)); intro c4_w50_0)); (try (refine got (p := w4.cell? ⟨w5.heap.size, 1, none⟩ = some (.bool (abB s false 7 false))) ?_ ?_; (focus (refine (hc4 _ _ ?_).trans ?_; (focus (go_size; done)); go_simp; done)); intro c4_w50_1)); (try (refine got (p := ∀ o, w4.frozen? ⟨w5.heap.size, o, none⟩ = false) ?_ ?_; (focus (intro o; refine (hf4 _ _ ?_).trans ?_; (focus (go_size; done)); go_simp; done)); intro f4_w50)); clear hc4 hf4)
      go_wp2_with (fail)
      (go_at_call 24; refine (toneAbove_any _ _ _ _ _).mono ?_; rintro e w5 ⟨rfl, hb5⟩; obtain ⟨hc5, hf5, hz5⟩ := bl hb5; (try simp at hz5); (try (refine got (p := w1.heap.size < w5.heap.size) ?_ ?_; (focus (go_size; done)); intro q5_w10)); (try (refine got (p := w5.cell? ⟨w1.heap.size, 0, none⟩ = some (.int .i64 s)) ?_ ?_; (focus (refine (hc5 _ _ ?_).trans ?_; (focus (go_size; done)); go_simp; done)); intro c5_w10_0)); (try (refine got (p := w5.cell? ⟨w1.heap.size, 1, none⟩ = some (.bool false)) ?_ ?_; (focus (refine (hc5 _ _ ?_).trans ?_; (focus (go_size; done)); go_simp; done)); intro c5_w10_1)); (try (refine got (p := ∀ o, w5.frozen? ⟨w1.heap.size, o, none⟩ = false) ?_ ?_; (focus (intro o; refine (hf5 _ _ ?_).trans ?_; (focus (go_size; done)); go_simp; done)); intro f5_w10)); (try (refine got (p := w4.heap.size < w5.heap.size) ?_ ?_; (focus (go_size; done)); intro q5_w40)); (try (refine got (p := w5.cell? ⟨w4.heap.size, 0, none⟩ = some (.int .i64 s)) ?_ ?_; (focus (refine (hc5 _ _ ?_).trans ?_; (focus (go_size; done)); go_simp; done)); intro c5_w40_0)); (try (refine got (p := w5.cell? ⟨w4.heap.size, 1, none⟩ = some (.bool false)) ?_ ?_; (focus (refine (hc5 _ _ ?_).trans ?_; (focus (go_size; done)); go_simp; done)); intro c5_w40_1)); (try (refine got (p := ∀ o, w5.frozen? ⟨w4.heap.size, o, none⟩ = false) ?_ ?_; (focus (intro o; refine (hf5 _ _ ?_).trans ?_; (focus (go_size; done)); go_simp; done)); intro f5_w40)); clear hc5 hf5)
      go_wp2_with (fail)
      (go_at_call 25; refine (KL.out _).mono ?_; rintro e w6 ⟨rfl, hb6⟩; obtain ⟨hc6, hf6, hz6⟩ := bl hb6; (try simp at hz6); (try (refine got (p := w1.heap.size < w6.heap.size) ?_ ?_; (focus (go_size; done)); intro q6_w10)); (try (refine got (p := w6.cell? ⟨w1.heap.size, 0, none⟩ = some (.int .i64 s)) ?_ ?_; (focus (refine (hc6 _ _ ?_).trans ?_; (focus (go_size; done)); go_simp; done)); intro c6_w10_0)); (try (refine got (p := w6.cell? ⟨w1.heap.size, 1, none⟩ = some (.bool false)) ?_ ?_; (focus (refine (hc6 _ _ ?_).trans ?_; (focus (go_size; done)); go_simp; done)); intro c6_w10_1)); (try (refine got (p := ∀ o, w6.frozen? ⟨w1.heap.size, o, none⟩ = false) ?_ ?_; (focus (intro o; refine (hf6 _ _ ?_).trans ?_; (focus (go_size; done)); go_simp; done)); intro f6_w10)); (try (refine got (p := w4.heap.size < w6.heap.size) ?_ ?_; (focus (go_size; done)); intro q6_w40)); (try (refine got (p := w6.cell? ⟨w4.heap.size, 0, none⟩ = some (.int .i64 s)) ?_ ?_; (focus (refine (hc6 _ _ ?_).trans ?_; (focus (go_size; done)); go_simp; done)); intro c6_w40_0)); (try (refine got (p := w6.cell? ⟨w4.heap.size, 1, none⟩ = some (.bool false)) ?_ ?_; (focus (refine (hc6 _ _ ?_).trans ?_; (focus (go_size; done)); go_simp; done)); intro c6_w40_1)); (try (refine got (p := ∀ o, w6.frozen? ⟨w4.heap.size, o, none⟩ = false) ?_ ?_; (focus (intro o; refine (hf6 _ _ ?_).trans ?_; (focus (go_size; done)); go_simp; done)); intro f6_w40)); (try (refine got (p := w5.heap.size < w6.heap.size) ?_ ?_; (focus (go_size; done)); intro q6_w50)); (try (refine got (p := w6.cell? ⟨w5.heap.size, 0, none⟩ = some (.int .i64 (abS s false 7 false))) ?_ ?_; (focus (refine (hc6 _ _ ?_).trans ?_; (focus (go_size; done)); go_simp; done)); intro c6_w50_0)); (try (refine got (p := w6.cell? ⟨w5.heap.size, 1, none⟩ = some (.bool (abB s false 7 false))) ?_ ?_; (focus (refine (hc6 _ _ ?_).trans ?_; (focus (go_size; done)); go_simp; done)); intro c6_w50_1)); (try (refine got (p := ∀ o, w6.frozen? ⟨w5.heap.size, o, none⟩ = false) ?_ ?_; (focus (intro o; refine (hf6 _ _ ?_).trans ?_; (focus (go_size; done)); go_simp; done)); intro f6_w50)); clear hc6 hf6)
      go_wp2_with (fail)
      (go_at_call 21; refine (KT.out _).mono ?_; rintro e w7 ⟨rfl, hb7⟩; obtain ⟨hc7, hf7, hz7⟩ := bl hb7; (try simp at hz7); (try (refine got (p := w1.heap.size < w7.heap.size) ?_ ?_; (focus (go_size; done)); intro q7_w10)); (try (refine got (p := w7.cell? ⟨w1.heap.size, 0, none⟩ = some (.int .i64 s)) ?_ ?_; (focus (refine (hc7 _ _ ?_).trans ?_; (focus (go_size; done)); go_simp; done)); intro c7_w10_0)); (try (refine got (p := w7.cell? ⟨w1.heap.size, 1, none⟩ = some (.bool false)) ?_ ?_; (focus (refine (hc7 _ _ ?_).trans ?_; (focus (go_size; done)); go_simp; done)); intro c7_w10_1)); (try (refine got (p := ∀ o, w7.frozen? ⟨w1.heap.size, o, none⟩ = false) ?_ ?_; (focus (intro o; refine (hf7 _ _ ?_).trans ?_; (focus (go_size; done)); go_simp; done)); intro f7_w10)); (try (refine got (p := w4.heap.size < w7.heap.size) ?_ ?_; (focus (go_size; done)); intro q7_w40)); (try (refine got (p := w7.cell? ⟨w4.heap.size, 0, none⟩ = some (.int .i64 s)) ?_ ?_; (focus (refine (hc7 _ _ ?_).trans ?_; (focus (go_size; done)); go_simp; done)); intro c7_w40_0)); (try (refine got (p := w7.cell? ⟨w4.heap.size, 1, none⟩ = some (.bool false)) ?_ ?_; (focus (refine (hc7 _ _ ?_).trans ?_; (focus (go_size; done)); go_simp; done)); intro c7_w40_1)); (try (refine got (p := ∀ o, w7.frozen? ⟨w4.heap.size, o, none⟩ = false) ?_ ?_; (focus (intro o; refine (hf7 _ _ ?_).trans ?_; (focus (go_size; done)); go_simp; done)); intro f7_w40)); (try (refine got (p := w5.heap.size < w7.heap.size) ?_ ?_; (focus (go_size; done)); intro q7_w50)); (try (refine got (p := w7.cell? ⟨w5.heap.size, 0, none⟩ = some (.int .i64 (abS s false 7 false))) ?_ ?_; (focus (refine (hc7 _ _ ?_).trans ?_; (focus (go_size; done)); go_simp; done)); intro c7_w50_0)); (try (refine got (p := w7.cell? ⟨w5.heap.size, 1, none⟩ = some (.bool (abB s false 7 false))) ?_ ?_; (focus (refine (hc7 _ _ ?_).trans ?_; (focus (go_size; done)); go_simp; done)); intro c7_w50_1)); (try (refine got (p := ∀ o, w7.frozen? ⟨w5.heap.size, o, none⟩ = false) ?_ ?_; (focus (intro o; refine (hf7 _ _ ?_).trans ?_; (focus (go_size; done)); go_simp; done)); intro f7_w50)); clear hc7 hf7)
      have hbw : Below w.heap.size w w7 := by (repeat' (first | (with_reducible exact Below.refl _ _) | (with_reducible refine Below.alloc ?_ ?_ _) | (with_reducible refine Below.drew ?_) | (with_reducible refine Below.setCell ?_ ?_ _) | (with_reducible refine bl_step ?_ (by assumption)) | go_size))
      go_wp2
      (with_reducible refine wp_region_quiet_lit (by kernel_rfl) (by kernel_rfl) ?_)
      iterate 36
        (with_reducible refine wpQuiet_step (fun K hK => ?_))
        go_simp
        (first | (with_reducible refine hK _ ?_) | (rw [if_neg (by first | decide | simp [undef])]; with_reducible refine hK _ ?_))
        clear hK K
      (with_reducible refine wpQuiet_nil ?_)
      intro _ hw'
      obtain ⟨nq, hw''⟩ := hw'
      subst hw''
      all_goals go_wp2
      all_goals go_ret
      all_goals exact ⟨by first | rfl | (simp; done) | (simp [c1']; done), bl_drewN6 hbw _⟩
    rw [Bool.not_eq_false] at hq
    obtain ⟨e3, e4⟩ := ab_yes hq
    have hv7 : vd (s + 7) false = true := by simp [abv] at hq; exact hq.2
    have KT := Lib.hid (toneText_any (s + 7) false)
    rw [ttx_yes hv7, tb_up] at KT
    obtain ⟨u0, u1⟩ := tb1_up h0 (vd_in hv7).2
    have hx7 : ∀ h, (⟨#[tb0 s false, tb1 (s + 7)]⟩ : ByteArray)[1]'h = tb1 (s + 7) := fun _ => rfl
    have hs7 := slice1 (tb0 s false) (tb1 (s + 7))
    have hw : IntKind.u8.wrap (((tb1 s).toNat : Int) + 1) = ((tb1 s).toNat : Int) + 1 := by simp [IntKind.wrap, IntKind.signed, IntKind.bits]; omega
    have c2 : (((tb1 (s + 7)).toNat : Int) == ((tb1 s).toNat : Int) + 1) = true := by simp; omega
    clear hv hp0 hv7
    skip
    go_wp2_with (fail)
    (go_at_call 23; refine (KF.out _).mono ?_; rintro e w4 ⟨rfl, hb4⟩; obtain ⟨hc4, hf4, hz4⟩ := bl hb4; (try simp at hz4); (try (refine got (p := w1.heap.size < w4.heap.size) ?_ ?_; (focus (go_size; done)); intro q4_w10)); (try (refine got (p := w4.cell? ⟨w1.heap.size, 0, none⟩ = some (.int .i64 s)) ?_ ?_; (focus (refine (hc4 _ _ ?_).trans ?_; (focus (go_size; done)); go_simp; done)); intro c4_w10_0)); (try (refine got (p := w4.cell? ⟨w1.heap.size, 1, none⟩ = some (.bool false)) ?_ ?_; (focus (refine (hc4 _ _ ?_).trans ?_; (focus (go_size; done)); go_simp; done)); intro c4_w10_1)); (try (refine got (p := ∀ o, w4.frozen? ⟨w1.heap.size, o, none⟩ = false) ?_ ?_; (focus (intro o; refine (hf4 _ _ ?_).trans ?_; (focus (go_size; done)); go_simp; done)); intro f4_w10)); (try (refine got (p := w5.heap.size < w4.heap.size) ?_ ?_; (focus (go_size; done)); intro q4_w50)); (try (refine got (p := w4.cell? ⟨w5.heap.size, 0, none⟩ = some (.int .i64 (abS s false 7 false))) ?_ ?_; (focus (refine (hc4 _ _ ?_).trans ?_; (focus (go_size; done)); go_simp; done)); intro c4_w50_0)); (try (refine got (p := w4.cell? ⟨w5.heap.size, 1, none⟩ = some (.bool (abB s false 7 false))) ?_ ?_; (focus (refine (hc4 _ _ ?_).trans ?_; (focus (go_size; done)); go_simp; done)); intro c4_w50_1)); (try (refine got (p := ∀ o, w4.frozen? ⟨w5.heap.size, o, none⟩ = false) ?_ ?_; (focus (intro o; refine (hf4 _ _ ?_).trans ?_; (focus (go_size; done)); go_simp; done)); intro f4_w50)); clear hc4 hf4)
    go_wp2_with (fail)
    (go_at_call 24; refine (toneAbove_any _ _ _ _ _).mono ?_; rintro e w5 ⟨rfl, hb5⟩; obtain ⟨hc5, hf5, hz5⟩ := bl hb5; (try simp at hz5); (try (refine got (p := w1.heap.size < w5.heap.size) ?_ ?_; (focus (go_size; done)); intro q5_w10)); (try (refine got (p := w5.cell? ⟨w1.heap.size, 0, none⟩ = some (.int .i64 s)) ?_ ?_; (focus (refine (hc5 _ _ ?_).trans ?_; (focus (go_size; done)); go_simp; done)); intro c5_w10_0)); (try (refine got (p := w5.cell? ⟨w1.heap.size, 1, none⟩ = some (.bool false)) ?_ ?_; (focus (refine (hc5 _ _ ?_).trans ?_; (focus (go_size; done)); go_simp; done)); intro c5_w10_1)); (try (refine got (p := ∀ o, w5.frozen? ⟨w1.heap.size, o, none⟩ = false) ?_ ?_; (focus (intro o; refine (hf5 _ _ ?_).trans ?_; (focus (go_size; done)); go_simp; done)); intro f5_w10)); (try (refine got (p := w4.heap.size < w5.heap.size) ?_ ?_; (focus (go_size; done)); intro q5_w40)); (try (refine got (p := w5.cell? ⟨w4.heap.size, 0, none⟩ = some (.int .i64 s)) ?_ ?_; (focus (refine (hc5 _ _ ?_).trans ?_; (focus (go_size; done)); go_simp; done)); intro c5_w40_0)); (try (refine got (p := w5.cell? ⟨w4.heap.size, 1, none⟩ = some (.bool false)) ?_ ?_; (focus (refine (hc5 _ _ ?_).trans ?_; (focus (go_size; done)); go_simp; done)); intro c5_w40_1)); (try (refine got (p := ∀ o, w5.frozen? ⟨w4.heap.size, o, none⟩ = false) ?_ ?_; (focus (intro o; refine (hf5 _ _ ?_).trans ?_; (focus (go_size; done)); go_simp; done)); intro f5_w40)); clear hc5 hf5)
    go_wp2_with (fail)
    (go_at_call 25; refine (KL.out _).mono ?_; rintro e w6 ⟨rfl, hb6⟩; obtain ⟨hc6, hf6, hz6⟩ := bl hb6; (try simp at hz6); (try (refine got (p := w1.heap.size < w6.heap.size) ?_ ?_; (focus (go_size; done)); intro q6_w10)); (try (refine got (p := w6.cell? ⟨w1.heap.size, 0, none⟩ = some (.int .i64 s)) ?_ ?_; (focus (refine (hc6 _ _ ?_).trans ?_; (focus (go_size; done)); go_simp; done)); intro c6_w10_0)); (try (refine got (p := w6.cell? ⟨w1.heap.size, 1, none⟩ = some (.bool false)) ?_ ?_; (focus (refine (hc6 _ _ ?_).trans ?_; (focus (go_size; done)); go_simp; done)); intro c6_w10_1)); (try (refine got (p := ∀ o, w6.frozen? ⟨w1.heap.size, o, none⟩ = false) ?_ ?_; (focus (intro o; refine (hf6 _ _ ?_).trans ?_; (focus (go_size; done)); go_simp; done)); intro f6_w10)); (try (refine got (p := w4.heap.size < w6.heap.size) ?_ ?_; (focus (go_size; done)); intro q6_w40)); (try (refine got (p := w6.cell? ⟨w4.heap.size, 0, none⟩ = some (.int .i64 s)) ?_ ?_; (focus (refine (hc6 _ _ ?_).trans ?_; (focus (go_size; done)); go_simp; done)); intro c6_w40_0)); (try (refine got (p := w6.cell? ⟨w4.heap.size, 1, none⟩ = some (.bool false)) ?_ ?_; (focus (refine (hc6 _ _ ?_).trans ?_; (focus (go_size; done)); go_simp; done)); intro c6_w40_1)); (try (refine got (p := ∀ o, w6.frozen? ⟨w4.heap.size, o, none⟩ = false) ?_ ?_; (focus (intro o; refine (hf6 _ _ ?_).trans ?_; (focus (go_size; done)); go_simp; done)); intro f6_w40)); (try (refine got (p := w5.heap.size < w6.heap.size) ?_ ?_; (focus (go_size; done)); intro q6_w50)); (try (refine got (p := w6.cell? ⟨w5.heap.size, 0, none⟩ = some (.int .i64 (abS s false 7 false))) ?_ ?_; (focus (refine (hc6 _ _ ?_).trans ?_; (focus (go_size; done)); go_simp; done)); intro c6_w50_0)); (try (refine got (p := w6.cell? ⟨w5.heap.size, 1, none⟩ = some (.bool (abB s false 7 false))) ?_ ?_; (focus (refine (hc6 _ _ ?_).trans ?_; (focus (go_size; done)); go_simp; done)); intro c6_w50_1)); (try (refine got (p := ∀ o, w6.frozen? ⟨w5.heap.size, o, none⟩ = false) ?_ ?_; (focus (intro o; refine (hf6 _ _ ?_).trans ?_; (focus (go_size; done)); go_simp; done)); intro f6_w50)); clear hc6 hf6)
    go_wp2_with (fail)
    (go_at_call 21; refine (KT.out _).mono ?_; rintro e w7 ⟨rfl, hb7⟩; obtain ⟨hc7, hf7, hz7⟩ := bl hb7; (try simp at hz7); (try (refine got (p := w1.heap.size < w7.heap.size) ?_ ?_; (focus (go_size; done)); intro q7_w10)); (try (refine got (p := w7.cell? ⟨w1.heap.size, 0, none⟩ = some (.int .i64 s)) ?_ ?_; (focus (refine (hc7 _ _ ?_).trans ?_; (focus (go_size; done)); go_simp; done)); intro c7_w10_0)); (try (refine got (p := w7.cell? ⟨w1.heap.size, 1, none⟩ = some (.bool false)) ?_ ?_; (focus (refine (hc7 _ _ ?_).trans ?_; (focus (go_size; done)); go_simp; done)); intro c7_w10_1)); (try (refine got (p := ∀ o, w7.frozen? ⟨w1.heap.size, o, none⟩ = false) ?_ ?_; (focus (intro o; refine (hf7 _ _ ?_).trans ?_; (focus (go_size; done)); go_simp; done)); intro f7_w10)); (try (refine got (p := w4.heap.size < w7.heap.size) ?_ ?_; (focus (go_size; done)); intro q7_w40)); (try (refine got (p := w7.cell? ⟨w4.heap.size, 0, none⟩ = some (.int .i64 s)) ?_ ?_; (focus (refine (hc7 _ _ ?_).trans ?_; (focus (go_size; done)); go_simp; done)); intro c7_w40_0)); (try (refine got (p := w7.cell? ⟨w4.heap.size, 1, none⟩ = some (.bool false)) ?_ ?_; (focus (refine (hc7 _ _ ?_).trans ?_; (focus (go_size; done)); go_simp; done)); intro c7_w40_1)); (try (refine got (p := ∀ o, w7.frozen? ⟨w4.heap.size, o, none⟩ = false) ?_ ?_; (focus (intro o; refine (hf7 _ _ ?_).trans ?_; (focus (go_size; done)); go_simp; done)); intro f7_w40)); (try (refine got (p := w5.heap.size < w7.heap.size) ?_ ?_; (focus (go_size; done)); intro q7_w50)); (try (refine got (p := w7.cell? ⟨w5.heap.size, 0, none⟩ = some (.int .i64 (abS s false 7 false))) ?_ ?_; (focus (refine (hc7 _ _ ?_).trans ?_; (focus (go_size; done)); go_simp; done)); intro c7_w50_0)); (try (refine got (p := w7.cell? ⟨w5.heap.size, 1, none⟩ = some (.bool (abB s false 7 false))) ?_ ?_; (focus (refine (hc7 _ _ ?_).trans ?_; (focus (go_size; done)); go_simp; done)); intro c7_w50_1)); (try (refine got (p := ∀ o, w7.frozen? ⟨w5.heap.size, o, none⟩ = false) ?_ ?_; (focus (intro o; refine (hf7 _ _ ?_).trans ?_; (focus (go_size; done)); go_simp; done)); intro f7_w50)); clear hc7 hf7)
    have hbw : Below w.heap.size w w7 := by (repeat' (first | (with_reducible exact Below.refl _ _) | (with_reducible refine Below.alloc ?_ ?_ _) | (with_reducible refine Below.drew ?_) | (with_reducible refine Below.setCell ?_ ?_ _) | (with_reducible refine bl_step ?_ (by assumption)) | go_size))
    go_wp2
    (with_reducible refine wp_region_quiet_lit (by kernel_rfl) (by kernel_rfl) ?_)
    iterate 36
      (with_reducible refine wpQuiet_step (fun K hK => ?_))
      go_simp
      (first | (with_reducible refine hK _ ?_) | (rw [if_neg (by first | decide | simp [undef])]; with_reducible refine hK _ ?_))
      clear hK K
    (with_reducible refine wpQuiet_nil ?_)
    intro _ hw'
    obtain ⟨nq, hw''⟩ := hw'
    subst hw''
    all_goals go_wp2
    all_goals go_ret
    all_goals exact ⟨by first | rfl | (simp; done) | (simp [c1']; done), bl_drewN6 hbw _⟩
  · have hp0 := hv
    have KL := Lib.hid (toneLetter_any s true)
    have hlt : tl s true = ltr s := tl_yes hv
    rw [hlt] at KL
    clear hlt
    have c1 : ((⟨#[tb0 s true]⟩ : ByteArray).toList == [98]) = true := by first | (rw [ByteArray.toList_eq]; rfl) | (rw [ByteArray.toList_eq, ByteArray.toList_eq]; simp [ltr, tb0])
    have c1' : tb0 s true = 98 := by rfl
    rw [c1'] at hs1 n0 n1 KF
    have hx0 : ∀ h, (⟨#[98, tb1 s]⟩ : ByteArray)[1]'h = tb1 s := fun _ => rfl
    by_cases hq : abv s true 7 true = false
    · obtain ⟨e3, e4⟩ := ab_no hq
      have KT := Lib.hid (toneText_any 0 false)
      clear hv hp0
      skip
      go_wp2_with (fail)
      (go_at_call 23; refine (KF.out _).mono ?_; rintro e w4 ⟨rfl, hb4⟩; obtain ⟨hc4, hf4, hz4⟩ := bl hb4; (try simp at hz4); (try (refine got (p := w1.heap.size < w4.heap.size) ?_ ?_; (focus (go_size; done)); intro q4_w10)); (try (refine got (p := w4.cell? ⟨w1.heap.size, 0, none⟩ = some (.int .i64 s)) ?_ ?_; (focus (refine (hc4 _ _ ?_).trans ?_; (focus (go_size; done)); go_simp; done)); intro c4_w10_0)); (try (refine got (p := w4.cell? ⟨w1.heap.size, 1, none⟩ = some (.bool true)) ?_ ?_; (focus (refine (hc4 _ _ ?_).trans ?_; (focus (go_size; done)); go_simp; done)); intro c4_w10_1)); (try (refine got (p := ∀ o, w4.frozen? ⟨w1.heap.size, o, none⟩ = false) ?_ ?_; (focus (intro o; refine (hf4 _ _ ?_).trans ?_; (focus (go_size; done)); go_simp; done)); intro f4_w10)); (try (refine got (p := w5.heap.size < w4.heap.size) ?_ ?_; (focus (go_size; done)); intro q4_w50)); (try (refine got (p := w4.cell? ⟨w5.heap.size, 0, none⟩ = some (.int .i64 (abS s true 7 true))) ?_ ?_; (focus (refine (hc4 _ _ ?_).trans ?_; (focus (go_size; done)); go_simp; done)); intro c4_w50_0)); (try (refine got (p := w4.cell? ⟨w5.heap.size, 1, none⟩ = some (.bool (abB s true 7 true))) ?_ ?_; (focus (refine (hc4 _ _ ?_).trans ?_; (focus (go_size; done)); go_simp; done)); intro c4_w50_1)); (try (refine got (p := ∀ o, w4.frozen? ⟨w5.heap.size, o, none⟩ = false) ?_ ?_; (focus (intro o; refine (hf4 _ _ ?_).trans ?_; (focus (go_size; done)); go_simp; done)); intro f4_w50)); clear hc4 hf4)
      go_wp2_with (fail)
      (go_at_call 24; refine (toneAbove_any _ _ _ _ _).mono ?_; rintro e w5 ⟨rfl, hb5⟩; obtain ⟨hc5, hf5, hz5⟩ := bl hb5; (try simp at hz5); (try (refine got (p := w1.heap.size < w5.heap.size) ?_ ?_; (focus (go_size; done)); intro q5_w10)); (try (refine got (p := w5.cell? ⟨w1.heap.size, 0, none⟩ = some (.int .i64 s)) ?_ ?_; (focus (refine (hc5 _ _ ?_).trans ?_; (focus (go_size; done)); go_simp; done)); intro c5_w10_0)); (try (refine got (p := w5.cell? ⟨w1.heap.size, 1, none⟩ = some (.bool true)) ?_ ?_; (focus (refine (hc5 _ _ ?_).trans ?_; (focus (go_size; done)); go_simp; done)); intro c5_w10_1)); (try (refine got (p := ∀ o, w5.frozen? ⟨w1.heap.size, o, none⟩ = false) ?_ ?_; (focus (intro o; refine (hf5 _ _ ?_).trans ?_; (focus (go_size; done)); go_simp; done)); intro f5_w10)); (try (refine got (p := w4.heap.size < w5.heap.size) ?_ ?_; (focus (go_size; done)); intro q5_w40)); (try (refine got (p := w5.cell? ⟨w4.heap.size, 0, none⟩ = some (.int .i64 s)) ?_ ?_; (focus (refine (hc5 _ _ ?_).trans ?_; (focus (go_size; done)); go_simp; done)); intro c5_w40_0)); (try (refine got (p := w5.cell? ⟨w4.heap.size, 1, none⟩ = some (.bool true)) ?_ ?_; (focus (refine (hc5 _ _ ?_).trans ?_; (focus (go_size; done)); go_simp; done)); intro c5_w40_1)); (try (refine got (p := ∀ o, w5.frozen? ⟨w4.heap.size, o, none⟩ = false) ?_ ?_; (focus (intro o; refine (hf5 _ _ ?_).trans ?_; (focus (go_size; done)); go_simp; done)); intro f5_w40)); clear hc5 hf5)
      go_wp2_with (fail)
      (go_at_call 25; refine (KL.out _).mono ?_; rintro e w6 ⟨rfl, hb6⟩; obtain ⟨hc6, hf6, hz6⟩ := bl hb6; (try simp at hz6); (try (refine got (p := w1.heap.size < w6.heap.size) ?_ ?_; (focus (go_size; done)); intro q6_w10)); (try (refine got (p := w6.cell? ⟨w1.heap.size, 0, none⟩ = some (.int .i64 s)) ?_ ?_; (focus (refine (hc6 _ _ ?_).trans ?_; (focus (go_size; done)); go_simp; done)); intro c6_w10_0)); (try (refine got (p := w6.cell? ⟨w1.heap.size, 1, none⟩ = some (.bool true)) ?_ ?_; (focus (refine (hc6 _ _ ?_).trans ?_; (focus (go_size; done)); go_simp; done)); intro c6_w10_1)); (try (refine got (p := ∀ o, w6.frozen? ⟨w1.heap.size, o, none⟩ = false) ?_ ?_; (focus (intro o; refine (hf6 _ _ ?_).trans ?_; (focus (go_size; done)); go_simp; done)); intro f6_w10)); (try (refine got (p := w4.heap.size < w6.heap.size) ?_ ?_; (focus (go_size; done)); intro q6_w40)); (try (refine got (p := w6.cell? ⟨w4.heap.size, 0, none⟩ = some (.int .i64 s)) ?_ ?_; (focus (refine (hc6 _ _ ?_).trans ?_; (focus (go_size; done)); go_simp; done)); intro c6_w40_0)); (try (refine got (p := w6.cell? ⟨w4.heap.size, 1, none⟩ = some (.bool true)) ?_ ?_; (focus (refine (hc6 _ _ ?_).trans ?_; (focus (go_size; done)); go_simp; done)); intro c6_w40_1)); (try (refine got (p := ∀ o, w6.frozen? ⟨w4.heap.size, o, none⟩ = false) ?_ ?_; (focus (intro o; refine (hf6 _ _ ?_).trans ?_; (focus (go_size; done)); go_simp; done)); intro f6_w40)); (try (refine got (p := w5.heap.size < w6.heap.size) ?_ ?_; (focus (go_size; done)); intro q6_w50)); (try (refine got (p := w6.cell? ⟨w5.heap.size, 0, none⟩ = some (.int .i64 (abS s true 7 true))) ?_ ?_; (focus (refine (hc6 _ _ ?_).trans ?_; (focus (go_size; done)); go_simp; done)); intro c6_w50_0)); (try (refine got (p := w6.cell? ⟨w5.heap.size, 1, none⟩ = some (.bool (abB s true 7 true))) ?_ ?_; (focus (refine (hc6 _ _ ?_).trans ?_; (focus (go_size; done)); go_simp; done)); intro c6_w50_1)); (try (refine got (p := ∀ o, w6.frozen? ⟨w5.heap.size, o, none⟩ = false) ?_ ?_; (focus (intro o; refine (hf6 _ _ ?_).trans ?_; (focus (go_size; done)); go_simp; done)); intro f6_w50)); clear hc6 hf6)
      go_wp2_with (fail)
      (go_at_call 21; refine (KT.out _).mono ?_; rintro e w7 ⟨rfl, hb7⟩; obtain ⟨hc7, hf7, hz7⟩ := bl hb7; (try simp at hz7); (try (refine got (p := w1.heap.size < w7.heap.size) ?_ ?_; (focus (go_size; done)); intro q7_w10)); (try (refine got (p := w7.cell? ⟨w1.heap.size, 0, none⟩ = some (.int .i64 s)) ?_ ?_; (focus (refine (hc7 _ _ ?_).trans ?_; (focus (go_size; done)); go_simp; done)); intro c7_w10_0)); (try (refine got (p := w7.cell? ⟨w1.heap.size, 1, none⟩ = some (.bool true)) ?_ ?_; (focus (refine (hc7 _ _ ?_).trans ?_; (focus (go_size; done)); go_simp; done)); intro c7_w10_1)); (try (refine got (p := ∀ o, w7.frozen? ⟨w1.heap.size, o, none⟩ = false) ?_ ?_; (focus (intro o; refine (hf7 _ _ ?_).trans ?_; (focus (go_size; done)); go_simp; done)); intro f7_w10)); (try (refine got (p := w4.heap.size < w7.heap.size) ?_ ?_; (focus (go_size; done)); intro q7_w40)); (try (refine got (p := w7.cell? ⟨w4.heap.size, 0, none⟩ = some (.int .i64 s)) ?_ ?_; (focus (refine (hc7 _ _ ?_).trans ?_; (focus (go_size; done)); go_simp; done)); intro c7_w40_0)); (try (refine got (p := w7.cell? ⟨w4.heap.size, 1, none⟩ = some (.bool true)) ?_ ?_; (focus (refine (hc7 _ _ ?_).trans ?_; (focus (go_size; done)); go_simp; done)); intro c7_w40_1)); (try (refine got (p := ∀ o, w7.frozen? ⟨w4.heap.size, o, none⟩ = false) ?_ ?_; (focus (intro o; refine (hf7 _ _ ?_).trans ?_; (focus (go_size; done)); go_simp; done)); intro f7_w40)); (try (refine got (p := w5.heap.size < w7.heap.size) ?_ ?_; (focus (go_size; done)); intro q7_w50)); (try (refine got (p := w7.cell? ⟨w5.heap.size, 0, none⟩ = some (.int .i64 (abS s true 7 true))) ?_ ?_; (focus (refine (hc7 _ _ ?_).trans ?_; (focus (go_size; done)); go_simp; done)); intro c7_w50_0)); (try (refine got (p := w7.cell? ⟨w5.heap.size, 1, none⟩ = some (.bool (abB s true 7 true))) ?_ ?_; (focus (refine (hc7 _ _ ?_).trans ?_; (focus (go_size; done)); go_simp; done)); intro c7_w50_1)); (try (refine got (p := ∀ o, w7.frozen? ⟨w5.heap.size, o, none⟩ = false) ?_ ?_; (focus (intro o; refine (hf7 _ _ ?_).trans ?_; (focus (go_size; done)); go_simp; done)); intro f7_w50)); clear hc7 hf7)
      have hbw : Below w.heap.size w w7 := by (repeat' (first | (with_reducible exact Below.refl _ _) | (with_reducible refine Below.alloc ?_ ?_ _) | (with_reducible refine Below.drew ?_) | (with_reducible refine Below.setCell ?_ ?_ _) | (with_reducible refine bl_step ?_ (by assumption)) | go_size))
      go_wp2
      (with_reducible refine wp_region_quiet_lit (by kernel_rfl) (by kernel_rfl) ?_)
      iterate 36
        (with_reducible refine wpQuiet_step (fun K hK => ?_))
        go_simp
        (first | (with_reducible refine hK _ ?_) | (rw [if_neg (by first | decide | simp [undef])]; with_reducible refine hK _ ?_))
        clear hK K
      (with_reducible refine wpQuiet_nil ?_)
      intro _ hw'
      obtain ⟨nq, hw''⟩ := hw'
      subst hw''
      all_goals go_wp2
      all_goals go_ret
      all_goals exact ⟨by first | rfl | (simp; done) | (simp [c1']; done), bl_drewN6 hbw _⟩
    rw [Bool.not_eq_false] at hq
    obtain ⟨e3, e4⟩ := ab_yes hq
    have hv7 : vd (s + 7) true = true := by simp [abv] at hq; exact hq.2
    have KT := Lib.hid (toneText_any (s + 7) true)
    rw [ttx_yes hv7, tb_up] at KT
    obtain ⟨u0, u1⟩ := tb1_up h0 (vd_in hv7).2
    have hx7 : ∀ h, (⟨#[98, tb1 (s + 7)]⟩ : ByteArray)[1]'h = tb1 (s + 7) := fun _ => rfl
    have hs7 := slice1 98 (tb1 (s + 7))
    have hw : IntKind.u8.wrap (((tb1 s).toNat : Int) + 1) = ((tb1 s).toNat : Int) + 1 := by simp [IntKind.wrap, IntKind.signed, IntKind.bits]; omega
    have c2 : (((tb1 (s + 7)).toNat : Int) == ((tb1 s).toNat : Int) + 1) = true := by simp; omega
    clear hv hp0 hv7
    skip
    go_wp2_with (fail)
    (go_at_call 23; refine (KF.out _).mono ?_; rintro e w4 ⟨rfl, hb4⟩; obtain ⟨hc4, hf4, hz4⟩ := bl hb4; (try simp at hz4); (try (refine got (p := w1.heap.size < w4.heap.size) ?_ ?_; (focus (go_size; done)); intro q4_w10)); (try (refine got (p := w4.cell? ⟨w1.heap.size, 0, none⟩ = some (.int .i64 s)) ?_ ?_; (focus (refine (hc4 _ _ ?_).trans ?_; (focus (go_size; done)); go_simp; done)); intro c4_w10_0)); (try (refine got (p := w4.cell? ⟨w1.heap.size, 1, none⟩ = some (.bool true)) ?_ ?_; (focus (refine (hc4 _ _ ?_).trans ?_; (focus (go_size; done)); go_simp; done)); intro c4_w10_1)); (try (refine got (p := ∀ o, w4.frozen? ⟨w1.heap.size, o, none⟩ = false) ?_ ?_; (focus (intro o; refine (hf4 _ _ ?_).trans ?_; (focus (go_size; done)); go_simp; done)); intro f4_w10)); (try (refine got (p := w5.heap.size < w4.heap.size) ?_ ?_; (focus (go_size; done)); intro q4_w50)); (try (refine got (p := w4.cell? ⟨w5.heap.size, 0, none⟩ = some (.int .i64 (abS s true 7 true))) ?_ ?_; (focus (refine (hc4 _ _ ?_).trans ?_; (focus (go_size; done)); go_simp; done)); intro c4_w50_0)); (try (refine got (p := w4.cell? ⟨w5.heap.size, 1, none⟩ = some (.bool (abB s true 7 true))) ?_ ?_; (focus (refine (hc4 _ _ ?_).trans ?_; (focus (go_size; done)); go_simp; done)); intro c4_w50_1)); (try (refine got (p := ∀ o, w4.frozen? ⟨w5.heap.size, o, none⟩ = false) ?_ ?_; (focus (intro o; refine (hf4 _ _ ?_).trans ?_; (focus (go_size; done)); go_simp; done)); intro f4_w50)); clear hc4 hf4)
    go_wp2_with (fail)
    (go_at_call 24; refine (toneAbove_any _ _ _ _ _).mono ?_; rintro e w5 ⟨rfl, hb5⟩; obtain ⟨hc5, hf5, hz5⟩ := bl hb5; (try simp at hz5); (try (refine got (p := w1.heap.size < w5.heap.size) ?_ ?_; (focus (go_size; done)); intro q5_w10)); (try (refine got (p := w5.cell? ⟨w1.heap.size, 0, none⟩ = some (.int .i64 s)) ?_ ?_; (focus (refine (hc5 _ _ ?_).trans ?_; (focus (go_size; done)); go_simp; done)); intro c5_w10_0)); (try (refine got (p := w5.cell? ⟨w1.heap.size, 1, none⟩ = some (.bool true)) ?_ ?_; (focus (refine (hc5 _ _ ?_).trans ?_; (focus (go_size; done)); go_simp; done)); intro c5_w10_1)); (try (refine got (p := ∀ o, w5.frozen? ⟨w1.heap.size, o, none⟩ = false) ?_ ?_; (focus (intro o; refine (hf5 _ _ ?_).trans ?_; (focus (go_size; done)); go_simp; done)); intro f5_w10)); (try (refine got (p := w4.heap.size < w5.heap.size) ?_ ?_; (focus (go_size; done)); intro q5_w40)); (try (refine got (p := w5.cell? ⟨w4.heap.size, 0, none⟩ = some (.int .i64 s)) ?_ ?_; (focus (refine (hc5 _ _ ?_).trans ?_; (focus (go_size; done)); go_simp; done)); intro c5_w40_0)); (try (refine got (p := w5.cell? ⟨w4.heap.size, 1, none⟩ = some (.bool true)) ?_ ?_; (focus (refine (hc5 _ _ ?_).trans ?_; (focus (go_size; done)); go_simp; done)); intro c5_w40_1)); (try (refine got (p := ∀ o, w5.frozen? ⟨w4.heap.size, o, none⟩ = false) ?_ ?_; (focus (intro o; refine (hf5 _ _ ?_).trans ?_; (focus (go_size; done)); go_simp; done)); intro f5_w40)); clear hc5 hf5)
    go_wp2_with (fail)
    (go_at_call 25; refine (KL.out _).mono ?_; rintro e w6 ⟨rfl, hb6⟩; obtain ⟨hc6, hf6, hz6⟩ := bl hb6; (try simp at hz6); (try (refine got (p := w1.heap.size < w6.heap.size) ?_ ?_; (focus (go_size; done)); intro q6_w10)); (try (refine got (p := w6.cell? ⟨w1.heap.size, 0, none⟩ = some (.int .i64 s)) ?_ ?_; (focus (refine (hc6 _ _ ?_).trans ?_; (focus (go_size; done)); go_simp; done)); intro c6_w10_0)); (try (refine got (p := w6.cell? ⟨w1.heap.size, 1, none⟩ = some (.bool true)) ?_ ?_; (focus (refine (hc6 _ _ ?_).trans ?_; (focus (go_size; done)); go_simp; done)); intro c6_w10_1)); (try (refine got (p := ∀ o, w6.frozen? ⟨w1.heap.size, o, none⟩ = false) ?_ ?_; (focus (intro o; refine (hf6 _ _ ?_).trans ?_; (focus (go_size; done)); go_simp; done)); intro f6_w10)); (try (refine got (p := w4.heap.size < w6.heap.size) ?_ ?_; (focus (go_size; done)); intro q6_w40)); (try (refine got (p := w6.cell? ⟨w4.heap.size, 0, none⟩ = some (.int .i64 s)) ?_ ?_; (focus (refine (hc6 _ _ ?_).trans ?_; (focus (go_size; done)); go_simp; done)); intro c6_w40_0)); (try (refine got (p := w6.cell? ⟨w4.heap.size, 1, none⟩ = some (.bool true)) ?_ ?_; (focus (refine (hc6 _ _ ?_).trans ?_; (focus (go_size; done)); go_simp; done)); intro c6_w40_1)); (try (refine got (p := ∀ o, w6.frozen? ⟨w4.heap.size, o, none⟩ = false) ?_ ?_; (focus (intro o; refine (hf6 _ _ ?_).trans ?_; (focus (go_size; done)); go_simp; done)); intro f6_w40)); (try (refine got (p := w5.heap.size < w6.heap.size) ?_ ?_; (focus (go_size; done)); intro q6_w50)); (try (refine got (p := w6.cell? ⟨w5.heap.size, 0, none⟩ = some (.int .i64 (abS s true 7 true))) ?_ ?_; (focus (refine (hc6 _ _ ?_).trans ?_; (focus (go_size; done)); go_simp; done)); intro c6_w50_0)); (try (refine got (p := w6.cell? ⟨w5.heap.size, 1, none⟩ = some (.bool (abB s true 7 true))) ?_ ?_; (focus (refine (hc6 _ _ ?_).trans ?_; (focus (go_size; done)); go_simp; done)); intro c6_w50_1)); (try (refine got (p := ∀ o, w6.frozen? ⟨w5.heap.size, o, none⟩ = false) ?_ ?_; (focus (intro o; refine (hf6 _ _ ?_).trans ?_; (focus (go_size; done)); go_simp; done)); intro f6_w50)); clear hc6 hf6)
    go_wp2_with (fail)
    (go_at_call 21; refine (KT.out _).mono ?_; rintro e w7 ⟨rfl, hb7⟩; obtain ⟨hc7, hf7, hz7⟩ := bl hb7; (try simp at hz7); (try (refine got (p := w1.heap.size < w7.heap.size) ?_ ?_; (focus (go_size; done)); intro q7_w10)); (try (refine got (p := w7.cell? ⟨w1.heap.size, 0, none⟩ = some (.int .i64 s)) ?_ ?_; (focus (refine (hc7 _ _ ?_).trans ?_; (focus (go_size; done)); go_simp; done)); intro c7_w10_0)); (try (refine got (p := w7.cell? ⟨w1.heap.size, 1, none⟩ = some (.bool true)) ?_ ?_; (focus (refine (hc7 _ _ ?_).trans ?_; (focus (go_size; done)); go_simp; done)); intro c7_w10_1)); (try (refine got (p := ∀ o, w7.frozen? ⟨w1.heap.size, o, none⟩ = false) ?_ ?_; (focus (intro o; refine (hf7 _ _ ?_).trans ?_; (focus (go_size; done)); go_simp; done)); intro f7_w10)); (try (refine got (p := w4.heap.size < w7.heap.size) ?_ ?_; (focus (go_size; done)); intro q7_w40)); (try (refine got (p := w7.cell? ⟨w4.heap.size, 0, none⟩ = some (.int .i64 s)) ?_ ?_; (focus (refine (hc7 _ _ ?_).trans ?_; (focus (go_size; done)); go_simp; done)); intro c7_w40_0)); (try (refine got (p := w7.cell? ⟨w4.heap.size, 1, none⟩ = some (.bool true)) ?_ ?_; (focus (refine (hc7 _ _ ?_).trans ?_; (focus (go_size; done)); go_simp; done)); intro c7_w40_1)); (try (refine got (p := ∀ o, w7.frozen? ⟨w4.heap.size, o, none⟩ = false) ?_ ?_; (focus (intro o; refine (hf7 _ _ ?_).trans ?_; (focus (go_size; done)); go_simp; done)); intro f7_w40)); (try (refine got (p := w5.heap.size < w7.heap.size) ?_ ?_; (focus (go_size; done)); intro q7_w50)); (try (refine got (p := w7.cell? ⟨w5.heap.size, 0, none⟩ = some (.int .i64 (abS s true 7 true))) ?_ ?_; (focus (refine (hc7 _ _ ?_).trans ?_; (focus (go_size; done)); go_simp; done)); intro c7_w50_0)); (try (refine got (p := w7.cell? ⟨w5.heap.size, 1, none⟩ = some (.bool (abB s true 7 true))) ?_ ?_; (focus (refine (hc7 _ _ ?_).trans ?_; (focus (go_size; done)); go_simp; done)); intro c7_w50_1)); (try (refine got (p := ∀ o, w7.frozen? ⟨w5.heap.size, o, none⟩ = false) ?_ ?_; (focus (intro o; refine (hf7 _ _ ?_).trans ?_; (focus (go_size; done)); go_simp; done)); intro f7_w50)); clear hc7 hf7)
    have hbw : Below w.heap.size w w7 := by (repeat' (first | (with_reducible exact Below.refl _ _) | (with_reducible refine Below.alloc ?_ ?_ _) | (with_reducible refine Below.drew ?_) | (with_reducible refine Below.setCell ?_ ?_ _) | (with_reducible refine bl_step ?_ (by assumption)) | go_size))
    go_wp2
    (with_reducible refine wp_region_quiet_lit (by kernel_rfl) (by kernel_rfl) ?_)
    iterate 36
      (with_reducible refine wpQuiet_step (fun K hK => ?_))
      go_simp
      (first | (with_reducible refine hK _ ?_) | (rw [if_neg (by first | decide | simp [undef])]; with_reducible refine hK _ ?_))
      clear hK K
    (with_reducible refine wpQuiet_nil ?_)
    intro _ hw'
    obtain ⟨nq, hw''⟩ := hw'
    subst hw''
    all_goals go_wp2
    all_goals go_ret
    all_goals exact ⟨by first | rfl | (simp; done) | (simp [c1']; done), bl_drewN6 hbw _⟩

noncomputable def fnToneText_world (os : Os) : World := { World.holding Tryd.prog os ⟨#[], #[], []⟩ with heap := ((((World.holding Tryd.prog os ⟨#[], #[], []⟩).heap.modify 7 fun | .cells _ t frozen => .cells #[.int .u8 0, .int .u8 1, .int .u8 28, .int .u8 2, .int .u8 29, .int .u8 14, .int .u8 24, .int .u8 3, .int .u8 30, .int .u8 22, .int .u8 20, .int .u8 15, .int .u8 25, .int .u8 17, .int .u8 4, .int .u8 8, .int .u8 31, .int .u8 27, .int .u8 13, .int .u8 23, .int .u8 21, .int .u8 19, .int .u8 16, .int .u8 7, .int .u8 26, .int .u8 12, .int .u8 18, .int .u8 6, .int .u8 11, .int .u8 5, .int .u8 10, .int .u8 9] t frozen | o => o).modify 8 fun | .cells _ t frozen => .cells #[.int .u8 0, .int .u8 1, .int .u8 56, .int .u8 2, .int .u8 57, .int .u8 49, .int .u8 28, .int .u8 3, .int .u8 61, .int .u8 58, .int .u8 42, .int .u8 50, .int .u8 38, .int .u8 29, .int .u8 17, .int .u8 4, .int .u8 62, .int .u8 47, .int .u8 59, .int .u8 36, .int .u8 45, .int .u8 43, .int .u8 51, .int .u8 22, .int .u8 53, .int .u8 39, .int .u8 33, .int .u8 30, .int .u8 24, .int .u8 18, .int .u8 12, .int .u8 5, .int .u8 63, .int .u8 55, .int .u8 48, .int .u8 27, .int .u8 60, .int .u8 41, .int .u8 37, .int .u8 16, .int .u8 46, .int .u8 35, .int .u8 44, .int .u8 21, .int .u8 52, .int .u8 32, .int .u8 23, .int .u8 11, .int .u8 54, .int .u8 26, .int .u8 40, .int .u8 15, .int .u8 34, .int .u8 20, .int .u8 31, .int .u8 10, .int .u8 25, .int .u8 14, .int .u8 19, .int .u8 9, .int .u8 13, .int .u8 8, .int .u8 7, .int .u8 6] t frozen | o => o).modify 4 fun | .cells _ t frozen => .cells #[.int .u64 1, .int .u64 10, .int .u64 100, .int .u64 1000, .int .u64 10000, .int .u64 100000, .int .u64 1000000, .int .u64 10000000, .int .u64 100000000, .int .u64 1000000000, .int .u64 10000000000, .int .u64 100000000000, .int .u64 1000000000000, .int .u64 10000000000000, .int .u64 100000000000000, .int .u64 1000000000000000, .int .u64 10000000000000000, .int .u64 100000000000000000, .int .u64 1000000000000000000, .int .u64 10000000000000000000] t frozen | o => o) }
theorem fnToneText_met (os : Os) : laidMet Tryd.prog Rows.fnToneTextRow.laid ((fnToneText_world os).forCall (fun _ _ => 0) ⟨#[], #[.slice none 0 0], []⟩).memory :=
  laidMet_of_run' 8 (by kernel_rfl) (by kernel_rfl)
theorem fnToneText_reads (os : Os) {H : Type} (enc : TypeId × Value → H) : ∃ places, DataW.whole enc Tryd.prog ((fnToneText_world os).forCall (fun _ _ => 0) ⟨#[], #[.slice none 0 0], []⟩).memory Tryd.f3.params.toList Rows.fnToneTextSpec.vars false (#[.slice none 0 0] : Array Value).toList 8 = some ([.nil], [], places) :=
  ⟨((DataW.whole enc Tryd.prog ((fnToneText_world os).forCall (fun _ _ => 0) ⟨#[], #[.slice none 0 0], []⟩).memory Tryd.f3.params.toList Rows.fnToneTextSpec.vars false (#[.slice none 0 0] : Array Value).toList 8).getD ([], [], [])).2.2, by kernel_rfl⟩
set_option maxRecDepth 100000 in
theorem fnToneText_lifted (os : Os) (started : os.Started) (H : Type) (enc : TypeId × Value → H) (F : Stop.Interp) :
    ReturnsInHanded {} Tryd.checked os 3 .any ((OpenSpec.ofChange Rows.fnToneTextSpec).preRow enc Tryd.prog Tryd.f3 Rows.fnToneTextRow.domain false Rows.fnToneTextRow.laid) (((OpenSpec.ofChange Rows.fnToneTextSpec).at F).post enc Tryd.prog Tryd.f3 false true false false) := by
  obtain ⟨places, hx⟩ := fnToneText_reads os enc
  refine returnsInHanded_of_row (C := Tryd.checked) (s := OpenSpec.ofChange Rows.fnToneTextSpec) own started (by kernel_rfl) Tryd.func3
    (witness_row_at (enc := enc) (C := Tryd.checked) false (fnToneText_world os) #[.slice none 0 0] rfl (by kernel_rfl) (by kernel_rfl) (by kernel_rfl)
      (OpenSpec.preRow_of_cond 8 hx (by kernel_rfl) (fun k hk => by cases hk) (by kernel_rfl) (fnToneText_met os))) ?_
  intro W base args ds gs before hval0 hW _ _ _ hL _ _
  have hval : ∀ (j : Nat) t v, Tryd.f3.params[j]? = some t → args[j]? = some v → Value.okWide Tryd.prog W .any base t v := hval0
  have hW' := hW
  obtain ⟨p, q, hA0, hV, rfl, _, _⟩ := hW
  have hA : DataW.TrodAll enc Tryd.prog W 0 (fun _ => true) true Tryd.f3.params.toList args.toList ds p := hA0
  rw [Tryd.params3] at hA hval
  obtain ⟨v0, vs0, d0, ds0, p0, q0, hargs, rfl, rfl, h0, r0⟩ := trodAll_cons hA
  obtain ⟨rfl, rfl, rfl⟩ := trodAll_nil r0
  obtain rfl : args = #[v0] := by cases args; simp_all
  obtain ⟨rfl, rfl⟩ := trodVars_none hV
  obtain ⟨a0, n0, c0, rfl⟩ := okWide_slice Tryd.underlying22 (hval 0 22 v0 rfl rfl)
  have k0 := h0
  have lt0 : ∀ x ∈ p0, x.block < W.heap.size := by obtain ⟨m, hm⟩ := k0; exact DataW.trod_lt m _ _ _ hm
  have y0 := code_in h0
  clear hA0 hval0
  refine (fnToneText_walk a0 n0 c0 W y0.1 y0.2.1 y0.2.2).mono fun e W' ⟨he, hb⟩ => ?_
  subst he
  exact ⟨_, rfl, _, _, _, [], _, [], hW', trodAll_cons_mk (shut_bool Tryd.underlying4 _) trodAll_mk0, trodAll_cons_mk (Below.trod laidOut (by kernel_rfl) (of_decide_eq_true (by kernel_rfl)) k0 hb lt0) (trodAll_mk0), rfl, hb.frame _, fun h => by cases h⟩


end Go.Proofs.YtjodcaeohkjlnaaDoor
