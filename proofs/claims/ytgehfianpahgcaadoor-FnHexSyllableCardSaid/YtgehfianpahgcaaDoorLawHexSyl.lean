/-
  The law FnHexSyllable: for all codes, two syllables of a hexachord are told by their interval.
-/
import Derived.Test.YtgehfianpahgcaaDoorLaid
import Derived.Test.YtgehfianpahgcaaDoorSemis
import Derived.Test.YtgehfianpahgcaaDoorDraw5
import Derived.Test.YtgehfianpahgcaaDoorCode
namespace Go.Proofs.YtgehfianpahgcaaDoor
open Go.RowKit Go.ChangeShapes Go.WideShapes Go.ChangeAt
set_option maxRecDepth 100000
set_option linter.unusedVariables false

theorem hsy_of {n s : Int} {b : Bool} (h : 0 ≤ hsy n s b) : hok n (hsy n s b) = true ∧ s = n + hsy n s b ∧ b = hsf n (hsy n s b) := by
  unfold hsy at h ⊢
  split
  · rename_i g
    simp at g
    exact ⟨g.1, by omega, g.2⟩
  · rename_i g; rw [if_neg g] at h; omega
/-- the semitones from one syllable to another one -/
def sse (n k j : Int) : Int := sem (n + k) (hsf n k) (n + j) (hsf n j)
theorem sse_facts {n k j : Int} (h : hok n k = true) (g : hok n j = true) : both (n + k) (hsf n k) (n + j) (hsf n j) = true ∧ ((sse n k j == 0) == (j == k)) = true ∧ -9 ≤ sse n k j ∧ sse n k j ≤ 9 ∧ (decide (0 < sse n k j) == decide (k < j)) = true := by
  obtain ⟨a, b, c⟩ := hok_in h
  obtain ⟨_, b', c'⟩ := hok_in g
  have hk : k = 0 ∨ k = 1 ∨ k = 2 ∨ k = 3 ∨ k = 4 ∨ k = 5 := by omega
  have hj : j = 0 ∨ j = 1 ∨ j = 2 ∨ j = 3 ∨ j = 4 ∨ j = 5 := by omega
  clear h g b c b' c'
  rcases hxv_cases a with rfl | rfl | rfl | rfl | rfl | rfl | rfl <;> rcases hk with rfl | rfl | rfl | rfl | rfl | rfl <;> rcases hj with rfl | rfl | rfl | rfl | rfl | rfl <;> decide +kernel

set_option maxHeartbeats 8000000 in
theorem fnHexSyllable_walk (a : Option Addr) (n cap : Nat) (a' : Option Addr) (n' cap' : Nat) (w : World) (h : CodeAt w a n) (hc : n ≤ cap) (hcap : cap ≤ maxLen) (hc' : n' ≤ cap') (hcap' : cap' ≤ maxLen) (ht : StepTab w) :
    Calls Tryd.prog 8 #[.slice a n cap, .slice a' n' cap'] w fun e w' => e = .returned (.bool true) ∧ Below w.heap.size w w' := by
  have HT := Lib.hid ht
  clear ht
  have hm9 : n' ≤ 9223372036854775807 := by unfold maxLen at hcap'; omega
  by_cases hn : 1048576 < n
  · have g : (1048576 : Int) < (n : Int) := by omega
    go_enter Tryd.func8, Tryd.ntmps8
    go_wp2
    go_ret
    exact ⟨rfl, Below.refl _ _⟩
  have g : decide ((1048576 : Int) < (n : Int)) = false := by simp; omega
  by_cases hn' : 1048576 < n'
  · have g' : (1048576 : Int) < (n' : Int) := by omega
    go_enter Tryd.func8, Tryd.ntmps8
    go_wp2
    go_ret
    exact ⟨rfl, Below.refl _ _⟩
  have g' : decide ((1048576 : Int) < (n' : Int)) = false := by simp; omega
  go_enter Tryd.func8, Tryd.ntmps8
  go_wp2_with (fail)
  (go_at_call 38; refine (drawHexSyllable_any a n cap _ h hc hcap).mono ?_; rintro e w1 ⟨m, s, b, rfl, hb1⟩; obtain ⟨hc1, hf1, hz1⟩ := bl hb1; (try simp at hz1); (try (refine got (p := w4.heap.size < w1.heap.size) ?_ ?_; (focus (go_size; done)); intro q1_w40)); (try (refine got (p := w1.cell? ⟨w4.heap.size, 0, none⟩ = some (.int .i64 (htS m (j : Int)))) ?_ ?_; (focus (refine (hc1 _ _ ?_).trans ?_; (focus (go_size; done)); go_simp; done)); intro c1_w40_0)); (try (refine got (p := w1.cell? ⟨w4.heap.size, 1, none⟩ = some (.bool (htB m (j : Int)))) ?_ ?_; (focus (refine (hc1 _ _ ?_).trans ?_; (focus (go_size; done)); go_simp; done)); intro c1_w40_1)); (try (refine got (p := ∀ o, w1.frozen? ⟨w4.heap.size, o, none⟩ = false) ?_ ?_; (focus (intro o; refine (hf1 _ _ ?_).trans ?_; (focus (go_size; done)); go_simp; done)); intro f1_w40)); clear hc1 hf1)
  clear h hc hcap g hn
  by_cases hv : hsy m s b < 0
  · have hd : decide (hsy m s b < 0) = true := by simpa using hv
    go_wp2_with (fail)
    (go_at_call 34; refine (hexSyllable_any _ _ _ _).mono ?_; rintro e w2 ⟨rfl, hb2⟩; obtain ⟨hc2, hf2, hz2⟩ := bl hb2; (try simp at hz2); (try (refine got (p := w1.heap.size < w2.heap.size) ?_ ?_; (focus (go_size; done)); intro q2_w10)); (try (refine got (p := w2.cell? ⟨w1.heap.size, 0, none⟩ = some (.int .i64 s)) ?_ ?_; (focus (refine (hc2 _ _ ?_).trans ?_; (focus (go_size; done)); go_simp; done)); intro c2_w10_0)); (try (refine got (p := w2.cell? ⟨w1.heap.size, 1, none⟩ = some (.bool b)) ?_ ?_; (focus (refine (hc2 _ _ ?_).trans ?_; (focus (go_size; done)); go_simp; done)); intro c2_w10_1)); (try (refine got (p := ∀ o, w2.frozen? ⟨w1.heap.size, o, none⟩ = false) ?_ ?_; (focus (intro o; refine (hf2 _ _ ?_).trans ?_; (focus (go_size; done)); go_simp; done)); intro f2_w10)); (try (refine got (p := w4.heap.size < w2.heap.size) ?_ ?_; (focus (go_size; done)); intro q2_w40)); (try (refine got (p := w2.cell? ⟨w4.heap.size, 0, none⟩ = some (.int .i64 (htS m (j : Int)))) ?_ ?_; (focus (refine (hc2 _ _ ?_).trans ?_; (focus (go_size; done)); go_simp; done)); intro c2_w40_0)); (try (refine got (p := w2.cell? ⟨w4.heap.size, 1, none⟩ = some (.bool (htB m (j : Int)))) ?_ ?_; (focus (refine (hc2 _ _ ?_).trans ?_; (focus (go_size; done)); go_simp; done)); intro c2_w40_1)); (try (refine got (p := ∀ o, w2.frozen? ⟨w4.heap.size, o, none⟩ = false) ?_ ?_; (focus (intro o; refine (hf2 _ _ ?_).trans ?_; (focus (go_size; done)); go_simp; done)); intro f2_w40)); clear hc2 hf2)
    go_wp2_with (fail)
    (go_at_call 39; refine (sHexSyllable_any _ _ _ _).mono ?_; rintro e w3 ⟨rfl, hb3⟩; obtain ⟨hc3, hf3, hz3⟩ := bl hb3; (try simp at hz3); (try (refine got (p := w1.heap.size < w3.heap.size) ?_ ?_; (focus (go_size; done)); intro q3_w10)); (try (refine got (p := w3.cell? ⟨w1.heap.size, 0, none⟩ = some (.int .i64 s)) ?_ ?_; (focus (refine (hc3 _ _ ?_).trans ?_; (focus (go_size; done)); go_simp; done)); intro c3_w10_0)); (try (refine got (p := w3.cell? ⟨w1.heap.size, 1, none⟩ = some (.bool b)) ?_ ?_; (focus (refine (hc3 _ _ ?_).trans ?_; (focus (go_size; done)); go_simp; done)); intro c3_w10_1)); (try (refine got (p := ∀ o, w3.frozen? ⟨w1.heap.size, o, none⟩ = false) ?_ ?_; (focus (intro o; refine (hf3 _ _ ?_).trans ?_; (focus (go_size; done)); go_simp; done)); intro f3_w10)); (try (refine got (p := w4.heap.size < w3.heap.size) ?_ ?_; (focus (go_size; done)); intro q3_w40)); (try (refine got (p := w3.cell? ⟨w4.heap.size, 0, none⟩ = some (.int .i64 (htS m (j : Int)))) ?_ ?_; (focus (refine (hc3 _ _ ?_).trans ?_; (focus (go_size; done)); go_simp; done)); intro c3_w40_0)); (try (refine got (p := w3.cell? ⟨w4.heap.size, 1, none⟩ = some (.bool (htB m (j : Int)))) ?_ ?_; (focus (refine (hc3 _ _ ?_).trans ?_; (focus (go_size; done)); go_simp; done)); intro c3_w40_1)); (try (refine got (p := ∀ o, w3.frozen? ⟨w4.heap.size, o, none⟩ = false) ?_ ?_; (focus (intro o; refine (hf3 _ _ ?_).trans ?_; (focus (go_size; done)); go_simp; done)); intro f3_w40)); clear hc3 hf3)
    go_wp2
    go_ret
    exact ⟨by simp, by (repeat' (first | (with_reducible exact Below.refl _ _) | (with_reducible refine Below.alloc ?_ ?_ _) | (with_reducible refine Below.drew ?_) | (with_reducible refine Below.setCell ?_ ?_ _) | (with_reducible refine bl_step ?_ (by assumption)) | go_size))⟩
  have hd : decide (hsy m s b < 0) = false := by simpa using hv
  obtain ⟨q1, q2, q3⟩ := hsy_of (by omega : 0 ≤ hsy m s b)
  obtain ⟨hx, _, _⟩ := hok_in q1
  obtain ⟨j, e1, e2, j5⟩ : ∃ j : Nat, (n' : Int).tmod 6 = (j : Int) ∧ (n' : Int) % 6 = (j : Int) ∧ j ≤ 5 := ⟨n' % 6, by rw [Int.tmod_eq_emod_of_nonneg (by omega)]; rfl, by omega, by omega⟩
  have hj := hok_yes hx (by omega : (0 : Int) ≤ (j : Int)) (by omega)
  obtain ⟨e3, e4⟩ := ht_yes hj
  obtain ⟨f1, f2, f3, f4, f5⟩ := sse_facts q1 hj
  have HB : Hid (both s b (m + (j : Int)) (hsf m (j : Int)) = true) := by
    have h1 := f1
    rw [← q2, ← q3] at h1
    exact h1
  have HD : Hid (sse m (hsy m s b) (j : Int) = sem s b (m + (j : Int)) (hsf m (j : Int))) := by
    show sem (m + hsy m s b) (hsf m (hsy m s b)) (m + (j : Int)) (hsf m (j : Int)) = _
    rw [← q2, ← q3]
  rw [HD.out] at f2 f3 f4 f5
  have K4 := Lib.hid (fun (W : World) (hW : StepTab W) => toneSemis_any s (m + (j : Int)) b (hsf m (j : Int)) W hW)
  have hb0 := HB.out
  rw [hb0] at K4
  have K2 := Lib.hid (hexSyllable_any m s b)
  have K3 := Lib.hid (sHexSyllable_any m s b)
  clear q1 q2 q3 f1 hb0 HB HD
  generalize sem s b (m + (j : Int)) (hsf m (j : Int)) = d at K4 f2 f3 f4 f5
  generalize hsy m s b = o at K2 K3 f2 f3 f4 f5 hd hv
  clear hv
  go_wp2_with (fail)
  (go_at_call 34; refine (K2.out _).mono ?_; rintro e w2 ⟨rfl, hb2⟩; obtain ⟨hc2, hf2, hz2⟩ := bl hb2; (try simp at hz2); (try (refine got (p := w1.heap.size < w2.heap.size) ?_ ?_; (focus (go_size; done)); intro q2_w10)); (try (refine got (p := w2.cell? ⟨w1.heap.size, 0, none⟩ = some (.int .i64 s)) ?_ ?_; (focus (refine (hc2 _ _ ?_).trans ?_; (focus (go_size; done)); go_simp; done)); intro c2_w10_0)); (try (refine got (p := w2.cell? ⟨w1.heap.size, 1, none⟩ = some (.bool b)) ?_ ?_; (focus (refine (hc2 _ _ ?_).trans ?_; (focus (go_size; done)); go_simp; done)); intro c2_w10_1)); (try (refine got (p := ∀ o, w2.frozen? ⟨w1.heap.size, o, none⟩ = false) ?_ ?_; (focus (intro o; refine (hf2 _ _ ?_).trans ?_; (focus (go_size; done)); go_simp; done)); intro f2_w10)); (try (refine got (p := w4.heap.size < w2.heap.size) ?_ ?_; (focus (go_size; done)); intro q2_w40)); (try (refine got (p := w2.cell? ⟨w4.heap.size, 0, none⟩ = some (.int .i64 (htS m (j : Int)))) ?_ ?_; (focus (refine (hc2 _ _ ?_).trans ?_; (focus (go_size; done)); go_simp; done)); intro c2_w40_0)); (try (refine got (p := w2.cell? ⟨w4.heap.size, 1, none⟩ = some (.bool (htB m (j : Int)))) ?_ ?_; (focus (refine (hc2 _ _ ?_).trans ?_; (focus (go_size; done)); go_simp; done)); intro c2_w40_1)); (try (refine got (p := ∀ o, w2.frozen? ⟨w4.heap.size, o, none⟩ = false) ?_ ?_; (focus (intro o; refine (hf2 _ _ ?_).trans ?_; (focus (go_size; done)); go_simp; done)); intro f2_w40)); clear hc2 hf2)
  go_wp2_with (fail)
  (go_at_call 39; refine (K3.out _).mono ?_; rintro e w3 ⟨rfl, hb3⟩; obtain ⟨hc3, hf3, hz3⟩ := bl hb3; (try simp at hz3); (try (refine got (p := w1.heap.size < w3.heap.size) ?_ ?_; (focus (go_size; done)); intro q3_w10)); (try (refine got (p := w3.cell? ⟨w1.heap.size, 0, none⟩ = some (.int .i64 s)) ?_ ?_; (focus (refine (hc3 _ _ ?_).trans ?_; (focus (go_size; done)); go_simp; done)); intro c3_w10_0)); (try (refine got (p := w3.cell? ⟨w1.heap.size, 1, none⟩ = some (.bool b)) ?_ ?_; (focus (refine (hc3 _ _ ?_).trans ?_; (focus (go_size; done)); go_simp; done)); intro c3_w10_1)); (try (refine got (p := ∀ o, w3.frozen? ⟨w1.heap.size, o, none⟩ = false) ?_ ?_; (focus (intro o; refine (hf3 _ _ ?_).trans ?_; (focus (go_size; done)); go_simp; done)); intro f3_w10)); (try (refine got (p := w4.heap.size < w3.heap.size) ?_ ?_; (focus (go_size; done)); intro q3_w40)); (try (refine got (p := w3.cell? ⟨w4.heap.size, 0, none⟩ = some (.int .i64 (htS m (j : Int)))) ?_ ?_; (focus (refine (hc3 _ _ ?_).trans ?_; (focus (go_size; done)); go_simp; done)); intro c3_w40_0)); (try (refine got (p := w3.cell? ⟨w4.heap.size, 1, none⟩ = some (.bool (htB m (j : Int)))) ?_ ?_; (focus (refine (hc3 _ _ ?_).trans ?_; (focus (go_size; done)); go_simp; done)); intro c3_w40_1)); (try (refine got (p := ∀ o, w3.frozen? ⟨w4.heap.size, o, none⟩ = false) ?_ ?_; (focus (intro o; refine (hf3 _ _ ?_).trans ?_; (focus (go_size; done)); go_simp; done)); intro f3_w40)); clear hc3 hf3)
  go_wp2_with (fail)
  (go_at_call 40; refine (hexTone_any _ _ _).mono ?_; rintro e w4 ⟨rfl, hb4⟩; obtain ⟨hc4, hf4, hz4⟩ := bl hb4; (try simp at hz4); (try (refine got (p := w1.heap.size < w4.heap.size) ?_ ?_; (focus (go_size; done)); intro q4_w10)); (try (refine got (p := w4.cell? ⟨w1.heap.size, 0, none⟩ = some (.int .i64 s)) ?_ ?_; (focus (refine (hc4 _ _ ?_).trans ?_; (focus (go_size; done)); go_simp; done)); intro c4_w10_0)); (try (refine got (p := w4.cell? ⟨w1.heap.size, 1, none⟩ = some (.bool b)) ?_ ?_; (focus (refine (hc4 _ _ ?_).trans ?_; (focus (go_size; done)); go_simp; done)); intro c4_w10_1)); (try (refine got (p := ∀ o, w4.frozen? ⟨w1.heap.size, o, none⟩ = false) ?_ ?_; (focus (intro o; refine (hf4 _ _ ?_).trans ?_; (focus (go_size; done)); go_simp; done)); intro f4_w10)); clear hc4 hf4)
  have hbw : Below w.heap.size w w4 := by (repeat' (first | (with_reducible exact Below.refl _ _) | (with_reducible refine Below.alloc ?_ ?_ _) | (with_reducible refine Below.drew ?_) | (with_reducible refine Below.setCell ?_ ?_ _) | (with_reducible refine bl_step ?_ (by assumption)) | go_size))
  have HT5 := Lib.hid ((HT.out.below hbw).below ((Below.refl _ _).alloc (Nat.le_refl _) (.cells #[.int .i64 (htS m (j : Int)), .bool (htB m (j : Int))] 24)))
  rw [e3, e4] at HT5
  go_wp2_with (fail)
  (go_at_call 29; refine (K4.out _ HT5.out).mono ?_; rintro e w5 ⟨rfl, hb5⟩; obtain ⟨hc5, hf5, hz5⟩ := bl hb5; (try simp at hz5); (try (refine got (p := w1.heap.size < w5.heap.size) ?_ ?_; (focus (go_size; done)); intro q5_w10)); (try (refine got (p := w5.cell? ⟨w1.heap.size, 0, none⟩ = some (.int .i64 s)) ?_ ?_; (focus (refine (hc5 _ _ ?_).trans ?_; (focus (go_size; done)); go_simp; done)); intro c5_w10_0)); (try (refine got (p := w5.cell? ⟨w1.heap.size, 1, none⟩ = some (.bool b)) ?_ ?_; (focus (refine (hc5 _ _ ?_).trans ?_; (focus (go_size; done)); go_simp; done)); intro c5_w10_1)); (try (refine got (p := ∀ o, w5.frozen? ⟨w1.heap.size, o, none⟩ = false) ?_ ?_; (focus (intro o; refine (hf5 _ _ ?_).trans ?_; (focus (go_size; done)); go_simp; done)); intro f5_w10)); (try (refine got (p := w4.heap.size < w5.heap.size) ?_ ?_; (focus (go_size; done)); intro q5_w40)); (try (refine got (p := w5.cell? ⟨w4.heap.size, 0, none⟩ = some (.int .i64 (htS m (j : Int)))) ?_ ?_; (focus (refine (hc5 _ _ ?_).trans ?_; (focus (go_size; done)); go_simp; done)); intro c5_w40_0)); (try (refine got (p := w5.cell? ⟨w4.heap.size, 1, none⟩ = some (.bool (htB m (j : Int)))) ?_ ?_; (focus (refine (hc5 _ _ ?_).trans ?_; (focus (go_size; done)); go_simp; done)); intro c5_w40_1)); (try (refine got (p := ∀ o, w5.frozen? ⟨w4.heap.size, o, none⟩ = false) ?_ ?_; (focus (intro o; refine (hf5 _ _ ?_).trans ?_; (focus (go_size; done)); go_simp; done)); intro f5_w40)); clear hc5 hf5)
  go_wp2
  go_ret
  exact ⟨by first | rfl | simp, by (repeat' (first | (with_reducible exact Below.refl _ _) | (with_reducible refine Below.alloc ?_ ?_ _) | (with_reducible refine Below.drew ?_) | (with_reducible refine Below.setCell ?_ ?_ _) | (with_reducible refine bl_step ?_ (by assumption)) | go_size))⟩

noncomputable def fnHexSyllable_world (os : Os) : World := { World.holding Tryd.prog os ⟨#[], #[], []⟩ with heap := ((World.holding Tryd.prog os ⟨#[], #[], []⟩).heap.modify 2 fun | .cells _ t frozen => .cells #[.int .i64 0, .int .i64 2, .int .i64 4, .int .i64 5, .int .i64 7, .int .i64 9, .int .i64 10] t frozen | o => o) }
theorem fnHexSyllable_met (os : Os) : laidMet Tryd.prog Rows.fnHexSyllableRow.laid ((fnHexSyllable_world os).forCall (fun _ _ => 0) ⟨#[], #[.slice none 0 0, .slice none 0 0], []⟩).memory :=
  laidMet_of_run' 8 (by kernel_rfl) (by kernel_rfl)
theorem fnHexSyllable_reads (os : Os) {H : Type} (enc : TypeId × Value → H) : ∃ places, DataW.whole enc Tryd.prog ((fnHexSyllable_world os).forCall (fun _ _ => 0) ⟨#[], #[.slice none 0 0, .slice none 0 0], []⟩).memory Tryd.f8.params.toList Rows.fnHexSyllableSpec.vars false (#[.slice none 0 0, .slice none 0 0] : Array Value).toList 8 = some ([.nil, .nil], [Rows.laid_loop_example_neumes_impl_stepHeights], places) :=
  ⟨((DataW.whole enc Tryd.prog ((fnHexSyllable_world os).forCall (fun _ _ => 0) ⟨#[], #[.slice none 0 0, .slice none 0 0], []⟩).memory Tryd.f8.params.toList Rows.fnHexSyllableSpec.vars false (#[.slice none 0 0, .slice none 0 0] : Array Value).toList 8).getD ([], [], [])).2.2, by kernel_rfl⟩
set_option maxRecDepth 100000 in
theorem fnHexSyllable_lifted (os : Os) (started : os.Started) (H : Type) (enc : TypeId × Value → H) (F : Stop.Interp) :
    ReturnsInHanded {} Tryd.checked os 8 .any ((OpenSpec.ofChange Rows.fnHexSyllableSpec).preRow enc Tryd.prog Tryd.f8 Rows.fnHexSyllableRow.domain false Rows.fnHexSyllableRow.laid) (((OpenSpec.ofChange Rows.fnHexSyllableSpec).at F).post enc Tryd.prog Tryd.f8 false true false false) := by
  obtain ⟨places, hx⟩ := fnHexSyllable_reads os enc
  refine returnsInHanded_of_row (C := Tryd.checked) (s := OpenSpec.ofChange Rows.fnHexSyllableSpec) own started (by kernel_rfl) Tryd.func8
    (witness_row_at (enc := enc) (C := Tryd.checked) false (fnHexSyllable_world os) #[.slice none 0 0, .slice none 0 0] rfl (by kernel_rfl) (by kernel_rfl) (by kernel_rfl)
      (OpenSpec.preRow_of_cond 8 hx (by kernel_rfl) (fun k hk => by cases hk) (by kernel_rfl) (fnHexSyllable_met os))) ?_
  intro W base args ds gs before hval0 hW _ _ _ hL _ _
  have hval : ∀ (j : Nat) t v, Tryd.f8.params[j]? = some t → args[j]? = some v → Value.okWide Tryd.prog W .any base t v := hval0
  have hW' := hW
  obtain ⟨p, q, hA0, hV, rfl, _, _⟩ := hW
  have hA : DataW.TrodAll enc Tryd.prog W 0 (fun _ => true) true Tryd.f8.params.toList args.toList ds p := hA0
  rw [Tryd.params8] at hA hval
  obtain ⟨v0, vs0, d0, ds0, p0, q0, hargs, rfl, rfl, h0, r0⟩ := trodAll_cons hA
  obtain ⟨v1, vs1, d1, ds1, p1, q1, rfl, rfl, rfl, h1, r1⟩ := trodAll_cons r0
  obtain ⟨rfl, rfl, rfl⟩ := trodAll_nil r1
  obtain rfl : args = #[v0, v1] := by cases args; simp_all
  obtain ⟨g0, rfl⟩ := vars1 hV
  obtain ⟨a0, n0, c0, rfl⟩ := okWide_slice Tryd.underlying22 (hval 0 22 v0 rfl rfl)
  have k0 := h0
  have lt0 : ∀ x ∈ p0, x.block < W.heap.size := by obtain ⟨m, hm⟩ := k0; exact DataW.trod_lt m _ _ _ hm
  have y0 := code_in h0
  obtain ⟨a1, n1, c1, rfl⟩ := okWide_slice Tryd.underlying22 (hval 1 22 v1 rfl rfl)
  have k1 := h1
  have lt1 : ∀ x ∈ p1, x.block < W.heap.size := by obtain ⟨m, hm⟩ := k1; exact DataW.trod_lt m _ _ _ hm
  have y1 := code_in h1
  clear hA0 hval0
  refine (fnHexSyllable_walk a0 n0 c0 a1 n1 c1 W y0.1 y0.2.1 y0.2.2 y1.2.1 y1.2.2 (stepTab hL)).mono fun e W' ⟨he, hb⟩ => ?_
  subst he
  exact ⟨_, rfl, _, _, _, [], _, _, hW', trodAll_cons_mk (shut_bool Tryd.underlying4 _) trodAll_mk0, trodAll_cons_mk (Below.trod laidOut (by kernel_rfl) (of_decide_eq_true (by kernel_rfl)) k0 hb lt0) (trodAll_cons_mk (Below.trod laidOut (by kernel_rfl) (of_decide_eq_true (by kernel_rfl)) k1 hb lt1) (trodAll_mk0)), hb.trodVars laidOut (by kernel_rfl) hV, hb.frame _, fun h => by cases h⟩

theorem fnHexSyllable_holds : Rows.FnHexSyllableSaid :=
  OpenClaim.holds_of_cond 8 Tryd.f8 rfl rfl rfl rfl rfl rfl rfl ⟨rfl, rfl, rfl, rfl, rfl⟩ rfl rfl rfl rfl rfl (by kernel_rfl) Tryd.func8 (by kernel_rfl)
    (of_decide_eq_true (by kernel_rfl)) (by unfold Func.isWrapper; first | (rw [if_pos (by decide +kernel)]; kernel_rfl) | (rw [if_neg (by decide +kernel)]; exact ⟨rfl, rfl⟩))
    (fun os started H enc _ F => by rw [OpenClaim.pre_eq_preRow]; exact fnHexSyllable_lifted os started H enc F)
theorem fnHexSyllable_plain (f : FuncId) (fn : Func) (hf : Tryd.pinned.checked.prog.funcNamed "loop.example/neumes/laws.FnHexSyllable" = some f) (hfn : Tryd.pinned.checked.prog.funcs[f]? = some fn) :
    false = Tryd.pinned.checked.prog.looks [] ∧ ∀ (j : Nat) t, fn.params[j]? = some t → Tryd.pinned.checked.prog.wantsStandIn t = false := by
  obtain rfl : f = 8 := Option.some.inj ((show Tryd.prog.funcNamed "loop.example/neumes/laws.FnHexSyllable" = some 8 by kernel_rfl).symm.trans hf) |>.symm
  obtain rfl : fn = Tryd.f8 := (Option.some.inj (Tryd.func8.symm.trans hfn)).symm
  refine ⟨by kernel_rfl, fun j t ht => ?_⟩
  rw [Tryd.params8] at ht
  have hm := Array.mem_of_getElem? ht
  simp only [List.mem_toArray, List.mem_cons, List.not_mem_nil, or_false] at hm
  rcases hm with rfl | rfl
  all_goals exact (show Tryd.prog.wantsStandIn _ = false by kernel_rfl)
/-- the card -/
theorem fnHexSyllable_card : Rows.FnHexSyllableCardSaid :=
  Claim7.holds_tied_plain_at .later [] _ _ _ _ fnHexSyllable_holds (fun _ h => by cases h) (by kernel_rfl) (fun _ h => by cases h) fnHexSyllable_row_tie rfl ⟨rfl, rfl⟩ (by kernel_rfl) rfl fnHexSyllable_plain (by kernel_rfl)

end Go.Proofs.YtgehfianpahgcaaDoor
