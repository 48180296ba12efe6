/-
  The law FnToneFrom: for every code, what is read is a tone.
-/
import Derived.Test.YtjodcaeohkjlnaaDoorTfr
import Derived.Test.YtjodcaeohkjlnaaDoorTfi
import Derived.Test.YtjodcaeohkjlnaaDoorTxi
import Derived.Test.YtjodcaeohkjlnaaDoorDraw8
import Derived.Test.YtjodcaeohkjlnaaDoorCode
import Derived.Test.YtjodcaeohkjlnaaDoorLaid
namespace Go.Proofs.YtjodcaeohkjlnaaDoor
open Go.RowKit Go.ChangeShapes Go.WideShapes Go.ChangeAt
set_option maxRecDepth 100000
set_option linter.unusedVariables false

theorem tfr_cases (l : ByteArray) : tfr l = (0, false, false) ∨ ∃ s b, tfr l = (s, b, true) ∧ vd s b = true ∧ (ttx s b).data.toList = l.data.toList := by
  unfold tfr
  cases h : allT.find? (fun t => (ttx t.1 t.2).data.toList == l.data.toList) with
  | none => exact .inl rfl
  | some t =>
    right
    have h1 := List.find?_some h
    have h2 := List.mem_of_find?_eq_some h
    exact ⟨t.1, t.2, rfl, allT_vd t h2, by simpa using h1⟩

set_option maxHeartbeats 2000000 in
theorem fnToneFrom_walk (a : Option Addr) (n cap : Nat) (w : World) (h : CodeAt w a n) (hc : n ≤ cap) (hcap : cap ≤ maxLen) :
    Calls Tryd.prog 4 #[.slice a n cap] w fun e w' => e = .returned (.bool true) ∧ Below w.heap.size w w' := by
  by_cases hn : 1048576 < n
  · have g : (1048576 : Int) < (n : Int) := by omega
    go_enter Tryd.func4, Tryd.ntmps4
    go_wp2
    go_ret
    exact ⟨rfl, Below.refl _ _⟩
  have g : decide ((1048576 : Int) < (n : Int)) = false := by simp; omega
  go_enter Tryd.func4, Tryd.ntmps4
  go_wp2_with (fail)
  (go_at_call 26; refine (drawToneFrom_any a n cap _ h hc hcap).mono ?_; rintro e w1 ⟨l, rfl, hl9, hb1⟩; obtain ⟨hc1, hf1, hz1⟩ := bl hb1; (try simp at hz1); clear hc1 hf1)
  clear h hc hcap g hn
  have KI := toneFrom_any l (by omega)
  have KS := sToneFrom_any l
  rcases tfr_cases l with he | ⟨s, b, he, hv, ht⟩
  · rw [he] at KI KS
    have KI := Lib.hid KI
    have KS := Lib.hid KS
    clear he
    go_wp2_with (fail)
    (go_at_call 23; refine (KI.out _).mono ?_; rintro e w2 ⟨rfl, hb2⟩; obtain ⟨hc2, hf2, hz2⟩ := bl hb2; (try simp at hz2); (try (refine got (p := w3.heap.size < w2.heap.size) ?_ ?_; (focus (go_size; done)); intro q2_w30)); (try (refine got (p := w2.cell? ⟨w3.heap.size, 0, none⟩ = some (.int .i64 0)) ?_ ?_; (focus (refine (hc2 _ _ ?_).trans ?_; (focus (go_size; done)); go_simp; done)); intro c2_w30_0)); (try (refine got (p := w2.cell? ⟨w3.heap.size, 1, none⟩ = some (.bool false)) ?_ ?_; (focus (refine (hc2 _ _ ?_).trans ?_; (focus (go_size; done)); go_simp; done)); intro c2_w30_1)); (try (refine got (p := ∀ o, w2.frozen? ⟨w3.heap.size, o, none⟩ = false) ?_ ?_; (focus (intro o; refine (hf2 _ _ ?_).trans ?_; (focus (go_size; done)); go_simp; done)); intro f2_w30)); clear hc2 hf2)
    go_wp2_with (fail)
    (go_at_call 27; refine (KS.out _).mono ?_; rintro e w3 ⟨rfl, hb3⟩; obtain ⟨hc3, hf3, hz3⟩ := bl hb3; (try simp at hz3); (try (refine got (p := w2.heap.size < w3.heap.size) ?_ ?_; (focus (go_size; done)); intro q3_w20)); (try (refine got (p := w3.cell? ⟨w2.heap.size, 0, none⟩ = some (.int .i64 0)) ?_ ?_; (focus (refine (hc3 _ _ ?_).trans ?_; (focus (go_size; done)); go_simp; done)); intro c3_w20_0)); (try (refine got (p := w3.cell? ⟨w2.heap.size, 1, none⟩ = some (.bool false)) ?_ ?_; (focus (refine (hc3 _ _ ?_).trans ?_; (focus (go_size; done)); go_simp; done)); intro c3_w20_1)); (try (refine got (p := ∀ o, w3.frozen? ⟨w2.heap.size, o, none⟩ = false) ?_ ?_; (focus (intro o; refine (hf3 _ _ ?_).trans ?_; (focus (go_size; done)); go_simp; done)); intro f3_w20)); clear hc3 hf3)
    go_wp2
    go_ret
    exact ⟨rfl, by (repeat' (first | (with_reducible exact Below.refl _ _) | (with_reducible refine Below.alloc ?_ ?_ _) | (with_reducible refine Below.drew ?_) | (with_reducible refine Below.setCell ?_ ?_ _) | (with_reducible refine bl_step ?_ (by assumption)) | go_size))⟩
  rw [he] at KI KS
  have KI := Lib.hid KI
  have KS := Lib.hid KS
  have hl2 : l.size = 2 := by
    have e := congrArg List.length ht
    rw [ttx_yes hv] at e
    show l.data.size = 2
    simpa using e.symm
  have g1 : ((ttx s b).toList == l.toList) = true := by rw [ByteArray.toList_eq, ByteArray.toList_eq]; simpa using ht
  have hadd : ∀ W : World, (Op.stringOp .add l ⟨#[32]⟩).run Tryd.prog W = .ok (.string (l ++ ⟨#[32]⟩)) W := fun W => run_string_add_sum W _ _ (by show l.size + 1 ≤ 9223372036854775807; omega)
  have hz1 : (l ++ (⟨#[32]⟩ : ByteArray)).size = 3 := by rw [ByteArray.size_append]; show l.size + 1 = 3; omega
  have hz2 : (l.extract 0 1).size = 1 := by rw [ByteArray.size_extract]; omega
  have K1 := toneFrom_any (l ++ ⟨#[32]⟩) (by omega)
  have K2 := toneFrom_any (l.extract 0 1) (by omega)
  rw [tfr_len (by omega)] at K1 K2
  have K1 := Lib.hid K1
  have K2 := Lib.hid K2
  have HV := Lib.hid hv
  clear he ht hz1 hz2
  go_wp2_with (fail)
  (go_at_call 23; refine (KI.out _).mono ?_; rintro e w2 ⟨rfl, hb2⟩; obtain ⟨hc2, hf2, hz2⟩ := bl hb2; (try simp at hz2); (try (refine got (p := w3.heap.size < w2.heap.size) ?_ ?_; (focus (go_size; done)); intro q2_w30)); (try (refine got (p := w2.cell? ⟨w3.heap.size, 0, none⟩ = some (.int .i64 s)) ?_ ?_; (focus (refine (hc2 _ _ ?_).trans ?_; (focus (go_size; done)); go_simp; done)); intro c2_w30_0)); (try (refine got (p := w2.cell? ⟨w3.heap.size, 1, none⟩ = some (.bool b)) ?_ ?_; (focus (refine (hc2 _ _ ?_).trans ?_; (focus (go_size; done)); go_simp; done)); intro c2_w30_1)); (try (refine got (p := ∀ o, w2.frozen? ⟨w3.heap.size, o, none⟩ = false) ?_ ?_; (focus (intro o; refine (hf2 _ _ ?_).trans ?_; (focus (go_size; done)); go_simp; done)); intro f2_w30)); (try (refine got (p := w4.heap.size < w2.heap.size) ?_ ?_; (focus (go_size; done)); intro q2_w40)); (try (refine got (p := w2.cell? ⟨w4.heap.size, 0, none⟩ = some (.int .i64 0)) ?_ ?_; (focus (refine (hc2 _ _ ?_).trans ?_; (focus (go_size; done)); go_simp; done)); intro c2_w40_0)); (try (refine got (p := w2.cell? ⟨w4.heap.size, 1, none⟩ = some (.bool false)) ?_ ?_; (focus (refine (hc2 _ _ ?_).trans ?_; (focus (go_size; done)); go_simp; done)); intro c2_w40_1)); (try (refine got (p := ∀ o, w2.frozen? ⟨w4.heap.size, o, none⟩ = false) ?_ ?_; (focus (intro o; refine (hf2 _ _ ?_).trans ?_; (focus (go_size; done)); go_simp; done)); intro f2_w40)); clear hc2 hf2)
  go_wp2_with (fail)
  (go_at_call 27; refine (KS.out _).mono ?_; rintro e w3 ⟨rfl, hb3⟩; obtain ⟨hc3, hf3, hz3⟩ := bl hb3; (try simp at hz3); (try (refine got (p := w2.heap.size < w3.heap.size) ?_ ?_; (focus (go_size; done)); intro q3_w20)); (try (refine got (p := w3.cell? ⟨w2.heap.size, 0, none⟩ = some (.int .i64 s)) ?_ ?_; (focus (refine (hc3 _ _ ?_).trans ?_; (focus (go_size; done)); go_simp; done)); intro c3_w20_0)); (try (refine got (p := w3.cell? ⟨w2.heap.size, 1, none⟩ = some (.bool b)) ?_ ?_; (focus (refine (hc3 _ _ ?_).trans ?_; (focus (go_size; done)); go_simp; done)); intro c3_w20_1)); (try (refine got (p := ∀ o, w3.frozen? ⟨w2.heap.size, o, none⟩ = false) ?_ ?_; (focus (intro o; refine (hf3 _ _ ?_).trans ?_; (focus (go_size; done)); go_simp; done)); intro f3_w20)); (try (refine got (p := w4.heap.size < w3.heap.size) ?_ ?_; (focus (go_size; done)); intro q3_w40)); (try (refine got (p := w3.cell? ⟨w4.heap.size, 0, none⟩ = some (.int .i64 0)) ?_ ?_; (focus (refine (hc3 _ _ ?_).trans ?_; (focus (go_size; done)); go_simp; done)); intro c3_w40_0)); (try (refine got (p := w3.cell? ⟨w4.heap.size, 1, none⟩ = some (.bool false)) ?_ ?_; (focus (refine (hc3 _ _ ?_).trans ?_; (focus (go_size; done)); go_simp; done)); intro c3_w40_1)); (try (refine got (p := ∀ o, w3.frozen? ⟨w4.heap.size, o, none⟩ = false) ?_ ?_; (focus (intro o; refine (hf3 _ _ ?_).trans ?_; (focus (go_size; done)); go_simp; done)); intro f3_w40)); clear hc3 hf3)
  go_wp2_with (fail)
  (go_at_call 23; refine (K1.out _).mono ?_; rintro e w4 ⟨rfl, hb4⟩; obtain ⟨hc4, hf4, hz4⟩ := bl hb4; (try simp at hz4); (try (refine got (p := w2.heap.size < w4.heap.size) ?_ ?_; (focus (go_size; done)); intro q4_w20)); (try (refine got (p := w4.cell? ⟨w2.heap.size, 0, none⟩ = some (.int .i64 s)) ?_ ?_; (focus (refine (hc4 _ _ ?_).trans ?_; (focus (go_size; done)); go_simp; done)); intro c4_w20_0)); (try (refine got (p := w4.cell? ⟨w2.heap.size, 1, none⟩ = some (.bool b)) ?_ ?_; (focus (refine (hc4 _ _ ?_).trans ?_; (focus (go_size; done)); go_simp; done)); intro c4_w20_1)); (try (refine got (p := ∀ o, w4.frozen? ⟨w2.heap.size, o, none⟩ = false) ?_ ?_; (focus (intro o; refine (hf4 _ _ ?_).trans ?_; (focus (go_size; done)); go_simp; done)); intro f4_w20)); (try (refine got (p := w3.heap.size < w4.heap.size) ?_ ?_; (focus (go_size; done)); intro q4_w30)); (try (refine got (p := w4.cell? ⟨w3.heap.size, 0, none⟩ = some (.int .i64 s)) ?_ ?_; (focus (refine (hc4 _ _ ?_).trans ?_; (focus (go_size; done)); go_simp; done)); intro c4_w30_0)); (try (refine got (p := w4.cell? ⟨w3.heap.size, 1, none⟩ = some (.bool b)) ?_ ?_; (focus (refine (hc4 _ _ ?_).trans ?_; (focus (go_size; done)); go_simp; done)); intro c4_w30_1)); (try (refine got (p := ∀ o, w4.frozen? ⟨w3.heap.size, o, none⟩ = false) ?_ ?_; (focus (intro o; refine (hf4 _ _ ?_).trans ?_; (focus (go_size; done)); go_simp; done)); intro f4_w30)); clear hc4 hf4)
  go_wp2_with (fail)
  (go_at_call 23; refine (K2.out _).mono ?_; rintro e w5 ⟨rfl, hb5⟩; obtain ⟨hc5, hf5, hz5⟩ := bl hb5; (try simp at hz5); (try (refine got (p := w2.heap.size < w5.heap.size) ?_ ?_; (focus (go_size; done)); intro q5_w20)); (try (refine got (p := w5.cell? ⟨w2.heap.size, 0, none⟩ = some (.int .i64 s)) ?_ ?_; (focus (refine (hc5 _ _ ?_).trans ?_; (focus (go_size; done)); go_simp; done)); intro c5_w20_0)); (try (refine got (p := w5.cell? ⟨w2.heap.size, 1, none⟩ = some (.bool b)) ?_ ?_; (focus (refine (hc5 _ _ ?_).trans ?_; (focus (go_size; done)); go_simp; done)); intro c5_w20_1)); (try (refine got (p := ∀ o, w5.frozen? ⟨w2.heap.size, o, none⟩ = false) ?_ ?_; (focus (intro o; refine (hf5 _ _ ?_).trans ?_; (focus (go_size; done)); go_simp; done)); intro f5_w20)); (try (refine got (p := w3.heap.size < w5.heap.size) ?_ ?_; (focus (go_size; done)); intro q5_w30)); (try (refine got (p := w5.cell? ⟨w3.heap.size, 0, none⟩ = some (.int .i64 s)) ?_ ?_; (focus (refine (hc5 _ _ ?_).trans ?_; (focus (go_size; done)); go_simp; done)); intro c5_w30_0)); (try (refine got (p := w5.cell? ⟨w3.heap.size, 1, none⟩ = some (.bool b)) ?_ ?_; (focus (refine (hc5 _ _ ?_).trans ?_; (focus (go_size; done)); go_simp; done)); intro c5_w30_1)); (try (refine got (p := ∀ o, w5.frozen? ⟨w3.heap.size, o, none⟩ = false) ?_ ?_; (focus (intro o; refine (hf5 _ _ ?_).trans ?_; (focus (go_size; done)); go_simp; done)); intro f5_w30)); (try (refine got (p := w4.heap.size < w5.heap.size) ?_ ?_; (focus (go_size; done)); intro q5_w40)); (try (refine got (p := w5.cell? ⟨w4.heap.size, 0, none⟩ = some (.int .i64 0)) ?_ ?_; (focus (refine (hc5 _ _ ?_).trans ?_; (focus (go_size; done)); go_simp; done)); intro c5_w40_0)); (try (refine got (p := w5.cell? ⟨w4.heap.size, 1, none⟩ = some (.bool false)) ?_ ?_; (focus (refine (hc5 _ _ ?_).trans ?_; (focus (go_size; done)); go_simp; done)); intro c5_w40_1)); (try (refine got (p := ∀ o, w5.frozen? ⟨w4.heap.size, o, none⟩ = false) ?_ ?_; (focus (intro o; refine (hf5 _ _ ?_).trans ?_; (focus (go_size; done)); go_simp; done)); intro f5_w40)); clear hc5 hf5)
  go_wp2_with (fail)
  (go_at_call 28; refine (toneValid_any _ _ _).mono ?_; rintro e w6 ⟨rfl, hb6⟩; obtain ⟨hc6, hf6, hz6⟩ := bl hb6; (try simp at hz6); (try (refine got (p := w2.heap.size < w6.heap.size) ?_ ?_; (focus (go_size; done)); intro q6_w20)); (try (refine got (p := w6.cell? ⟨w2.heap.size, 0, none⟩ = some (.int .i64 s)) ?_ ?_; (focus (refine (hc6 _ _ ?_).trans ?_; (focus (go_size; done)); go_simp; done)); intro c6_w20_0)); (try (refine got (p := w6.cell? ⟨w2.heap.size, 1, none⟩ = some (.bool b)) ?_ ?_; (focus (refine (hc6 _ _ ?_).trans ?_; (focus (go_size; done)); go_simp; done)); intro c6_w20_1)); (try (refine got (p := ∀ o, w6.frozen? ⟨w2.heap.size, o, none⟩ = false) ?_ ?_; (focus (intro o; refine (hf6 _ _ ?_).trans ?_; (focus (go_size; done)); go_simp; done)); intro f6_w20)); (try (refine got (p := w3.heap.size < w6.heap.size) ?_ ?_; (focus (go_size; done)); intro q6_w30)); (try (refine got (p := w6.cell? ⟨w3.heap.size, 0, none⟩ = some (.int .i64 s)) ?_ ?_; (focus (refine (hc6 _ _ ?_).trans ?_; (focus (go_size; done)); go_simp; done)); intro c6_w30_0)); (try (refine got (p := w6.cell? ⟨w3.heap.size, 1, none⟩ = some (.bool b)) ?_ ?_; (focus (refine (hc6 _ _ ?_).trans ?_; (focus (go_size; done)); go_simp; done)); intro c6_w30_1)); (try (refine got (p := ∀ o, w6.frozen? ⟨w3.heap.size, o, none⟩ = false) ?_ ?_; (focus (intro o; refine (hf6 _ _ ?_).trans ?_; (focus (go_size; done)); go_simp; done)); intro f6_w30)); (try (refine got (p := w4.heap.size < w6.heap.size) ?_ ?_; (focus (go_size; done)); intro q6_w40)); (try (refine got (p := w6.cell? ⟨w4.heap.size, 0, none⟩ = some (.int .i64 0)) ?_ ?_; (focus (refine (hc6 _ _ ?_).trans ?_; (focus (go_size; done)); go_simp; done)); intro c6_w40_0)); (try (refine got (p := w6.cell? ⟨w4.heap.size, 1, none⟩ = some (.bool false)) ?_ ?_; (focus (refine (hc6 _ _ ?_).trans ?_; (focus (go_size; done)); go_simp; done)); intro c6_w40_1)); (try (refine got (p := ∀ o, w6.frozen? ⟨w4.heap.size, o, none⟩ = false) ?_ ?_; (focus (intro o; refine (hf6 _ _ ?_).trans ?_; (focus (go_size; done)); go_simp; done)); intro f6_w40)); clear hc6 hf6)
  go_wp2_with (fail)
  (go_at_call 21; refine (toneText_any _ _ _).mono ?_; rintro e w7 ⟨rfl, hb7⟩; obtain ⟨hc7, hf7, hz7⟩ := bl hb7; (try simp at hz7); (try (refine got (p := w2.heap.size < w7.heap.size) ?_ ?_; (focus (go_size; done)); intro q7_w20)); (try (refine got (p := w7.cell? ⟨w2.heap.size, 0, none⟩ = some (.int .i64 s)) ?_ ?_; (focus (refine (hc7 _ _ ?_).trans ?_; (focus (go_size; done)); go_simp; done)); intro c7_w20_0)); (try (refine got (p := w7.cell? ⟨w2.heap.size, 1, none⟩ = some (.bool b)) ?_ ?_; (focus (refine (hc7 _ _ ?_).trans ?_; (focus (go_size; done)); go_simp; done)); intro c7_w20_1)); (try (refine got (p := ∀ o, w7.frozen? ⟨w2.heap.size, o, none⟩ = false) ?_ ?_; (focus (intro o; refine (hf7 _ _ ?_).trans ?_; (focus (go_size; done)); go_simp; done)); intro f7_w20)); (try (refine got (p := w3.heap.size < w7.heap.size) ?_ ?_; (focus (go_size; done)); intro q7_w30)); (try (refine got (p := w7.cell? ⟨w3.heap.size, 0, none⟩ = some (.int .i64 s)) ?_ ?_; (focus (refine (hc7 _ _ ?_).trans ?_; (focus (go_size; done)); go_simp; done)); intro c7_w30_0)); (try (refine got (p := w7.cell? ⟨w3.heap.size, 1, none⟩ = some (.bool b)) ?_ ?_; (focus (refine (hc7 _ _ ?_).trans ?_; (focus (go_size; done)); go_simp; done)); intro c7_w30_1)); (try (refine got (p := ∀ o, w7.frozen? ⟨w3.heap.size, o, none⟩ = false) ?_ ?_; (focus (intro o; refine (hf7 _ _ ?_).trans ?_; (focus (go_size; done)); go_simp; done)); intro f7_w30)); (try (refine got (p := w4.heap.size < w7.heap.size) ?_ ?_; (focus (go_size; done)); intro q7_w40)); (try (refine got (p := w7.cell? ⟨w4.heap.size, 0, none⟩ = some (.int .i64 0)) ?_ ?_; (focus (refine (hc7 _ _ ?_).trans ?_; (focus (go_size; done)); go_simp; done)); intro c7_w40_0)); (try (refine got (p := w7.cell? ⟨w4.heap.size, 1, none⟩ = some (.bool false)) ?_ ?_; (focus (refine (hc7 _ _ ?_).trans ?_; (focus (go_size; done)); go_simp; done)); intro c7_w40_1)); (try (refine got (p := ∀ o, w7.frozen? ⟨w4.heap.size, o, none⟩ = false) ?_ ?_; (focus (intro o; refine (hf7 _ _ ?_).trans ?_; (focus (go_size; done)); go_simp; done)); intro f7_w40)); clear hc7 hf7)
  go_wp2
  go_ret
  exact ⟨rfl, by (repeat' (first | (with_reducible exact Below.refl _ _) | (with_reducible refine Below.alloc ?_ ?_ _) | (with_reducible refine Below.drew ?_) | (with_reducible refine Below.setCell ?_ ?_ _) | (with_reducible refine bl_step ?_ (by assumption)) | go_size))⟩

noncomputable def fnToneFrom_world (os : Os) : World := { World.holding Tryd.prog os ⟨#[], #[], []⟩ with heap := ((((World.holding Tryd.prog os ⟨#[], #[], []⟩).heap.modify 7 fun | .cells _ t frozen => .cells #[.int .u8 0, .int .u8 1, .int .u8 28, .int .u8 2, .int .u8 29, .int .u8 14, .int .u8 24, .int .u8 3, .int .u8 30, .int .u8 22, .int .u8 20, .int .u8 15, .int .u8 25, .int .u8 17, .int .u8 4, .int .u8 8, .int .u8 31, .int .u8 27, .int .u8 13, .int .u8 23, .int .u8 21, .int .u8 19, .int .u8 16, .int .u8 7, .int .u8 26, .int .u8 12, .int .u8 18, .int .u8 6, .int .u8 11, .int .u8 5, .int .u8 10, .int .u8 9] t frozen | o => o).modify 8 fun | .cells _ t frozen => .cells #[.int .u8 0, .int .u8 1, .int .u8 56, .int .u8 2, .int .u8 57, .int .u8 49, .int .u8 28, .int .u8 3, .int .u8 61, .int .u8 58, .int .u8 42, .int .u8 50, .int .u8 38, .int .u8 29, .int .u8 17, .int .u8 4, .int .u8 62, .int .u8 47, .int .u8 59, .int .u8 36, .int .u8 45, .int .u8 43, .int .u8 51, .int .u8 22, .int .u8 53, .int .u8 39, .int .u8 33, .int .u8 30, .int .u8 24, .int .u8 18, .int .u8 12, .int .u8 5, .int .u8 63, .int .u8 55, .int .u8 48, .int .u8 27, .int .u8 60, .int .u8 41, .int .u8 37, .int .u8 16, .int .u8 46, .int .u8 35, .int .u8 44, .int .u8 21, .int .u8 52, .int .u8 32, .int .u8 23, .int .u8 11, .int .u8 54, .int .u8 26, .int .u8 40, .int .u8 15, .int .u8 34, .int .u8 20, .int .u8 31, .int .u8 10, .int .u8 25, .int .u8 14, .int .u8 19, .int .u8 9, .int .u8 13, .int .u8 8, .int .u8 7, .int .u8 6] t frozen | o => o).modify 4 fun | .cells _ t frozen => .cells #[.int .u64 1, .int .u64 10, .int .u64 100, .int .u64 1000, .int .u64 10000, .int .u64 100000, .int .u64 1000000, .int .u64 10000000, .int .u64 100000000, .int .u64 1000000000, .int .u64 10000000000, .int .u64 100000000000, .int .u64 1000000000000, .int .u64 10000000000000, .int .u64 100000000000000, .int .u64 1000000000000000, .int .u64 10000000000000000, .int .u64 100000000000000000, .int .u64 1000000000000000000, .int .u64 10000000000000000000] t frozen | o => o) }
theorem fnToneFrom_met (os : Os) : laidMet Tryd.prog Rows.fnToneFromRow.laid ((fnToneFrom_world os).forCall (fun _ _ => 0) ⟨#[], #[.slice none 0 0], []⟩).memory :=
  laidMet_of_run' 8 (by kernel_rfl) (by kernel_rfl)
theorem fnToneFrom_reads (os : Os) {H : Type} (enc : TypeId × Value → H) : ∃ places, DataW.whole enc Tryd.prog ((fnToneFrom_world os).forCall (fun _ _ => 0) ⟨#[], #[.slice none 0 0], []⟩).memory Tryd.f4.params.toList Rows.fnToneFromSpec.vars false (#[.slice none 0 0] : Array Value).toList 8 = some ([.nil], [], places) :=
  ⟨((DataW.whole enc Tryd.prog ((fnToneFrom_world os).forCall (fun _ _ => 0) ⟨#[], #[.slice none 0 0], []⟩).memory Tryd.f4.params.toList Rows.fnToneFromSpec.vars false (#[.slice none 0 0] : Array Value).toList 8).getD ([], [], [])).2.2, by kernel_rfl⟩
set_option maxRecDepth 100000 in
theorem fnToneFrom_lifted (os : Os) (started : os.Started) (H : Type) (enc : TypeId × Value → H) (F : Stop.Interp) :
    ReturnsInHanded {} Tryd.checked os 4 .any ((OpenSpec.ofChange Rows.fnToneFromSpec).preRow enc Tryd.prog Tryd.f4 Rows.fnToneFromRow.domain false Rows.fnToneFromRow.laid) (((OpenSpec.ofChange Rows.fnToneFromSpec).at F).post enc Tryd.prog Tryd.f4 false true false false) := by
  obtain ⟨places, hx⟩ := fnToneFrom_reads os enc
  refine returnsInHanded_of_row (C := Tryd.checked) (s := OpenSpec.ofChange Rows.fnToneFromSpec) own started (by kernel_rfl) Tryd.func4
    (witness_row_at (enc := enc) (C := Tryd.checked) false (fnToneFrom_world os) #[.slice none 0 0] rfl (by kernel_rfl) (by kernel_rfl) (by kernel_rfl)
      (OpenSpec.preRow_of_cond 8 hx (by kernel_rfl) (fun k hk => by cases hk) (by kernel_rfl) (fnToneFrom_met os))) ?_
  intro W base args ds gs before hval0 hW _ _ _ hL _ _
  have hval : ∀ (j : Nat) t v, Tryd.f4.params[j]? = some t → args[j]? = some v → Value.okWide Tryd.prog W .any base t v := hval0
  have hW' := hW
  obtain ⟨p, q, hA0, hV, rfl, _, _⟩ := hW
  have hA : DataW.TrodAll enc Tryd.prog W 0 (fun _ => true) true Tryd.f4.params.toList args.toList ds p := hA0
  rw [Tryd.params4] at hA hval
  obtain ⟨v0, vs0, d0, ds0, p0, q0, hargs, rfl, rfl, h0, r0⟩ := trodAll_cons hA
  obtain ⟨rfl, rfl, rfl⟩ := trodAll_nil r0
  obtain rfl : args = #[v0] := by cases args; simp_all
  obtain ⟨rfl, rfl⟩ := trodVars_none hV
  obtain ⟨a0, n0, c0, rfl⟩ := okWide_slice Tryd.underlying22 (hval 0 22 v0 rfl rfl)
  have k0 := h0
  have lt0 : ∀ x ∈ p0, x.block < W.heap.size := by obtain ⟨m, hm⟩ := k0; exact DataW.trod_lt m _ _ _ hm
  have y0 := code_in h0
  clear hA0 hval0
  refine (fnToneFrom_walk a0 n0 c0 W y0.1 y0.2.1 y0.2.2).mono fun e W' ⟨he, hb⟩ => ?_
  subst he
  exact ⟨_, rfl, _, _, _, [], _, [], hW', trodAll_cons_mk (shut_bool Tryd.underlying4 _) trodAll_mk0, trodAll_cons_mk (Below.trod laidOut (by kernel_rfl) (of_decide_eq_true (by kernel_rfl)) k0 hb lt0) (trodAll_mk0), rfl, hb.frame _, fun h => by cases h⟩


end Go.Proofs.YtjodcaeohkjlnaaDoor
