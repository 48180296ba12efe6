/-
  The draw of a text that is often a melody's.
-/
import Derived.Test.YtjodcaeohkjlnaaDoorSmT
import Derived.Test.YtjodcaeohkjlnaaDoorMtx2
import Derived.Test.YtjodcaeohkjlnaaDoorDrawOf
import Derived.Laws.Concat
import Derived.Laws.IdiomStrings
import Derived.IntWalk
namespace Go.Proofs.YtjodcaeohkjlnaaDoor
open Go.RowKit
set_option maxRecDepth 100000
set_option linter.unusedVariables false

set_option maxHeartbeats 4000000 in
theorem l6Many_any (w : World) : Calls Tryd.prog 119 #[.string ⟨#[71, 48, 32]⟩, .int .i64 24] w fun e w' => (∃ o : ByteArray, e = .returned (.string o) ∧ o.size ≤ 72) ∧ Below w.heap.size w w' := by
  go_enter Tryd.func119, Tryd.ntmps119
  go_wp2
  go_loopw [0, 1, 5] (fun s n o wr => ∃ (a b : ByteArray) (k : Nat), s = .string a ∧ n = .int .i64 k ∧ o = .string b ∧ k ≤ 24 ∧ b.size + a.size * k ≤ 72 ∧ Below w.heap.size w wr) (fun _ n _ _ => (intOf n).toNat)
  case atStart => exact ⟨⟨#[71, 48, 32]⟩, ⟨#[]⟩, 24, rfl, rfl, rfl, Nat.le_refl _, by decide, Below.refl _ _⟩
  case round =>
    obtain ⟨a, b, k, rfl, rfl, rfl, hk, hs, hb⟩ := hrel
    by_cases h0 : k = 0
    · subst h0
      go_wp2
      go_ret
      exact ⟨⟨b, rfl, by omega⟩, hb⟩
    · have k0 : (0 : Int) < (k : Int) := by omega
      have ha : a.size ≤ 72 := by have := Nat.le_mul_of_pos_right a.size (by omega : 0 < k); omega
      have hadd2 : ∀ W : World, (Op.stringOp .add a a).run Tryd.prog W = .ok (.string (a ++ a)) W := fun W => run_string_add_sum W _ _ (by omega)
      have hq : (k : Int).tdiv 2 = ((k / 2 : Nat) : Int) := by rw [Int.tdiv_eq_ediv_of_nonneg (by omega)]; rfl
      have hqw : IntKind.i64.wrap ((k / 2 : Nat) : Int) = ((k / 2 : Nat) : Int) := IntWalk.i64_in _ (by omega)
      have hkk : k = 2 * (k / 2) + k % 2 := by omega
      have hmul : a.size * k = 2 * (a.size * (k / 2)) + a.size * (k % 2) := by
        conv => lhs; rw [hkk]
        rw [Nat.mul_add, ← Nat.mul_assoc, Nat.mul_comm a.size 2, Nat.mul_assoc]
      have hmul2 : (a ++ a).size * (k / 2) = 2 * (a.size * (k / 2)) := by rw [ByteArray.size_append, Nat.add_mul]; omega
      by_cases h1 : k % 2 = 1
      · have hr : (k : Int).tmod 2 = 1 := by rw [Int.tmod_eq_emod_of_nonneg (by omega)]; omega
        have hadd1 : ∀ W : World, (Op.stringOp .add b a).run Tryd.prog W = .ok (.string (b ++ a)) W := fun W => run_string_add_sum W _ _ (by omega)
        rw [h1, Nat.mul_one] at hmul
        have HS : Hid ((b ++ a).size + (a ++ a).size * (k / 2) ≤ 72) := by show _ ≤ _; rw [hmul2, ByteArray.size_append]; omega
        clear hkk hmul hmul2 hs h1
        go_wp2
        go_roundw
        case rel => exact ⟨a ++ a, b ++ a, k / 2, rfl, by go_num, rfl, by omega, HS.out, hb⟩
        case measure => simp [intOf]; omega
      · have h2 : k % 2 = 0 := by omega
        have hr : (k : Int).tmod 2 = 0 := by rw [Int.tmod_eq_emod_of_nonneg (by omega)]; omega
        rw [h2, Nat.mul_zero] at hmul
        have HS : Hid (b.size + (a ++ a).size * (k / 2) ≤ 72) := by show _ ≤ _; rw [hmul2]; omega
        clear hkk hmul hmul2 hs h1 h2
        go_wp2
        go_roundw
        case rel => exact ⟨a ++ a, b, k / 2, rfl, by go_num, rfl, by omega, HS.out, hb⟩
        case measure => simp [intOf]; omega

set_option maxHeartbeats 4000000 in
theorem drawMelodyFrom_any (a : Option Addr) (n cap : Nat) (w : World) (h : CodeAt w a n) (hc : n ≤ cap) (hcap : cap ≤ maxLen) :
    Calls Tryd.prog 58 #[.slice a n cap] w fun e w' => (∃ x : ByteArray, e = .returned (.string x) ∧ x.size ≤ 1000) ∧ Below w.heap.size w w' := by
  go_enter Tryd.func58, Tryd.ntmps58
  go_wp2_with (fail)
  (go_at_call 77; refine (open_any a n cap _ h hc hcap).mono ?_; rintro e w1 ⟨A, rfl, hr1, hb1, hs1⟩)
  have hB1 := hr1.lt
  have hA1 := hr1.ltA
  go_wp2_with (fail)
  (go_at_call 101; refine (l91Melody_any w.heap.size A 0 8 (by omega) (by omega) _ hr1).mono ?_; rintro e w2 ⟨v, xs, rfl, hI, hl⟩)
  have ht : TRow w2 w.heap.size w2.heap.size v xs := ⟨tmono hI.own hb1.size, fun g hg => (hI.own.lt g hg).2⟩
  have hbw2 : Below w.heap.size w w2 := below_gb hb1 hI.gb (Nat.le_refl _)
  have hrd := hI.rd
  have hml := mvl_len xs
  have hms := mts_size (mvl xs)
  clear hI hr1 hb1
  go_wp2_with (fail)
  (go_at_call 55; refine (sMelodyText_any _ _ v xs _ ht).mono ?_; rintro e w3 ⟨rfl, hb3⟩)
  have hr3 := hrd.below hb3
  have hbw3 := bl_step hbw2 hb3
  clear ht hb3 hrd
  generalize mts (mvl xs) = t at hms
  go_wp2_with (fail)
  (go_at_call 85; refine (pick_any 8 w.heap.size A _ (by omega) (by omega) (by omega) _ hr3).mono ?_; rintro e w4 ⟨k4, rfl, h40, h41, hr4, hg4⟩)
  have hbw4 := below_gb hbw3 hg4 (Nat.le_refl _)
  have z4 : w.heap.size < w4.heap.size := hr4.lt
  clear hg4 hr3 hbw3
  by_cases g0 : k4 = 0
  · subst g0
    go_wp2_with (fail)
    (go_at_call 86; refine (of_any w.heap.size A _ w4.heap.size 4 3 (by omega) (by omega) (by omega) _ (hr4.alloc _) (by omega) (by simp) ?_).mono ?_)
    · intro j hj
      rw [World.cell?_alloc_mark]
      match j, hj with
      | 0, _ => exact ⟨_, rfl, by decide⟩
      | 1, _ => exact ⟨_, rfl, by decide⟩
      | 2, _ => exact ⟨_, rfl, by decide⟩
      | 3, _ => exact ⟨_, rfl, by decide⟩
    rintro e w5 ⟨x, rfl, hx, hr5, hb5⟩
    have hbw5 := below_gb (hbw4.alloc hbw4.size _) hb5 (by omega)
    have hadd : ∀ W : World, (Op.stringOp .add t x).run Tryd.prog W = .ok (.string (t ++ x)) W := fun W => run_string_add_sum W _ _ (by omega)
    go_wp2
    go_ret
    exact ⟨⟨t ++ x, rfl, by rw [ByteArray.size_append]; omega⟩, hbw5⟩
  have e0 : (k4 == 0) = false := by simpa using g0
  by_cases g1 : k4 = 1
  · subst g1
    clear g0 e0
    go_wp2_with (fail)
    (go_at_call 119; refine (l6Many_any _).mono ?_; rintro e w5 ⟨⟨o, rfl, ho⟩, hb5⟩)
    have hr5 := hr4.below hb5
    have hbw5 := bl_step hbw4 hb5
    have z5 := hb5.size
    go_wp2_with (fail)
    (go_at_call 86; refine (of_any w.heap.size A _ w5.heap.size 2 3 (by omega) (by omega) (by omega) _ (hr5.alloc _) (by omega) (by simp) ?_).mono ?_)
    · intro j hj
      rw [World.cell?_alloc_mark]
      match j, hj with
      | 0, _ => exact ⟨_, rfl, by decide⟩
      | 1, _ => exact ⟨_, rfl, by decide⟩
    rintro e w6 ⟨x, rfl, hx, hr6, hb6⟩
    have hbw6 := below_gb (hbw5.alloc hbw5.size _) hb6 (by omega)
    have hadd : ∀ W : World, (Op.stringOp .add o x).run Tryd.prog W = .ok (.string (o ++ x)) W := fun W => run_string_add_sum W _ _ (by omega)
    go_wp2
    go_ret
    exact ⟨⟨o ++ x, rfl, by rw [ByteArray.size_append]; omega⟩, hbw6⟩
  have e1 : (k4 == 1) = false := by simpa using g1
  clear g0 g1
  go_wp2
  go_ret
  exact ⟨⟨t, rfl, by omega⟩, hbw4⟩
end Go.Proofs.YtjodcaeohkjlnaaDoor
