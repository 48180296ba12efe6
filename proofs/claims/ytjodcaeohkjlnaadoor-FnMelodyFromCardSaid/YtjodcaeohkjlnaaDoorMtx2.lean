/-
  MelodyText in both programs.
-/
import Derived.Test.YtjodcaeohkjlnaaDoorMtx
import Derived.Laws.Concat
namespace Go.Proofs.YtjodcaeohkjlnaaDoor
open Go.RowKit
set_option maxRecDepth 100000
set_option linter.unusedVariables false

theorem melodyText_any (lo hi : Nat) (v : Value) (xs : List (Int × Bool)) (w : World) (h : TRow w lo hi v xs) :
    Calls Tryd.prog 52 #[v] w fun e w' => e = .returned (.string (mts (mvl xs))) ∧ Below w.heap.size w w' := by
  have HV : Hid (allv (mvl xs) = true) := List.all_eq_true.2 fun t ht => mvl_mem ht
  have HL := Lib.hid (mvl_len xs)
  go_enter Tryd.func52, Tryd.ntmps52
  go_wp2_with (fail)
  (go_at_call 102; refine (newMelody_any lo hi v xs _ h).mono ?_; rintro e w1 ⟨p, rfl, hm, hb1⟩)
  go_wp2_with (fail)
  (go_at_call 117; refine (mtext_any p _ _ _ hm HV.out HL.out).mono ?_; rintro e w2 ⟨rfl, hb2⟩)
  clear hm h
  go_wp2
  go_ret
  exact ⟨rfl, bl_step hb1 hb2⟩

set_option maxHeartbeats 4000000 in
theorem sMelodyText_any (lo hi : Nat) (v : Value) (xs : List (Int × Bool)) (w : World) (h : TRow w lo hi v xs) :
    Calls Tryd.prog 55 #[v] w fun e w' => e = .returned (.string (mts (mvl xs))) ∧ Below w.heap.size w w' := by
  rcases h.form with ⟨rfl, rfl⟩ | ⟨g, cap, rfl, hg, hg2, hgs, hcap, hmax, hc⟩
  · clear h
    go_enter Tryd.func55, Tryd.ntmps55
    go_wp2
    go_rounds 1
    go_ret
    exact ⟨rfl, Below.refl _ _⟩
  unfold maxLen at hmax
  by_cases hx0 : xs.length = 0
  · have hxe : xs = [] := List.eq_nil_of_length_eq_zero hx0
    subst hxe
    clear h hc
    go_enter Tryd.func55, Tryd.ntmps55
    go_wp2
    go_rounds 1
    go_ret
    exact ⟨rfl, Below.refl _ _⟩
  by_cases hv : mv xs = false
  · have HE : Hid (mts (mvl xs) = ⟨#[]⟩) := by
      have : mvl xs = [] := mvl_no hv
      show mts (mvl xs) = _
      rw [this]; rfl
    have H1 := Lib.hid h
    have hs1 : (0 : Int) < (xs.length : Int) := by omega
    clear h hc hx0
    go_enter Tryd.func55, Tryd.ntmps55
    go_wp2
    go_loopw [3, 4] (fun o i wr => o = .string ⟨#[]⟩ ∧ i = .int .i64 0 ∧ w = wr) (fun _ _ _ => 0)
    case atStart => exact ⟨rfl, rfl, rfl⟩
    case round =>
      obtain ⟨rfl, rfl, rfl⟩ := hrel
      go_wp2_with (fail)
      (go_at_call 105; refine (sMelodyValid_any _ _ _ xs _ H1.out).mono ?_; rintro e w1 ⟨rfl, hb1⟩)
      go_wp2
      go_ret
      exact ⟨by rw [HE.out]; rfl, hb1⟩
  rw [Bool.not_eq_false] at hv
  have hmx : xs.length ≤ 24 := by simp [mv] at hv; exact hv.1
  have HA : Hid (allv xs = true) := by simp [mv] at hv; exact hv.2
  have HV : Hid (mvl xs = xs) := mvl_yes hv
  have HC := Lib.hid hc
  have HH := Lib.hid h
  clear h hc hx0
  go_enter Tryd.func55, Tryd.ntmps55
  go_wp2
  go_loopw [3, 4] (fun o i wr => ∃ k : Nat, k ≤ xs.length ∧ i = .int .i64 k ∧ o = .string (mts (xs.take k)) ∧ Below w.heap.size w wr) (fun _ i _ => xs.length - (intOf i).toNat)
  case atStart => exact ⟨0, Nat.zero_le _, rfl, rfl, Below.refl _ _⟩
  case round =>
    obtain ⟨k, hk, rfl, rfl, hb⟩ := hrel
    by_cases hlt : k < xs.length
    · have ht : xs[k]? = some xs[k] := List.getElem?_eq_getElem hlt
      have hx : xs.take (k + 1) = xs.take k ++ [xs[k]] := by rw [List.take_add_one, ht]; rfl
      have hvt := List.all_eq_true.1 HA.out _ (List.mem_of_getElem? ht)
      obtain ⟨e1, e2⟩ := HC.out k _ ht
      have e1 := (hb.cell (p := ⟨g, k * 2, none⟩) hgs).trans e1
      have e2 := (hb.cell (p := ⟨g, k * 2 + 1, none⟩) hgs).trans e2
      have hsz : (mts (xs.take k)).size ≤ 72 := by have := mts_size (xs.take k); have h2 : (xs.take k).length ≤ 24 := by simp; omega
                                                   omega
      have hk0 : (0 : Int) ≤ (k : Int) := by omega
      have hk1 : (k : Int) < (xs.length : Int) := by omega
      have hT := HH.out.below hb (.inr (Nat.le_refl _))
      have hgs1 : g < wr.heap.size := Nat.lt_of_lt_of_le hgs hb.size
      by_cases hk2 : k = 0
      · subst hk2
        have HX : Hid (mts (xs.take (0 + 1)) = ⟨#[tb0 xs[0].1 xs[0].2, tb1 xs[0].1]⟩) := by rw [hx]; exact mts_first _
        clear ht hx
        generalize xs[0] = t at HX e1 e2 hvt
        obtain ⟨s, b⟩ := t
        have KT := sToneText_any s b
        rw [ttx_yes hvt] at KT
        have HK := Lib.hid KT
        have hadd : ∀ W : World, (Op.stringOp .add (mts (xs.take 0)) ⟨#[tb0 s b, tb1 s]⟩).run Tryd.prog W = .ok (.string ⟨#[tb0 s b, tb1 s]⟩) W := fun W => run_string_add_sum W ⟨#[]⟩ _ (by show 0 + 2 ≤ 9223372036854775807; omega)
        generalize mts (xs.take 0) = o at hadd hsz
        clear KT
        go_wp2_with (fail)
        (go_at_call 105; refine (sMelodyValid_any _ _ _ xs _ hT).mono ?_; rintro e w1 ⟨rfl, hb1⟩)
        have d1 := (hb1.cell (p := ⟨g, 0 * 2, none⟩) hgs1).trans e1
        have d2 := (hb1.cell (p := ⟨g, 0 * 2 + 1, none⟩) hgs1).trans e2
        rw [Nat.zero_mul] at d1 d2
        clear e1 e2 hT
        go_wp2_with (fail)
        (go_at_call 22; refine (HK.out _).mono ?_; rintro e w2 ⟨rfl, hb2⟩)
        go_wp2
        go_roundw
        case rel => exact ⟨0 + 1, by omega, by go_num, by rw [HX.out], bl_step (bl_step hb hb1) hb2⟩
        case measure => simp [intOf]; omega
      · have hne : xs.take k ≠ [] := by
          intro e
          have := congrArg List.length e
          rw [List.length_take] at this
          simp only [List.length_nil] at this
          omega
        have HX : Hid (mts (xs.take k) ++ ⟨#[32]⟩ ++ ⟨#[tb0 xs[k].1 xs[k].2, tb1 xs[k].1]⟩ = mts (xs.take (k + 1))) := by rw [hx]; exact mts_more hne _
        have hkp : (0 : Int) < (k : Int) := by omega
        clear ht hx hne
        generalize xs[k] = t at HX e1 e2 hvt
        obtain ⟨s, b⟩ := t
        have KT := sToneText_any s b
        rw [ttx_yes hvt] at KT
        have HK := Lib.hid KT
        have hadd1 : ∀ W : World, (Op.stringOp .add (mts (xs.take k)) ⟨#[32]⟩).run Tryd.prog W = .ok (.string (mts (xs.take k) ++ ⟨#[32]⟩)) W := fun W => run_string_add_sum W _ _ (by show (mts (xs.take k)).size + 1 ≤ 9223372036854775807; omega)
        have hsz2 : (mts (xs.take k) ++ (⟨#[32]⟩ : ByteArray)).size ≤ 73 := by rw [ByteArray.size_append]; show (mts (xs.take k)).size + 1 ≤ 73; omega
        have hadd2 : ∀ W : World, (Op.stringOp .add (mts (xs.take k) ++ ⟨#[32]⟩) ⟨#[tb0 s b, tb1 s]⟩).run Tryd.prog W = .ok (.string (mts (xs.take (k + 1)))) W := fun W => by
          rw [← HX.out]
          exact run_string_add_sum W _ _ (by show (mts (xs.take k) ++ (⟨#[32]⟩ : ByteArray)).size + 2 ≤ 9223372036854775807; omega)
        clear HX KT hsz
        generalize mts (xs.take k) ++ (⟨#[32]⟩ : ByteArray) = o2 at hadd1 hadd2 hsz2
        generalize mts (xs.take k) = o at hadd1
        go_wp2_with (fail)
        (go_at_call 105; refine (sMelodyValid_any _ _ _ xs _ hT).mono ?_; rintro e w1 ⟨rfl, hb1⟩)
        have d1 := (hb1.cell (p := ⟨g, k * 2, none⟩) hgs1).trans e1
        have d2 := (hb1.cell (p := ⟨g, k * 2 + 1, none⟩) hgs1).trans e2
        clear e1 e2 hT
        go_wp2_with (fail)
        (go_at_call 22; refine (HK.out _).mono ?_; rintro e w2 ⟨rfl, hb2⟩)
        go_wp2
        go_roundw
        case rel => exact ⟨k + 1, by omega, by go_num, rfl, bl_step (bl_step hb hb1) hb2⟩
        case measure => simp [intOf]; omega
    · have hk0 : k = xs.length := by omega
      subst hk0
      rw [List.take_length]
      go_wp2
      go_ret
      exact ⟨by rw [HV.out]; rfl, hb⟩
end Go.Proofs.YtjodcaeohkjlnaaDoor
