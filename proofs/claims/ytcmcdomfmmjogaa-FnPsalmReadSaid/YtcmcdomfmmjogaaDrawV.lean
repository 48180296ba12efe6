/-
  The draw of a verse returns a short text.
-/
import Derived.Test.YtcmcdomfmmjogaaDraw2
import Derived.Test.YtcmcdomfmmjogaaDrawOf
import Derived.Laws.Concat
import Derived.Laws.IdiomStrings
namespace Go.Proofs.Ytcmcdomfmmjogaa
open Go.RowKit
set_option maxRecDepth 100000
set_option linter.unusedVariables false

def VersePicked (B A q : Nat) (w : World) (e : Ending) (w' : World) : Prop :=
  ∃ x : ByteArray, e = .returned (.string x) ∧ x.size ≤ 40 ∧ Rd w' B A (q + 30) ∧ w.grownBy w' (some B)
theorem versePicked {B A q q' : Nat} {w w' : World} {x : ByteArray} (h : Rd w' B A q') (hq : q' ≤ q + 30) (hx : x.size ≤ 40) (hg : w.grownBy w' (some B)) : VersePicked B A q w (.returned (.string x)) w' :=
  ⟨x, rfl, hx, h.more hq, hg⟩
theorem vapp_size (x y : ByteArray) : (x ++ y).size = x.size + y.size := ByteArray.size_append

set_option maxHeartbeats 8000000 in
theorem l91Verse_any (B A q : Nat) (hq : q ≤ 800000) (w : World) (h : Rd w B A q) :
    Calls Try.prog 60 #[.pointer (some ⟨B, 0, none⟩)] w (VersePicked B A q w) := by
  have HR := Lib.hid h
  clear h
  go_enter Try.func60, Try.ntmps60
  go_wp2
  go_loopw [3, 4] (fun o i wr => ∃ (j : Nat) (x : ByteArray), j ≤ 2 ∧ i = .int .i64 j ∧ o = .string x ∧ x.size ≤ 9 * j ∧ Hid (Rd wr B A (q + 9 * j) ∧ w.grownBy wr (some B))) (fun _ i _ => 2 - (intOf i).toNat)
  case atStart => exact ⟨0, _, by omega, rfl, rfl, by decide, ⟨HR.out, gb_refl _ _⟩⟩
  case round =>
    obtain ⟨j, x, hj, rfl, rfl, hx, HK⟩ := hrel
    have zB := HK.out.1.lt
    have zA := HK.out.1.ltA
    by_cases hlt : j < 2
    · have hj0 : (0 : Int) ≤ (j : Int) := by omega
      have hj1 : (j : Int) < 2 := by omega
      go_wp2_with (fail)
      (go_at_call 63; refine (pick_any 8 B A (q + 9 * j) (by omega) (by omega) (by omega) _ HK.out.1).mono ?_; rintro e w1 ⟨n', rfl, h0, h1, hr1, hg1⟩)
      obtain ⟨n, rfl⟩ : ∃ n : Nat, n' = n := ⟨n'.toNat, by omega⟩
      have hn : n < 8 := by omega
      have HN1 : Hid (Rd w1 B A (q + 9 * j + 1) ∧ w.grownBy w1 (some B)) := ⟨hr1, gb_step HK.out.2 hg1⟩
      clear hr1 hg1 HK zB zA
      go_wp2
      go_loopw [3, 6] (fun o i wr' => ∃ (k : Nat) (y : ByteArray), k ≤ n + 1 ∧ i = .int .i64 k ∧ o = .string y ∧ y.size ≤ 9 * j + k ∧ Hid (Rd wr' B A (q + 9 * j + 1 + k) ∧ w.grownBy wr' (some B))) (fun _ i _ => n + 1 - (intOf i).toNat)
      case atStart => exact ⟨0, _, by omega, rfl, rfl, by omega, HN1.out⟩
      case round =>
        obtain ⟨k, y, hk, rfl, rfl, hy, HL⟩ := hrel
        have zB := HL.out.1.lt
        have zA := HL.out.1.ltA
        by_cases hlk : k < n + 1
        · have hk0 : (0 : Int) ≤ (k : Int) := by omega
          have hk1 : (k : Int) < 1 + (n : Int) := by omega
          go_wp2_with (fail)
          (go_at_call 81; refine (of_any B A (q + 9 * j + 1 + k) wr.heap.size 3 1 (by omega) (by omega) (by omega) _ (HL.out.1.alloc _) (by omega) (by simp) ?_).mono ?_)
          · intro j hj
            rw [World.cell?_alloc_mark]
            match j, hj with
            | 0, _ => exact ⟨_, rfl, by decide⟩
            | 1, _ => exact ⟨_, rfl, by decide⟩
            | 2, _ => exact ⟨_, rfl, by decide⟩
          rintro e w3 ⟨z, rfl, hz, hr3, hg3⟩
          have hs := vapp_size y z
          have hadd : ∀ W : World, (Op.stringOp .add y z).run Try.prog W = .ok (.string (y ++ z)) W := fun W => run_string_add_sum W _ _ (by omega)
          have HN : Hid (Rd w3 B A (q + 9 * j + 1 + (k + 1)) ∧ w.grownBy w3 (some B)) := ⟨hr3, gb_step (gb_alloc HL.out.2 _) hg3⟩
          clear hr3 hg3
          generalize y ++ z = yz at hadd hs
          go_wp2
          go_roundw
          case rel => exact ⟨k + 1, yz, by omega, by go_num, rfl, by omega, HN.out⟩
          case measure => simp [intOf]; omega
        · have hke : k = n + 1 := by omega
          have hk1 : ¬ (k : Int) < 1 + (n : Int) := by omega
          have hk2 : 1 + (n : Int) ≤ (k : Int) := by omega
          have HM : Hid (Rd wr B A (q + 9 * (j + 1)) ∧ w.grownBy wr (some B)) := ⟨HL.out.1.more (by omega), HL.out.2⟩
          by_cases hj00 : j = 0
          · subst hj00
            have hs := vapp_size y ⟨#[124]⟩
            have hs1 : (⟨#[124]⟩ : ByteArray).size = 1 := rfl
            have hadd : ∀ W : World, (Op.stringOp .add y ⟨#[124]⟩).run Try.prog W = .ok (.string (y ++ ⟨#[124]⟩)) W := fun W => run_string_add_sum W _ _ (by omega)
            generalize y ++ (⟨#[124]⟩ : ByteArray) = yz at hadd hs
            go_wp2
            go_roundw
            case rel => exact ⟨0 + 1, yz, by omega, by go_num, rfl, by omega, HM.out⟩
            case measure => simp [intOf]
          · have e0 : ((j : Int) == 0) = false := by rw [beq_eq_false_iff_ne]; omega
            go_wp2
            go_roundw
            case rel => exact ⟨j + 1, y, by omega, by go_num, rfl, by omega, HM.out⟩
            case measure => simp [intOf]; omega
    · have hje : j = 2 := by omega
      subst hje
      go_wp2_with (fail)
      (go_at_call 63; refine (pick_any 24 B A (q + 9 * 2) (by omega) (by omega) (by omega) _ HK.out.1).mono ?_; rintro e w3 ⟨j3, rfl, h30, h31, hr3, hg3⟩)
      have z3 : B < w3.heap.size := hr3.lt
      have HN := Lib.hid hr3
      have HM := Lib.hid (gb_step HK.out.2 hg3)
      clear hr3 hg3
      by_cases g0 : j3 = 0
      · subst g0
        go_wp2_with (fail)
        (go_at_call 81; refine (of_any B A (q + 9 * 2 + 1) w3.heap.size 3 2 (by omega) (by omega) (by omega) _ (HN.out.alloc _) (by omega) (by simp) ?_).mono ?_)
        · intro j hj
          rw [World.cell?_alloc_mark]
          match j, hj with
          | 0, _ => exact ⟨_, rfl, by decide⟩
          | 1, _ => exact ⟨_, rfl, by decide⟩
          | 2, _ => exact ⟨_, rfl, by decide⟩
        rintro e w4 ⟨y, rfl, hy, hr4, hg4⟩
        have hs := vapp_size x y
        have hadd : ∀ W : World, (Op.stringOp .add x y).run Try.prog W = .ok (.string (x ++ y)) W := fun W => run_string_add_sum W _ _ (by omega)
        have HE := Lib.hid (versePicked (q := q) (x := x ++ y) hr4 (by omega) (by omega) (gb_step (gb_alloc HM.out _) hg4))
        clear hr4 hg4
        generalize x ++ y = xy at hadd hs HE
        go_wp2
        go_ret
        exact HE.out
      have e0 : (j3 == 0) = false := by simpa using g0
      by_cases g1 : j3 = 1
      · subst g1
        go_wp2_with (fail)
        (go_at_call 81; refine (of_any B A (q + 9 * 2 + 1) w3.heap.size 6 3 (by omega) (by omega) (by omega) _ (HN.out.alloc _) (by omega) (by simp) ?_).mono ?_)
        · intro j hj
          rw [World.cell?_alloc_mark]
          match j, hj with
          | 0, _ => exact ⟨_, rfl, by decide⟩
          | 1, _ => exact ⟨_, rfl, by decide⟩
          | 2, _ => exact ⟨_, rfl, by decide⟩
          | 3, _ => exact ⟨_, rfl, by decide⟩
          | 4, _ => exact ⟨_, rfl, by decide⟩
          | 5, _ => exact ⟨_, rfl, by decide⟩
        rintro e w4 ⟨y, rfl, hy, hr4, hg4⟩
        have HE := Lib.hid (versePicked (q := q) (x := y) hr4 (by omega) (by omega) (gb_step (gb_alloc HM.out _) hg4))
        clear hr4 hg4
        go_wp2
        go_ret
        exact HE.out
      have e1 : (j3 == 1) = false := by simpa using g1
      by_cases g2 : j3 = 2
      · subst g2
        have hs := vapp_size x ⟨#[120, 120, 120, 120, 120, 120, 120, 120, 120, 120, 120, 120]⟩
        have hs1 : (⟨#[120, 120, 120, 120, 120, 120, 120, 120, 120, 120, 120, 120]⟩ : ByteArray).size = 12 := rfl
        have hadd : ∀ W : World, (Op.stringOp .add x ⟨#[120, 120, 120, 120, 120, 120, 120, 120, 120, 120, 120, 120]⟩).run Try.prog W = .ok (.string (x ++ ⟨#[120, 120, 120, 120, 120, 120, 120, 120, 120, 120, 120, 120]⟩)) W := fun W => run_string_add_sum W _ _ (by omega)
        have HE := Lib.hid (versePicked (q := q) (x := x ++ ⟨#[120, 120, 120, 120, 120, 120, 120, 120, 120, 120, 120, 120]⟩) HN.out (by omega) (by omega) HM.out)
        generalize x ++ (⟨#[120, 120, 120, 120, 120, 120, 120, 120, 120, 120, 120, 120]⟩ : ByteArray) = xy at hadd hs HE
        go_wp2
        go_ret
        exact HE.out
      · have e2 : (j3 == 2) = false := by simpa using g2
        have HE := Lib.hid (versePicked (q := q) (x := x) HN.out (by omega) (by omega) HM.out)
        clear g0 g1 g2
        go_wp2
        go_ret
        exact HE.out

def DrewVerse (w : World) (e : Ending) (w' : World) : Prop :=
  ∃ x : ByteArray, e = .returned (.string x) ∧ x.size ≤ 40 ∧ Below w.heap.size w w'
end Go.Proofs.Ytcmcdomfmmjogaa
