/-
  The draw of a contour returns a short text.
-/
import Derived.Test.YtjodcaeohkjlnabDoorDraw2
import Derived.Test.YtjodcaeohkjlnabDoorDrawOf
import Derived.Laws.Concat
import Derived.Laws.IdiomStrings
namespace Go.Proofs.YtjodcaeohkjlnabDoor
open Go.RowKit
set_option maxRecDepth 100000
set_option linter.unusedVariables false

def ContPicked (B A q most : Nat) (w : World) (e : Ending) (w' : World) : Prop :=
  ∃ x : ByteArray, e = .returned (.string x) ∧ x.size ≤ most + 1 ∧ Rd w' B A (q + most + 3) ∧ w.grownBy w' (some B)
theorem contPicked {B A q q' most : Nat} {w w' : World} {x : ByteArray} (h : Rd w' B A q') (hq : q' ≤ q + most + 3) (hx : x.size ≤ most + 1) (hg : w.grownBy w' (some B)) : ContPicked B A q most w (.returned (.string x)) w' :=
  ⟨x, rfl, hx, h.more hq, hg⟩
theorem app_size (x y : ByteArray) : (x ++ y).size = x.size + y.size := ByteArray.size_append

set_option maxHeartbeats 4000000 in
theorem l91Contour_any (B A q most : Nat) (hm : most ≤ 24) (hq : q ≤ 800000) (w : World) (h : Rd w B A q) :
    Calls Tryd.prog 57 #[.pointer (some ⟨B, 0, none⟩), .int .i64 (most : Int)] w (ContPicked B A q most w) := by
  have hB := h.lt
  have hA := h.ltA
  have s1 : IntKind.i64.wrap ((most : Int) + 1) = (most : Int) + 1 := IntWalk.i64_in _ (by omega)
  go_enter Tryd.func57, Tryd.ntmps57
  go_wp2_with (fail)
  (go_at_call 61; refine (pick_any ((most : Int) + 1) B A q (by omega) (by omega) (by omega) _ h).mono ?_; rintro e w1 ⟨n', rfl, h0, h1, hr1, hg1⟩)
  obtain ⟨n, rfl⟩ : ∃ n : Nat, n' = n := ⟨n'.toNat, by omega⟩
  have hn : n ≤ most := by omega
  have HR := Lib.hid hr1
  have HG := Lib.hid hg1
  clear hr1 hg1
  go_wp2
  go_loopw [5, 7] (fun o i wr => ∃ (k : Nat) (x : ByteArray), k ≤ n ∧ i = .int .i64 k ∧ o = .string x ∧ x.size ≤ k ∧ Hid (Rd wr B A (q + 1 + k) ∧ w.grownBy wr (some B))) (fun _ i _ => n - (intOf i).toNat)
  case atStart => exact ⟨0, _, Nat.zero_le _, rfl, rfl, by decide, ⟨HR.out, HG.out⟩⟩
  case round =>
    obtain ⟨k, x, hk, rfl, rfl, hx, HK⟩ := hrel
    have zB := HK.out.1.lt
    by_cases hlt : k < n
    · have hk0 : (0 : Int) ≤ (k : Int) := by omega
      have hk1 : (k : Int) < (n : Int) := by omega
      go_wp2_with (fail)
      (go_at_call 62; refine (of_any B A (q + 1 + k) wr.heap.size 5 1 (by omega) (by omega) (by omega) _ (HK.out.1.alloc _) (by omega) (by simp) ?_).mono ?_)
      · intro j hj
        rw [World.cell?_alloc_mark]
        match j, hj with
        | 0, _ => exact ⟨_, rfl, by decide⟩
        | 1, _ => exact ⟨_, rfl, by decide⟩
        | 2, _ => exact ⟨_, rfl, by decide⟩
        | 3, _ => exact ⟨_, rfl, by decide⟩
        | 4, _ => exact ⟨_, rfl, by decide⟩
      rintro e w3 ⟨y, rfl, hy, hr3, hg3⟩
      have hs := app_size x y
      have hadd : ∀ W : World, (Op.stringOp .add x y).run Tryd.prog W = .ok (.string (x ++ y)) W := fun W => run_string_add_sum W _ _ (by omega)
      have HN : Hid (Rd w3 B A (q + 1 + (k + 1)) ∧ w.grownBy w3 (some B)) := ⟨hr3, gb_step (gb_alloc HK.out.2 _) hg3⟩
      clear hr3 hg3
      generalize x ++ y = xy at hadd hs
      go_wp2
      go_roundw
      case rel => exact ⟨k + 1, xy, by omega, by go_num, rfl, by omega, HN.out⟩
      case measure => simp [intOf]; omega
    · have hke : k = n := by omega
      subst hke
      go_wp2_with (fail)
      (go_at_call 61; refine (pick_any 20 B A (q + 1 + k) (by omega) (by omega) (by omega) _ HK.out.1).mono ?_; rintro e w3 ⟨j3, rfl, h30, h31, hr3, hg3⟩)
      have z3 : B < w3.heap.size := hr3.lt
      have HN := Lib.hid hr3
      have HM := Lib.hid (gb_step HK.out.2 hg3)
      clear hr3 hg3
      by_cases g0 : j3 = 0
      · subst g0
        go_wp2_with (fail)
        (go_at_call 62; refine (of_any B A (q + 1 + k + 1) w3.heap.size 3 1 (by omega) (by omega) (by omega) _ (HN.out.alloc _) (by omega) (by simp) ?_).mono ?_)
        · intro j hj
          rw [World.cell?_alloc_mark]
          match j, hj with
          | 0, _ => exact ⟨_, rfl, by decide⟩
          | 1, _ => exact ⟨_, rfl, by decide⟩
          | 2, _ => exact ⟨_, rfl, by decide⟩
        rintro e w4 ⟨y, rfl, hy, hr4, hg4⟩
        have hs := app_size x y
        have hadd : ∀ W : World, (Op.stringOp .add x y).run Tryd.prog W = .ok (.string (x ++ y)) W := fun W => run_string_add_sum W _ _ (by omega)
        have HE := Lib.hid (contPicked (q := q) (most := most) (x := x ++ y) hr4 (by omega) (by omega) (gb_step (gb_alloc HM.out _) hg4))
        clear hr4 hg4
        generalize x ++ y = xy at hadd hs HE
        go_wp2
        go_ret
        exact HE.out
      · have e0 : (j3 == 0) = false := by simpa using g0
        have HE := Lib.hid (contPicked (q := q) (most := most) (x := x) HN.out (by omega) (by omega) HM.out)
        clear g0
        go_wp2
        go_ret
        exact HE.out

def DrewCont (m : Nat) (w : World) (e : Ending) (w' : World) : Prop :=
  ∃ x : ByteArray, e = .returned (.string x) ∧ x.size ≤ m ∧ Below w.heap.size w w'
end Go.Proofs.YtjodcaeohkjlnabDoor
