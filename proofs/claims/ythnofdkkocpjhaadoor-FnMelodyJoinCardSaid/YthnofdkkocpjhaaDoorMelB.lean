/-
  A melody backwards, in both programs.
-/
import Derived.Test.YthnofdkkocpjhaaDoorMelT
import Derived.Test.YthnofdkkocpjhaaDoorMelV
namespace Go.Proofs.YthnofdkkocpjhaaDoor
open Go.RowKit
set_option maxRecDepth 100000
set_option linter.unusedVariables false

def MBuilt (w : World) (xs : List (Int × Bool)) (e : Ending) (w' : World) : Prop :=
  ∃ p, e = .returned (.pointer p) ∧ Mel w' w.heap.size p xs ∧ Below w.heap.size w w'
def BkInv (w wr : World) (m o : Value) (xs ys : List (Int × Bool)) : Prop :=
  ∃ p q, m = .pointer p ∧ o = .pointer q ∧ (∃ lo, Mel wr lo p ys) ∧ Mel wr w.heap.size q xs ∧ Below w.heap.size w wr

set_option maxHeartbeats 2000000 in
theorem back_any (p : Option Addr) (lo : Nat) (xs : List (Int × Bool)) (w : World) (h : Mel w lo p xs) :
    Calls Tryd.prog 26 #[.pointer p] w (MBuilt w xs.reverse) := by
  go_enter Tryd.func26, Tryd.ntmps26
  go_wp2
  go_loopg [0, 3] xs.length (fun k m o wr => ∃ j, j + k = xs.length ∧ BkInv w wr m o (xs.take j).reverse (xs.drop j))
  case atStart => exact ⟨0, by omega, p, none, rfl, rfl, ⟨lo, by simpa using h⟩, by simp [Mel], Below.refl _ _⟩
  case round =>
    obtain ⟨j, hj, p, q, rfl, rfl, ⟨lo', hm⟩, hq, hb⟩ := hrel
    by_cases hlt : j < xs.length
    · have hd : xs.drop j = xs[j] :: xs.drop (j + 1) := List.drop_eq_getElem_cons hlt
      have ht : xs[j]? = some xs[j] := List.getElem?_eq_getElem hlt
      have hx : (xs.take (j + 1)).reverse = xs[j] :: (xs.take j).reverse := by rw [List.take_add_one, ht]; simp
      rw [hd] at hm
      have HX := Lib.hid hx
      clear hd ht hx
      generalize xs[j] = t at hm HX
      obtain ⟨s, b⟩ := t
      obtain ⟨B, r, rfl, hlo, hB, c0, c1, c2, hr⟩ := hm.head
      have HR := Lib.hid (hr.below ((Below.refl _ _).alloc (Nat.le_refl _) (.cells #[.int .i64 s, .bool b, .pointer q] 61)))
      have HQ := Lib.hid (hq.cons_ (t := (s, b)) hb.size)
      have HB := Lib.hid (hb.alloc hb.size (.cells #[.int .i64 s, .bool b, .pointer q] 61))
      have HJ := Lib.hid hj
      clear hr hm hq hj
      go_wp2
      have hj := HJ.out
      go_roundg (gk - 1)
      case measure => omega
      case rel => exact ⟨j + 1, by omega, _, _, rfl, rfl, ⟨_, HR.out⟩, by rw [HX.out]; exact HQ.out, HB.out⟩
    · have hj0 : j = xs.length := by omega
      subst hj0
      have hp : p = none := by simpa [Mel] using hm
      subst hp
      rw [List.take_length] at hq
      have HE : Hid (MBuilt w xs.reverse (.returned (.pointer q)) wr) := ⟨q, rfl, hq, hb⟩
      clear hm hq
      go_wp2
      go_ret
      exact HE.out

/-- a list of tones that a call has built, and whether it succeeds -/
def TBuilt2 (w : World) (xs : List (Int × Bool)) (ok : Bool) (e : Ending) (w' : World) : Prop :=
  ∃ v, e = .returned (.tuple #[v, .bool ok]) ∧ TRow w' w.heap.size w'.heap.size v xs ∧ Below w.heap.size w w'

theorem mvl_back (xs : List (Int × Bool)) : (mvl xs).reverse.length ≤ 24 := by rw [List.length_reverse]; exact mvl_len xs

/-- the model's loop behind all but k tones -/
def SbInv (w wr : World) (xs : List (Int × Bool)) (k : Nat) (o i : Value) : Prop :=
  i = .int .i64 ((k : Int) - 1) ∧ k ≤ xs.length ∧ wr.ownsRow w.heap.size 52 2 o (xs.length - k) (tcs (xs.drop k).reverse) ∧ Below w.heap.size w wr
end Go.Proofs.YthnofdkkocpjhaaDoor
