/-
  The ways of a melody, given out one by one: the program's iterator.
-/
import Derived.RangeFuncBox
import Derived.RangeFuncLeaves
import Derived.Shelf.Abstract
import Derived.WalkKit
import Derived.OwnWalkIn
import Derived.TacticsInMore
import Derived.LoopNIn
import Derived.LoopIn
import Derived.Maps.AppendAt
import Derived.Shelf.RegionOpen
import Derived.Test.YtkjimilapgkajabDoorSco
import Derived.Test.YtkjimilapgkajabDoorMel
namespace Go.Proofs.YtkjimilapgkajabDoor
open Go.RowKit Go.Shelf
set_option maxRecDepth 100000
set_option linter.unusedVariables false

attribute [local go_sem] Oper.semAt_some

theorem wayOf_any (a b : Int) (w : World) : Calls Tryd.prog 127 #[.int .i64 a, .int .i64 b] w fun e w' => e = .returned (.int .u8 ((wyc a b).toNat : Int)) ∧ w = w' := by
  by_cases h : a < b
  · have e : wyc a b = 117 := by simp [wyc, h]
    rw [e]
    clear e
    go_enter Tryd.func127, Tryd.ntmps127
    go_wp2
    go_ret
    exact ⟨rfl, rfl⟩
  · have h1 : decide (a < b) = false := by simpa using h
    by_cases h2 : b < a
    · have e : wyc a b = 100 := by simp [wyc, h, h2]
      rw [e]
      clear e
      go_enter Tryd.func127, Tryd.ntmps127
      go_wp2
      go_ret
      exact ⟨rfl, rfl⟩
    · have h3 : decide (b < a) = false := by simpa using h2
      have e : wyc a b = 115 := by simp [wyc, h, h2]
      rw [e]
      clear e
      go_enter Tryd.func127, Tryd.ntmps127
      go_wp2
      go_ret
      exact ⟨rfl, rfl⟩

theorem Mel.unique {w : World} {lo : Nat} : ∀ {p : Option Addr} {xs ys : List (Int × Bool)}, Mel w lo p xs → Mel w lo p ys → xs = ys
  | _, [], [], _, _ => rfl
  | _, [], _ :: _, h, h2 => by
    obtain ⟨B, q, hp, _⟩ := h2.head
    have h : _ = none := h
    rw [h] at hp; cases hp
  | _, _ :: _, [], h2, h => by
    obtain ⟨B, q, hp, _⟩ := h2.head
    have h : _ = none := h
    rw [h] at hp; cases hp
  | _, (s, b) :: xs, (t, c) :: ys, h, h2 => by
    obtain ⟨B, q, hp, _, _, a1, a2, a3, hr⟩ := h.head
    obtain ⟨B', q', hp', _, _, a1', a2', a3', hr'⟩ := h2.head
    rw [hp] at hp'
    cases hp'
    rw [a1] at a1'; rw [a2] at a2'; rw [a3] at a3'
    cases a1'; cases a2'; cases a3'
    rw [Mel.unique hr hr']

open Classical in
noncomputable def melLeft (w : World) (lo : Nat) (v : Value) : Nat :=
  if h : ∃ r : Option Addr × List (Int × Bool), v = .pointer r.1 ∧ Mel w lo r.1 r.2 then (Classical.choose h).2.length else 0

theorem melLeft_eq {w : World} {lo : Nat} {q : Option Addr} {xs : List (Int × Bool)} (h : Mel w lo q xs) : melLeft w lo (.pointer q) = xs.length := by
  have hex : ∃ r : Option Addr × List (Int × Bool), Value.pointer q = .pointer r.1 ∧ Mel w lo r.1 r.2 := ⟨(q, xs), rfl, h⟩
  unfold melLeft
  rw [dif_pos hex]
  obtain ⟨e, hl⟩ := Classical.choose_spec hex
  have e' : q = (Classical.choose hex).1 := by simpa using e
  rw [← e'] at hl
  rw [Mel.unique hl h]

/-- the ways between the tones of a list -/
def wys : List (Int × Bool) → List UInt8
  | t :: u :: r => wyc t.1 u.1 :: wys (u :: r)
  | _ => []

set_option maxRecDepth 100000 in
set_option maxHeartbeats 2000000 in
theorem ways1_in (n : Nat) (hn : 1 ≤ n) (l Bn lo : Nat) (w0 : World) (p0 : Option Addr) (xs : List (Int × Bool)) (J Jx : List UInt8 → World → Prop)
    (hY : ∀ pre x W, J pre W → pre.length < (wys xs).length → YieldAt Fence.wide (n - 1) Tryd.prog l #[.int .u8 ((x : UInt8).toNat : Int)] W fun e W' =>
      ∃ b, e = .returned (.bool b) ∧ (b = true → J (pre ++ [x]) W' ∧ Below w0.heap.size W W') ∧ (b = false → Jx (pre ++ [x]) W'))
    (W : World) (hBn : W.cell? ⟨Bn, 0, none⟩ = some (.pointer p0)) (hL : Mel w0 lo p0 xs) (hW : Below w0.heap.size w0 W) (h0 : J [] W) (HD : ∀ pre W, J pre W → J pre W.drew) :
    CallsIn Fence.wide n Tryd.prog 126 #[.func (.yield l) #[] #[], .pointer (some ⟨Bn, 0, none⟩)] W fun e W' => (∃ v, e = .returned v) ∧
      ((∃ ys, ys = wys xs ∧ J ys W') ∨ (∃ pre, pre <+: wys xs ∧ Jx pre W')) := by
  refine callsIn_of_wp Tryd.func126 rfl trivial ?_ rfl
  simp only [Tryd.ntmps126, List.size_toArray, List.length_cons, List.length_nil, Nat.reduceAdd, Nat.reduceSub, Array.replicate_succ, Array.replicate_zero, List.push_toArray, List.append_toArray, List.nil_append, List.cons_append]
  gi_wp2
  gi_loopw [3] (fun p wr => ∃ (pre : List UInt8) (rest : List (Int × Bool)) (q : Option Addr), p = .pointer q ∧ wys xs = pre ++ wys rest ∧ Mel w0 lo q rest ∧ J pre wr ∧ Below w0.heap.size w0 wr)
    (fun p wr => melLeft w0 lo p)
  case atStart =>
    exact ⟨[], xs, p0, rfl, rfl, hL, h0, hW⟩
  case round =>
    obtain ⟨pre, rest, q, rfl, hx, hl, hJs, hb⟩ := hrel
    have hl' := hl
    match rest, hx, hl, hl' with
    | [], hx, hl, hl' =>
      obtain rfl : q = none := hl
      gi_wp2
      go_end0
      exact ⟨⟨_, rfl⟩, .inl ⟨pre, by simp [hx, wys], hJs⟩⟩
    | [t], hx, hl, hl' =>
      obtain ⟨B, q', rfl, _, hB, a1, a2, a3, hr⟩ := hl.head
      obtain rfl : q' = none := hr
      have a3 := (hb.cell (p := ⟨B, 2, none⟩) hB).trans a3
      gi_wp2
      go_end0
      exact ⟨⟨_, rfl⟩, .inl ⟨pre, by simp [hx, wys], hJs⟩⟩
    | t :: u :: r, hx, hl, hl' =>
      obtain ⟨B, q', rfl, _, hB, a1, a2, a3, hr⟩ := hl.head
      have hr' := hr
      obtain ⟨C, q2, rfl, _, hC, c1, c2, c3, _⟩ := hr.head
      have a1 := (hb.cell (p := ⟨B, 0, none⟩) hB).trans a1
      have a3w := a3
      have a3 := (hb.cell (p := ⟨B, 2, none⟩) hB).trans a3
      have c1 := (hb.cell (p := ⟨C, 0, none⟩) hC).trans c1
      obtain ⟨fn, tmps, assign, body, hy, hR⟩ := hY pre (wyc t.1 u.1) wr.drew (HD _ _ hJs) (by rw [hx]; simp [wys])
      have hfn : Fence.wide.fn 127 := trivial
      have hmx : Tryd.prog.follows .mixedOrders = true := by kernel_rfl
      gi_wp2
      gi_region_with_o (first | (gi_at_call 127; refine (callsIn_wide.2 (wayOf_any t.1 u.1 _)).mono ?_; rintro e wx ⟨rfl, rfl⟩) | (refine hR.mono ?_; rintro e W3 ⟨b, rfl, h3, h4⟩))
      all_goals
        simp only [Act.put, List.getElem_toArray, List.getElem_cons_succ, List.getElem_cons_zero, List.setIfInBounds_toArray, List.set_cons_zero, List.set_cons_succ]
        cases b
        · have hJx := h4 rfl
          clear h3 h4
          gi_wp2
          refine bodyPost_ret (results_none rfl _ _ _) rfl ?_
          exact ⟨⟨_, rfl⟩, .inr ⟨pre ++ [wyc t.1 u.1], ⟨wys (u :: r), by simp [hx, wys]⟩, hJx⟩⟩
        · obtain ⟨hJ2, hb3⟩ := h3 rfl
          have hb4 : Below w0.heap.size w0 W3 := hb.drew.trans hb3
          have a3 := (hb4.cell (p := ⟨B, 2, none⟩) hB).trans a3w
          clear h3 h4
          gi_wp2
          go_roundw
          case rel => exact ⟨pre ++ [wyc t.1 u.1], u :: r, some ⟨C, 0, none⟩, rfl, by simp [hx, wys], hr', hJ2, hb4⟩
          case measure => rw [melLeft_eq hr', melLeft_eq hl']; simp
end Go.Proofs.YtkjimilapgkajabDoor
