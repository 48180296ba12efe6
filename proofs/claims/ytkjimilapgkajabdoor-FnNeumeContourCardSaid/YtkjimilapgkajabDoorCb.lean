/-
  ContourBack in both programs: the opposite order, up and down exchanged.
-/
import Derived.Test.YtkjimilapgkajabDoorCt
import Derived.Test.YtkjimilapgkajabDoorShelf
import Derived.IntWalk
namespace Go.Proofs.YtkjimilapgkajabDoor
open Go.RowKit
set_option maxRecDepth 100000
set_option linter.unusedVariables false

theorem below_putRow {α : Type} [Inhabited α] (enc : α → Value) {n B k : Nat} {w W : World} (d : Array α) (h : Below n w W) (hB : n ≤ B) : Below n w (Go.Sort.putRow enc (Go.Sort.ahead W k) B 0 d) :=
  ⟨h.os, h.tape, h.output, by
    show w.heap.size ≤ (W.heap.modify B _).size
    rw [Array.size_modify]; exact h.size, fun i hi => by
    show (W.heap.modify B _)[i]? = _
    rw [Array.getElem?_modify, if_neg (by omega)]
    exact h.block i hi⟩

def encB (c : UInt8) : Value := .int .u8 (c.toNat : Int)
theorem oneB : OneCell encB := fun _ => rfl

def RevB (x : ByteArray) (B cap : Nat) (W : World) (e : Ending) (w' : World) : Prop :=
  e = .returned (.tuple #[]) ∧ (convert 22 9 (.slice (some ⟨B, 0, none⟩) x.size cap)).run Tryd.prog w' = .ok (.string ⟨x.data.toList.reverse.toArray⟩) w' ∧ ∀ n (w0 : World), n ≤ B → Below n w0 W → Below n w0 w'
theorem reverse_bytes (x : ByteArray) (B cap : Nat) (W : World) (h : ∀ j (hj : j < x.size), W.cell? ⟨B, j, none⟩ = some (.int .u8 (x[j].toNat : Int)) ∧ W.frozen? ⟨B, j, none⟩ = false) (hx : x.size ≤ 9223372036854775807) :
    Calls Tryd.prog 78 #[.slice (some ⟨B, 0, none⟩) x.size cap] W (RevB x B cap W) := by
  have hl : x.data.toList.length = x.size := by simp
  have hH : Go.Sort.Holds encB W B 0 x.data.toList.toArray := fun j hj => by
    have hj' : j < x.size := by simpa using hj
    obtain ⟨h1, h2⟩ := h j hj'
    rw [Nat.zero_add]
    refine ⟨h1.trans ?_, h2⟩
    have : x.data.toList.toArray[j]! = x[j] := by
      rw [getElem!_pos _ _ (by simpa using hj')]
      simp
      rfl
    rw [this]; rfl
  have K : Calls Tryd.prog 78 #[.slice (some ⟨B, 0, none⟩) x.data.toList.length cap] W fun e w' => e = .returned (.tuple #[]) ∧ ∃ n, w' = Go.Sort.putRow encB (Go.Sort.ahead W n) B 0 x.data.toList.reverse.toArray := AnyE.slices_Reverse Tryd.revB encB oneB B 0 cap x.data.toList W hH (by omega)
  rw [hl] at K
  refine K.mono fun e w' ⟨he, n, hw⟩ => ⟨he, ?_, fun n' w0 hn hb => by rw [hw]; exact below_putRow encB _ hb hn⟩
  subst hw
  have hr : x.data.toList.reverse.length = x.size := by simp
  have hc := run_convert_bytes_back (P := Tryd.prog) (Go.Sort.putRow encB (Go.Sort.ahead W n) B 0 x.data.toList.reverse.toArray) 22 9 5 ⟨B, 0, none⟩ cap x.data.toList.reverse Tryd.underlying22 Tryd.underlying5 Tryd.underlying9 fun j hj => by
    have hH2 : Go.Sort.Holds encB (Go.Sort.ahead W n) B 0 x.data.toList.toArray := hH
    have := Go.Sort.cell?_putRow encB (Go.Sort.ahead W n) B 0 x.data.toList.toArray x.data.toList.reverse.toArray hH2 (by simp) j (by simpa using hj)
    rw [Nat.zero_add] at this
    rw [Go.WideShapes.add_plain, Nat.zero_add, this, getElem!_pos _ _ (by simpa using hj)]
    rfl
  rw [hr] at hc
  exact hc

theorem bytes_world (W : World) (x : ByteArray) (j : Nat) (hj : j < x.size) (C : Array Value) (hC : C = bytesRow x (grownCap W x.size 0 5)) (t : TypeId) :
    (W.drew.alloc (.cells C t (C.size, C.size + 1))).cell? ⟨W.heap.size, j, none⟩ = some (.int .u8 (x[j].toNat : Int)) ∧ (W.drew.alloc (.cells C t (C.size, C.size + 1))).frozen? ⟨W.heap.size, j, none⟩ = false := by
  have hz : x.size ≤ C.size := by
    rw [hC]; unfold bytesRow; rw [Array.size_append, Array.size_map]; show x.data.size ≤ _; omega
  refine ⟨(World.cell?_alloc_mark W.drew C t (C.size, C.size + 1) j).trans ?_, (World.frozen?_alloc_mark W.drew C t C.size (C.size + 1) j).trans ?_⟩
  · rw [hC]; exact bytesRow_at x _ j hj
  · have : decide (C.size ≤ j) = false := by simp; omega
    rw [this]; rfl

theorem ctB_rev (s : ByteArray) : (⟨(ctT s).data.toList.reverse.toArray⟩ : ByteArray) = ctB s := by
  unfold ctT ctB
  split <;> simp

set_option maxHeartbeats 4000000 in
theorem contourBack_any (s : ByteArray) (hs : s.size ≤ 4611686018427387904) (w : World) :
    Calls Tryd.prog 30 #[.string s] w fun e w' => e = .returned (.tuple #[.string (ctB s), .bool (cv s)]) ∧ Below w.heap.size w w' := by
  have hz := ctT_size s
  have HB := Lib.hid (ctB_rev s)
  go_enter Tryd.func30, Tryd.ntmps30
  go_wp2_with (fail)
  (go_at_call 77; refine (contourTurn_any s _).mono ?_; rintro e w1 ⟨rfl, hb1⟩)
  generalize ctT s = x at hz HB
  have hcv := run_bytes_of_string (P := Tryd.prog) w1 9 22 5 x Tryd.underlying9 Tryd.underlying22 Tryd.underlying5
  obtain ⟨C, hC⟩ : ∃ C, C = bytesRow x (grownCap w1 x.size 0 5) := ⟨_, rfl⟩
  rw [← hC] at hcv
  have HW := Lib.hid (fun j hj => bytes_world w1 x j hj C hC 5)
  have HBW : Hid (Below w.heap.size w (w1.drew.alloc (.cells C 5 (C.size, C.size + 1)))) := hb1.drew.alloc hb1.size _
  generalize grownCap w1 x.size 0 5 = cap at hcv
  have h1z := hb1.size
  clear hC
  go_wp2_with (fail)
  (go_at_call 78; refine (reverse_bytes x w1.heap.size cap _ HW.out (by omega)).mono ?_; rintro e w2 ⟨rfl, hcv2, hb2⟩)
  have HB2 := Lib.hid (hb2 _ _ h1z HBW.out)
  rw [HB.out] at hcv2
  clear hb2 hcv
  go_wp2
  go_ret2
  exact ⟨rfl, HB2.out⟩

theorem map_drop (s : ByteArray) (j : Nat) (hj : j < s.size) : ((s.data.toList.drop j).map tnb).reverse = ((s.data.toList.drop (j + 1)).map tnb).reverse ++ [tnb s[j]] := by
  have : s.data.toList.drop j = s[j] :: s.data.toList.drop (j + 1) := by
    rw [List.drop_eq_getElem_cons (by simpa using hj)]; rfl
  rw [this]; simp
end Go.Proofs.YtkjimilapgkajabDoor
