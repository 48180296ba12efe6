/-
  The draw of a word of a list.
-/
import Derived.Test.YtcmcdomfmmjogaaDraw2
namespace Go.Proofs.Ytcmcdomfmmjogaa
open Go.RowKit
set_option maxRecDepth 100000
set_option linter.unusedVariables false

/-- a list of n short words -/
def Words (w : World) (C n m : Nat) : Prop := ∀ j, j < n → ∃ x : ByteArray, w.cell? ⟨C, j, none⟩ = some (.string x) ∧ x.size ≤ m
def OfPicked (B A q m : Nat) (w : World) (e : Ending) (w' : World) : Prop :=
  ∃ x : ByteArray, e = .returned (.string x) ∧ x.size ≤ m ∧ Rd w' B A (q + 1) ∧ w.grownBy w' (some B)

set_option maxHeartbeats 1000000 in
theorem of_any (B A q C n m : Nat) (hn : 1 ≤ n) (hn9 : n ≤ 1000) (hq : q ≤ 900000) (w : World) (h : Rd w B A q) (hC : C ≠ B) (hCs : C < w.heap.size) (hw : Words w C n m) :
    Calls Try.prog 81 #[.pointer (some ⟨B, 0, none⟩), .slice (some ⟨C, 0, none⟩) n n] w (OfPicked B A q m w) := by
  have hB := h.lt
  have hA := h.ltA
  have HW := Lib.hid hw
  clear hw
  go_enter Try.func81, Try.ntmps81
  go_wp2_with (fail)
  (go_at_call 63; refine (pick_any (n : Int) B A q (by omega) (by omega) (by omega) _ h).mono ?_; rintro e w1 ⟨k1, rfl, h10, h11, hr1, hb1⟩)
  obtain ⟨j, rfl⟩ : ∃ j : Nat, k1 = j := ⟨k1.toNat, by omega⟩
  obtain ⟨x, hx, hxm⟩ := HW.out j (by omega)
  obtain ⟨hc1, hf1, hz1⟩ := bg hb1
  have cx : w1.cell? ⟨C, j, none⟩ = some (.string x) := (hc1 C j hCs hC).trans hx
  have HX := Lib.hid hxm
  clear hc1 hf1 hx hxm
  go_wp2
  go_ret
  exact ⟨x, rfl, HX.out, hr1, hb1⟩

end Go.Proofs.Ytcmcdomfmmjogaa
