/-
  Is a text the names of a melody's groups? In both programs.
-/
import Derived.Test.YtkjimilapgkajabDoorGn
import Derived.Test.YtkjimilapgkajabDoorGns
import Derived.Test.YtkjimilapgkajabDoorGv3
namespace Go.Proofs.YtkjimilapgkajabDoor
open Go.RowKit
set_option maxRecDepth 100000
set_option linter.unusedVariables false

/-- is a text the names of the groups? -/
def grd (xs gs : List (Int × Bool)) (t : ByteArray) : Bool := gv xs gs && ((gnm xs gs).toList == t.toList)
theorem grd_no {xs gs : List (Int × Bool)} {t : ByteArray} (h : gv xs gs = false) : grd xs gs t = false := by simp [grd, h]
theorem grd_yes {xs gs : List (Int × Bool)} {t : ByteArray} (h : gv xs gs = true) : grd xs gs t = ((gnm xs gs).toList == t.toList) := by simp [grd, h]
theorem grd_yes' {xs gs : List (Int × Bool)} {t : ByteArray} (h : gv xs gs = true) : grd xs gs t = (t.toList == (gnm xs gs).toList) := by
  rw [grd_yes h, Bool.eq_iff_iff, beq_iff_eq, beq_iff_eq]; exact eq_comm

theorem groupsRead_any (lo hi lo' hi' : Nat) (v u : Value) (xs gs : List (Int × Bool)) (t : ByteArray) (w : World) (h : TRow w lo hi v xs) (g : GRow w lo' hi' u gs) (ht : NeuTab w) :
    Calls Tryd.prog 41 #[v, u, .string t] w fun e w' => e = .returned (.bool (grd xs gs t)) ∧ Below w.heap.size w w' := by
  have HH := Lib.hid h
  have HK := Lib.hid g
  have HT := Lib.hid ht
  have KV := Lib.hid (fun W h g => groupsValid_any lo hi lo' hi' v u xs gs W h g)
  have KN := Lib.hid (fun W h g ht => groupsNames_any lo hi lo' hi' v u xs gs W h g ht)
  by_cases hv : gv xs gs = false
  · rw [grd_no hv]
    rw [hv] at KV
    clear h g ht hv
    go_enter Tryd.func41, Tryd.ntmps41
    go_wp2_with (fail)
    (go_at_call 92; refine (KV.out _ HH.out HK.out).mono ?_; rintro e w1 ⟨rfl, hb1⟩)
    go_wp2
    go_ret
    exact ⟨rfl, hb1⟩
  rw [Bool.not_eq_false] at hv
  have HE := Lib.hid (grd_yes' (t := t) hv)
  rw [hv] at KV
  rw [HE.out]
  generalize gnm xs gs = N at KN ⊢
  clear h g ht hv HE
  go_enter Tryd.func41, Tryd.ntmps41
  go_wp2_with (fail)
  (go_at_call 92; refine (KV.out _ HH.out HK.out).mono ?_; rintro e w1 ⟨rfl, hb1⟩)
  go_wp2_with (fail)
  (go_at_call 37; refine (KN.out _ (HH.out.below hb1 (.inr (Nat.le_refl _))) (HK.out.below hb1 (.inr (Nat.le_refl _))) (HT.out.below hb1)).mono ?_; rintro e w2 ⟨rfl, hb2⟩)
  go_wp2
  go_ret
  exact ⟨rfl, bl_step hb1 hb2⟩

theorem sGroupsRead_any (lo hi lo' hi' : Nat) (v u : Value) (xs gs : List (Int × Bool)) (t : ByteArray) (w : World) (h : TRow w lo hi v xs) (g : GRow w lo' hi' u gs) (hgl : gs.length ≤ 4611686018427387904) :
    Calls Tryd.prog 45 #[v, u, .string t] w fun e w' => e = .returned (.bool (grd xs gs t)) ∧ Below w.heap.size w w' := by
  have HH := Lib.hid h
  have HK := Lib.hid g
  have KV := Lib.hid (fun W h g => sGroupsValid_any lo hi lo' hi' v u xs gs W h g hgl)
  have KN := Lib.hid (fun W h g => sGroupsNames_any lo hi lo' hi' v u xs gs W h g hgl)
  by_cases hv : gv xs gs = false
  · rw [grd_no hv]
    rw [hv] at KV
    clear h g hv
    go_enter Tryd.func45, Tryd.ntmps45
    go_wp2_with (fail)
    (go_at_call 89; refine (KV.out _ HH.out HK.out).mono ?_; rintro e w1 ⟨rfl, hb1⟩)
    go_wp2
    go_ret
    exact ⟨rfl, hb1⟩
  rw [Bool.not_eq_false] at hv
  have HE := Lib.hid (grd_yes (t := t) hv)
  rw [hv] at KV
  rw [HE.out]
  generalize gnm xs gs = N at KN ⊢
  clear h g hv HE
  go_enter Tryd.func45, Tryd.ntmps45
  go_wp2_with (fail)
  (go_at_call 89; refine (KV.out _ HH.out HK.out).mono ?_; rintro e w1 ⟨rfl, hb1⟩)
  go_wp2_with (fail)
  (go_at_call 39; refine (KN.out _ (HH.out.below hb1 (.inr (Nat.le_refl _))) (HK.out.below hb1 (.inr (Nat.le_refl _)))).mono ?_; rintro e w2 ⟨rfl, hb2⟩)
  go_wp2
  go_ret
  exact ⟨rfl, bl_step hb1 hb2⟩
end Go.Proofs.YtkjimilapgkajabDoor
