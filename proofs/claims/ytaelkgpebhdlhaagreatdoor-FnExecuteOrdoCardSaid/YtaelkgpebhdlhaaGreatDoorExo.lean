/-
  Numbers behind a word, in the program.
-/
import Derived.Test.YtaelkgpebhdlhaaGreatDoorIv
import Derived.Test.YtaelkgpebhdlhaaGreatDoorShelf
import Derived.Lib.ItoaNum
namespace Go.Proofs.YtaelkgpebhdlhaaGreatDoor
open Go.RowKit
set_option maxRecDepth 100000
set_option linter.unusedVariables false

/-- a number as a text -/
def itb (n : Int) : ByteArray := ⟨(Lib.itoa n).toArray⟩
/-- numbers behind a word, each with a space ahead -/
def wnb (t : ByteArray) (zs : List Int) : ByteArray := zs.foldl (fun t z => t ++ (⟨#[32]⟩ ++ itb z)) t
theorem wnb_take {t : ByteArray} {zs : List Int} {k : Nat} {z : Int} (h : zs[k]? = some z) : wnb t (zs.take (k + 1)) = wnb t (zs.take k) ++ (⟨#[32]⟩ ++ itb z) := by
  unfold wnb
  rw [List.take_add_one, h, Option.toList_some, List.foldl_append]
  rfl
theorem wnb_size {t : ByteArray} {zs : List Int} (hz : ∀ z ∈ zs, (itb z).size ≤ 30) : ∀ k, (wnb t (zs.take k)).size ≤ t.size + k * 40
  | 0 => by simp [wnb]
  | k + 1 => by
    have ih := wnb_size (t := t) hz k
    cases h : zs[k]? with
    | none => rw [List.take_add_one, h]; simp; omega
    | some z =>
      rw [wnb_take h, ByteArray.size_append, ByteArray.size_append]
      have := hz z (List.mem_of_getElem? h)
      have : (⟨#[32]⟩ : ByteArray).size = 1 := rfl
      omega

set_option maxHeartbeats 4000000 in
theorem withNumbers_any (t : ByteArray) (v : Value) (zs : List Int) (w : World) (h : IV w v zs) (ht : t.size + zs.length * 40 ≤ 1000000) (hz : ∀ z ∈ zs, (itb z).size ≤ 30)
    (HI : ∀ z ∈ zs, ∀ W, Below w.heap.size w W → Calls Tryz.prog 86 #[.int .i64 z] W fun e w' => e = .returned (.string (itb z)) ∧ Below W.heap.size W w') :
    Calls Tryz.prog 177 #[.string t, v] w fun e w' => e = .returned (.string (wnb t zs)) ∧ Below w.heap.size w w' := by
  obtain ⟨a, c, rfl, ha, hc1, hc2⟩ := h
  unfold maxLen at hc2
  have HA := Lib.hid ha
  have HIT := Lib.hid HI
  have HSZ := Lib.hid (fun k => wnb_size (t := t) hz k)
  have HZ := Lib.hid hz
  clear ha HI hz
  go_enter Tryz.func177, Tryz.ntmps177
  go_wp2
  go_loopw [0, 9] (fun q i wr => ∃ k : Nat, k ≤ zs.length ∧ i = .int .i64 (k : Int) ∧ q = .string (wnb t (zs.take k)) ∧ Below w.heap.size w wr) (fun _ i _ => zs.length - (intOf i).toNat)
  case atStart => exact ⟨0, by omega, rfl, by simp [wnb], Below.refl _ _⟩
  case round =>
    obtain ⟨k, hk, rfl, rfl, hb⟩ := hrel
    have HW := Lib.hid hb
    by_cases hlt : k < zs.length
    · obtain ⟨z, hx⟩ : ∃ z, zs[k]? = some z := ⟨zs[k], List.getElem?_eq_getElem hlt⟩
      rcases HA.out with h0 | ⟨A, off, rfl, hA, hcz⟩
      · subst h0; simp at hlt
      have e0 := hcz k hlt
      rw [List.getD_eq_getElem?_getD, hx] at e0
      have d0 := (hb.cell (p := ⟨A, off + k, none⟩) hA).trans e0
      simp only [Option.getD_some] at d0
      have hm := List.mem_of_getElem? hx
      have HIT1 := Lib.hid (HIT.out z hm wr hb)
      have hs1 := HZ.out z hm
      have hs2 := HSZ.out k
      have HX := Lib.hid (wnb_take (t := t) hx)
      have hk0 : (0 : Int) ≤ (k : Int) := by omega
      have hk1 : (k : Int) < (zs.length : Int) := by omega
      generalize itb z = y at HIT1 hs1 HX
      generalize wnb t (zs.take k) = x at hs2 HX ⊢
      have hadd1 : ∀ W : World, (Op.stringOp .add ⟨#[32]⟩ y).run Tryz.prog W = .ok (.string (⟨#[32]⟩ ++ y)) W := fun W => run_string_add_sum W _ _ (by show 1 + y.size ≤ _; omega)
      have hs3 : ((⟨#[32]⟩ : ByteArray) ++ y).size ≤ 31 := by rw [ByteArray.size_append]; have : (⟨#[32]⟩ : ByteArray).size = 1 := rfl; omega
      generalize (⟨#[32]⟩ : ByteArray) ++ y = y2 at hadd1 hs3 HX
      have hadd2 : ∀ W : World, (Op.stringOp .add x y2).run Tryz.prog W = .ok (.string (x ++ y2)) W := fun W => run_string_add_sum W _ _ (by omega)
      clear hb hx hcz e0 hm hs1 hs2 hs3
      go_wp2_with (fail)
      (go_at_call 86; refine (HIT1.out).mono ?_; rintro e w1 ⟨rfl, hb1⟩)
      have HW1 := Lib.hid (bl_step HW.out hb1)
      clear hb1 d0
      go_wp2
      go_roundw
      case rel => exact ⟨k + 1, by omega, by go_num, by rw [HX.out], HW1.out⟩
      case measure => simp [intOf]; omega
    · have hkn : k = zs.length := by omega
      subst hkn
      rw [List.take_length]
      clear hb
      go_wp2
      go_ret
      exact ⟨rfl, HW.out⟩
end Go.Proofs.YtaelkgpebhdlhaaGreatDoor
