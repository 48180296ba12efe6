/-
  ContourBack in both programs: the opposite order, up and down exchanged.
-/
import Derived.Test.YtjodcaeohkjlnabCt
import Derived.Test.YtjodcaeohkjlnabShelf
import Derived.IntWalk
namespace Go.Proofs.Ytjodcaeohkjlnab
open Go.RowKit
set_option maxRecDepth 100000
set_option linter.unusedVariables false

theorem below_putRow {α : Type} [Inhabited α] (enc : α → Value) {n B k : Nat} {w W : World} (d : Array α) (h : Below n w W) (hB : n ≤ B) : Below n w (Go.Sort.putRow enc (Go.Sort.ahead W k) B 0 d) :=
  ⟨h.os, h.tape, h.output, by
    show w.heap.size ≤ (W.heap.modify B _).size
    rw [Array.size_modify]; exact h.size, fun i hi => by
    show (W.heap.modify B _)[i]? = _
    rw [Array.getElem?_modify, if_neg (by omega)]
    exact h.block i hi⟩

def encB (c : UInt8) : Value := .int .u8 (c.toNat : Int)
theorem oneB : OneCell encB := fun _ => rfl

def RevB (x : ByteArray) (B cap : Nat) (W : World) (e : Ending) (w' : World) : Prop :=
  e = .returned (.tuple #[]) ∧ (convert 22 9 (.slice (some ⟨B, 0, none⟩) x.size cap)).run Try.prog w' = .ok (.string ⟨x.data.toList.reverse.toArray⟩) w' ∧ ∀ n (w0 : World), n ≤ B → Below n w0 W → Below n w0 w'
theorem reverse_bytes (x : ByteArray) (B cap : Nat) (W : World) (h : ∀ j (hj : j < x.size), W.cell? ⟨B, j, none⟩ = some (.int .u8 (x[j].toNat : Int)) ∧ W.frozen? ⟨B, j, none⟩ = false) (hx : x.size ≤ 9223372036854775807) :
    Calls Try.prog 63 #[.slice (some ⟨B, 0, none⟩) x.size cap] W (RevB x B cap W) := by
  have hl : x.data.toList.length = x.size := by simp
  have hH : Go.Sort.Holds encB W B 0 x.data.toList.toArray := fun j hj => by
    have hj' : j < x.size := by simpa using hj
    obtain ⟨h1, h2⟩ := h j hj'
    rw [Nat.zero_add]
    refine ⟨h1.trans ?_, h2⟩
    have : x.data.toList.toArray[j]! = x[j] := by
      rw [getElem!_pos _ _ (by simpa using hj')]
      simp
      rfl
    rw [this]; rfl
  have K : Calls Try.prog 63 #[.slice (some ⟨B, 0, none⟩) x.data.toList.length cap] W fun e w' => e = .returned (.tuple #[]) ∧ ∃ n, w' = Go.Sort.putRow encB (Go.Sort.ahead W n) B 0 x.data.toList.reverse.toArray := AnyE.slices_Reverse Try.revB encB oneB B 0 cap x.data.toList W hH (by omega)
  rw [hl] at K
  refine K.mono fun e w' ⟨he, n, hw⟩ => ⟨he, ?_, fun n' w0 hn hb => by rw [hw]; exact below_putRow encB _ hb hn⟩
  subst hw
  have hr : x.data.toList.reverse.length = x.size := by simp
  have hc := run_convert_bytes_back (P := Try.prog) (Go.Sort.putRow encB (Go.Sort.ahead W n) B 0 x.data.toList.reverse.toArray) 22 9 5 ⟨B, 0, none⟩ cap x.data.toList.reverse Try.underlying22 Try.underlying5 Try.underlying9 fun j hj => by
    have hH2 : Go.Sort.Holds encB (Go.Sort.ahead W n) B 0 x.data.toList.toArray := hH
    have := Go.Sort.cell?_putRow encB (Go.Sort.ahead W n) B 0 x.data.toList.toArray x.data.toList.reverse.toArray hH2 (by simp) j (by simpa using hj)
    rw [Nat.zero_add] at this
    rw [Go.WideShapes.add_plain, Nat.zero_add, this, getElem!_pos _ _ (by simpa using hj)]
    rfl
  rw [hr] at hc
  exact hc

theorem bytes_world (W : World) (x : ByteArray) (j : Nat) (hj : j < x.size) (C : Array Value) (hC : C = bytesRow x (grownCap W x.size 0 5)) (t : TypeId) :
    (W.drew.alloc (.cells C t (C.size, C.size + 1))).cell? ⟨W.heap.size, j, none⟩ = some (.int .u8 (x[j].toNat : Int)) ∧ (W.drew.alloc (.cells C t (C.size, C.size + 1))).frozen? ⟨W.heap.size, j, none⟩ = false := by
  have hz : x.size ≤ C.size := by
    rw [hC]; unfold bytesRow; rw [Array.size_append, Array.size_map]; show x.data.size ≤ _; omega
  refine ⟨(World.cell?_alloc_mark W.drew C t (C.size, C.size + 1) j).trans ?_, (World.frozen?_alloc_mark W.drew C t C.size (C.size + 1) j).trans ?_⟩
  · rw [hC]; exact bytesRow_at x _ j hj
  · have : decide (C.size ≤ j) = false := by simp; omega
    rw [this]; rfl

theorem ctB_rev (s : ByteArray) : (⟨(ctT s).data.toList.reverse.toArray⟩ : ByteArray) = ctB s := by
  unfold ctT ctB
  split <;> simp

set_option maxHeartbeats 4000000 in
theorem contourBack_any (s : ByteArray) (hs : s.size ≤ 4611686018427387904) (w : World) :
    Calls Try.prog 21 #[.string s] w fun e w' => e = .returned (.tuple #[.string (ctB s), .bool (cv s)]) ∧ Below w.heap.size w w' := by
  have hz := ctT_size s
  have HB := Lib.hid (ctB_rev s)
  go_enter Try.func21, Try.ntmps21
  go_wp2_with (fail)
  (go_at_call 19; refine (contourTurn_any s _).mono ?_; rintro e w1 ⟨rfl, hb1⟩)
  generalize ctT s = x at hz HB
  have hcv := run_bytes_of_string (P := Try.prog) w1 9 22 5 x Try.underlying9 Try.underlying22 Try.underlying5
  obtain ⟨C, hC⟩ : ∃ C, C = bytesRow x (grownCap w1 x.size 0 5) := ⟨_, rfl⟩
  rw [← hC] at hcv
  have HW := Lib.hid (fun j hj => bytes_world w1 x j hj C hC 5)
  have HBW : Hid (Below w.heap.size w (w1.drew.alloc (.cells C 5 (C.size, C.size + 1)))) := hb1.drew.alloc hb1.size _
  generalize grownCap w1 x.size 0 5 = cap at hcv
  have h1z := hb1.size
  clear hC
  go_wp2_with (fail)
  (go_at_call 63; refine (reverse_bytes x w1.heap.size cap _ HW.out (by omega)).mono ?_; rintro e w2 ⟨rfl, hcv2, hb2⟩)
  have HB2 := Lib.hid (hb2 _ _ h1z HBW.out)
  rw [HB.out] at hcv2
  clear hb2 hcv
  go_wp2
  go_ret2
  exact ⟨rfl, HB2.out⟩

theorem map_drop (s : ByteArray) (j : Nat) (hj : j < s.size) : ((s.data.toList.drop j).map tnb).reverse = ((s.data.toList.drop (j + 1)).map tnb).reverse ++ [tnb s[j]] := by
  have : s.data.toList.drop j = s[j] :: s.data.toList.drop (j + 1) := by
    rw [List.drop_eq_getElem_cons (by simpa using hj)]; rfl
  rw [this]; simp

set_option maxHeartbeats 4000000 in
theorem sContourBack_any (s : ByteArray) (hs : s.size ≤ 4611686018427387904) (w : World) :
    Calls Try.prog 44 #[.string s] w fun e w' => e = .returned (.tuple #[.string (ctB s), .bool (cv s)]) ∧ Below w.heap.size w w' := by
  by_cases hc : cv s = false
  · rw [ctB_no hc]
    go_enter Try.func44, Try.ntmps44
    go_wp2_with (fail)
    (go_at_call 61; refine (sContourValid_any s hs _).mono ?_; rintro e w1 ⟨rfl, hb1⟩)
    go_wp2
    go_ret2
    exact ⟨by first | rfl | simp [hc], hb1⟩
  rw [Bool.not_eq_false] at hc
  have HC := Lib.hid hc
  have hn := (cv_in hc).1
  have HT := Lib.hid (ctB_yes hc)
  have m0 : IntKind.i64.wrap ((s.size : Int) - 1) = (s.size : Int) - 1 := IntWalk.i64_in _ (by omega)
  go_enter Try.func44, Try.ntmps44
  go_wp2_with (fail)
  (go_at_call 61; refine (sContourValid_any s hs _).mono ?_; rintro e w1 ⟨rfl, hb1⟩)
  go_wp2
  go_loopw [4, 5] (fun o i wr => ∃ j : Nat, j ≤ s.size ∧ i = .int .i64 ((j : Int) - 1) ∧ o = .string ⟨((s.data.toList.drop j).map tnb).reverse.toArray⟩ ∧ Below w.heap.size w wr) (fun _ i _ => (intOf i + 1).toNat)
  case atStart => exact ⟨s.size, Nat.le_refl _, rfl, by rw [List.drop_of_length_le (by simp)]; rfl, hb1⟩
  case round =>
    obtain ⟨j, hj, rfl, rfl, hb⟩ := hrel
    have hl : ((s.data.toList.drop j).map tnb).reverse.length ≤ 23 := by simp; omega
    clear m0
    by_cases hj0 : j = 0
    · subst hj0
      rw [List.drop_zero, ← HT.out]
      clear hl
      go_wp2
      go_ret2
      exact ⟨by first | rfl | simp [HC.out], hb⟩
    · obtain ⟨m, rfl⟩ : ∃ m, j = m + 1 := ⟨j - 1, by omega⟩
      have hlt : m < s.size := by omega
      have k1 : (m : Int) < (s.size : Int) := by omega
      have k0 : (0 : Int) ≤ (m : Int) := by omega
      have HW := Lib.hid (cv_at HC.out hlt)
      have HX := Lib.hid (map_drop s m hlt)
      rw [show (((m + 1 : Nat) : Int) - 1) = (m : Int) by omega]
      have hadd : ∀ W : World, (Op.stringOp .add ⟨((s.data.toList.drop (m + 1)).map tnb).reverse.toArray⟩ ⟨#[tnb s[m]]⟩).run Try.prog W = .ok (.string ⟨((s.data.toList.drop m).map tnb).reverse.toArray⟩) W := fun W => by
        have e : (⟨((s.data.toList.drop m).map tnb).reverse.toArray⟩ : ByteArray) = ⟨((s.data.toList.drop (m + 1)).map tnb).reverse.toArray⟩ ++ ⟨#[tnb s[m]]⟩ := by
          rw [HX.out, ByteArray.mk_append_mk]; try simp
        rw [e]
        exact run_string_add_sum W _ _ (by show ((s.data.toList.drop (m + 1)).map tnb).reverse.toArray.size + 1 ≤ 9223372036854775807; rw [List.size_toArray]; omega)
      clear HX hl hc hj0
      generalize (⟨((s.data.toList.drop (m + 1)).map tnb).reverse.toArray⟩ : ByteArray) = o at hadd
      obtain ⟨o2, ho2⟩ : ∃ o2 : ByteArray, (⟨((s.data.toList.drop m).map tnb).reverse.toArray⟩ : ByteArray) = o2 := ⟨_, rfl⟩
      rw [ho2] at hadd
      have HO := Lib.hid ho2
      clear ho2
      go_wp2_with (fail)
      (go_at_call 62; refine (l3Other_any _ HW.out _).mono ?_; rintro e wx ⟨rfl, rfl⟩)
      go_wp2
      go_roundw
      case rel => exact ⟨m, by omega, by go_num, by rw [HO.out], hb⟩
      case measure => simp [intOf]
end Go.Proofs.Ytjodcaeohkjlnab
