/-
  ContourTurn in both programs: up and down exchanged.
-/
import Derived.Test.YtkjimilapgkajabDoorCv2
import Derived.Test.YtkjimilapgkajabDoorCm
import Derived.Laws.IdiomStrings
import Derived.Laws.Concat
import Derived.Lib.BufferRead
import Derived.Laws.OwnMore
namespace Go.Proofs.YtkjimilapgkajabDoor
open Go.RowKit
set_option maxRecDepth 100000
set_option linter.unusedVariables false

/-- the contour turned -/
def ctT (s : ByteArray) : ByteArray := if cv s then ⟨(s.data.toList.map tnb).toArray⟩ else ⟨#[]⟩
/-- the contour backwards -/
def ctB (s : ByteArray) : ByteArray := if cv s then ⟨(s.data.toList.map tnb).reverse.toArray⟩ else ⟨#[]⟩
theorem ctT_no {s : ByteArray} (h : cv s = false) : ctT s = ⟨#[]⟩ := by simp [ctT, h]
theorem ctB_no {s : ByteArray} (h : cv s = false) : ctB s = ⟨#[]⟩ := by simp [ctB, h]
theorem ctT_yes {s : ByteArray} (h : cv s = true) : ctT s = ⟨(s.data.toList.map tnb).toArray⟩ := by simp [ctT, h]
theorem ctB_yes {s : ByteArray} (h : cv s = true) : ctB s = ⟨(s.data.toList.map tnb).reverse.toArray⟩ := by simp [ctB, h]
theorem cv_in {s : ByteArray} (h : cv s = true) : s.size ≤ 23 ∧ s.data.toList.all wayb = true := by
  unfold cv at h
  rw [Bool.and_eq_true] at h
  exact ⟨by simpa using h.1, h.2⟩
theorem cv_at {s : ByteArray} (h : cv s = true) {k : Nat} (hk : k < s.size) : wayb s[k] = true := by
  have hm : s[k] ∈ s.data.toList := by
    show s.data[k] ∈ s.data.toList
    simp
  exact List.all_eq_true.1 (cv_in h).2 _ hm
theorem ctT_size (s : ByteArray) : (ctT s).size ≤ s.size := by
  unfold ctT
  split
  · show (s.data.toList.map tnb).toArray.size ≤ s.data.size
    simp
  · exact Nat.zero_le _

/-- the cells of a list of bytes -/
def bcs (l : List UInt8) : List Value := l.map fun c => Value.int .u8 (c.toNat : Int)
theorem bcs_app (l m : List UInt8) : bcs (l ++ m) = bcs l ++ bcs m := by simp [bcs]
theorem infoU8 : (Tryd.prog.info? 5).map (fun i => (i.zero, i.size, i.bytes)) = some (some (.int .u8 0), 1, 1) := by kernel_rfl
theorem bnews {w : World} {z : Int} {t : TypeId} : ∀ j u, ([.int .u8 z] : List Value)[j]? = some u → (w.alloc (.cells #[.int .u8 z] t)).cell? ((⟨w.heap.size, 0, none⟩ : Addr).add j) = some u := by
  intro j u hj
  match j, hj with
  | 0, hj => simp at hj; subst hj; simp [Addr.add]
theorem bnews_one {z : Int} : ∀ u ∈ ([.int .u8 z] : List Value), u.oneCell' = true := by
  intro u hu; simp at hu; subst hu; rfl
theorem obelow {w w1 : World} {base e size n : Nat} {v : Value} {xs : List Value} (h : w.ownsRow base e size v n xs) (hb : Below w.heap.size w w1) : w1.ownsRow base e size v n xs := by
  obtain ⟨hl, h | ⟨g, cap, cur, hv, hg, hh, hr⟩⟩ := h
  · exact ⟨hl, .inl h⟩
  · have hgs : g < w.heap.size := by
      rcases Nat.lt_or_ge g w.heap.size with h | h
      · exact h
      · rw [Array.getElem?_eq_none h] at hh; cases hh
    exact ⟨hl, .inr ⟨g, cap, cur, hv, hg, (hb.block g hgs).trans hh, hr⟩⟩

theorem turned_lit (n m : Int) (h : n = 117 ∧ m = 100 ∨ n = 100 ∧ m = 117 ∨ n = 115 ∧ m = 115) (w : World) :
    Calls Tryd.prog 116 #[.int .u8 n] w fun e w' => e = .returned (.int .u8 m) ∧ w = w' := by
  rcases h with ⟨rfl, rfl⟩ | ⟨rfl, rfl⟩ | ⟨rfl, rfl⟩
  · go_enter Tryd.func116, Tryd.ntmps116
    go_wp2
    go_ret
    exact ⟨rfl, rfl⟩
  · go_enter Tryd.func116, Tryd.ntmps116
    go_wp2
    go_ret
    exact ⟨rfl, rfl⟩
  · go_enter Tryd.func116, Tryd.ntmps116
    go_wp2
    go_ret
    exact ⟨rfl, rfl⟩
theorem tnb_lit {c : UInt8} (h : wayb c = true) : (c.toNat : Int) = 117 ∧ ((tnb c).toNat : Int) = 100 ∨ (c.toNat : Int) = 100 ∧ ((tnb c).toNat : Int) = 117 ∨ (c.toNat : Int) = 115 ∧ ((tnb c).toNat : Int) = 115 := by
  simp [wayb] at h
  rcases h with (rfl | rfl) | rfl <;> decide
theorem turnedWay_any (c : UInt8) (h : wayb c = true) (w : World) :
    Calls Tryd.prog 116 #[.int .u8 (c.toNat : Int)] w fun e w' => e = .returned (.int .u8 ((tnb c).toNat : Int)) ∧ w = w' := turned_lit _ _ (tnb_lit h) w

/-- the bytes that have been turned -/
def TrInv (w wr : World) (v : Value) (l : List UInt8) : Prop :=
  wr.ownsRow w.heap.size 5 1 v l.length (bcs l) ∧ Below w.heap.size w wr
theorem TrInv.start (w w1 : World) (hb : Below w.heap.size w w1) : TrInv w (w1.alloc (.cells #[] 5)) (.slice (some ⟨w1.heap.size, 0, none⟩) 0 0) [] :=
  ⟨⟨rfl, .inr ⟨w1.heap.size, 0, #[], rfl, hb.size, heap_alloc_new w1 _, by simp, by simp [maxLen], by simp, by simp [bcs]⟩⟩, hb.alloc hb.size _⟩
theorem TrInv.app {w wr w2 : World} {v v' : Value} {l : List UInt8} {c : UInt8} {o : Obj} (h : TrInv w wr v l)
    (hown : w2.ownsRow w.heap.size 5 1 v' (l.length + 1) (bcs l ++ [.int .u8 (c.toNat : Int)])) (hg : (wr.alloc o).grownBy w2 v.ownBlock) : TrInv w w2 v' (l ++ [c]) := by
  refine ⟨?_, (h.2.alloc h.2.size o).grown hg (by have := h.2.size; simp; omega) (fun k hk => (h.1.lt k hk).1)⟩
  rw [bcs_app]
  simpa [bcs] using hown
/-- what such a list reads as -/
theorem TrInv.text {w wr : World} {v : Value} {l : List UInt8} (h : TrInv w wr v l) : (convert 22 9 v).run Tryd.prog wr = .ok (.string ⟨l.toArray⟩) wr := by
  obtain ⟨⟨hl, h1 | ⟨g, cap, cur, rfl, hg, hh, hn, hcap, hsz, htake⟩⟩, _⟩ := h
  · obtain ⟨rfl, hz⟩ := h1
    have : l = [] := List.eq_nil_of_length_eq_zero hz
    subst this
    exact Lib.run_convert_nil_bytes wr _ _ _ _ Tryd.underlying22 Tryd.underlying5 Tryd.underlying9
  · refine run_convert_bytes_back wr _ _ _ _ cap l Tryd.underlying22 Tryd.underlying5 Tryd.underlying9 fun j hj => ?_
    have e : (cur.toList.take (l.length * 1))[j]? = (bcs l)[j]? := by rw [htake]
    rw [Nat.mul_one, List.getElem?_take_of_lt hj, Array.getElem?_toList] at e
    rw [Go.WideShapes.add_plain, Nat.zero_add]
    simp [World.cell?, hh, e, bcs, List.getElem?_eq_getElem hj]
theorem take_len (s : ByteArray) {k : Nat} (hk : k ≤ s.size) : ((s.data.toList.take k).map tnb).length = k := by
  have h : s.data.toList.length = s.size := by simp
  rw [List.length_map, List.length_take]
  omega
theorem map_take (s : ByteArray) (k : Nat) (hk : k < s.size) : (s.data.toList.take (k + 1)).map tnb = (s.data.toList.take k).map tnb ++ [tnb s[k]] := by
  rw [take_snoc s k hk, List.map_append]; rfl

set_option maxHeartbeats 4000000 in
theorem contourTurn_any (s : ByteArray) (w : World) :
    Calls Tryd.prog 77 #[.string s] w fun e w' => e = .returned (.tuple #[.string (ctT s), .bool (cv s)]) ∧ Below w.heap.size w w' := by
  by_cases hc : cv s = false
  · rw [ctT_no hc]
    go_enter Tryd.func77, Tryd.ntmps77
    go_wp2_with (fail)
    (go_at_call 31; refine (contourValid_any s _).mono ?_; rintro e w1 ⟨rfl, hb1⟩)
    go_wp2
    go_ret2
    exact ⟨by first | rfl | simp [hc], hb1⟩
  rw [Bool.not_eq_false] at hc
  have HC := Lib.hid hc
  have hn := (cv_in hc).1
  have HT := Lib.hid (ctT_yes hc)
  obtain ⟨i0, hi, hq0, hq1, hq2⟩ := info_parts infoU8
  go_enter Tryd.func77, Tryd.ntmps77
  go_wp2_with (fail)
  (go_at_call 31; refine (contourValid_any s _).mono ?_; rintro e w1 ⟨rfl, hb1⟩)
  have hI0 := TrInv.start w w1 hb1
  go_wp2
  go_loopw [4, 12] (fun v i wr => ∃ k : Nat, k ≤ s.size ∧ i = .int .i64 k ∧ TrInv w wr v ((s.data.toList.take k).map tnb)) (fun _ i _ => s.size - (intOf i).toNat)
  case atStart => exact ⟨0, Nat.zero_le _, rfl, hI0⟩
  case round =>
    obtain ⟨k, hk, rfl, hI⟩ := hrel
    clear hI0
    have HI := Lib.hid hI
    have hl := take_len s hk
    by_cases hlt : k < s.size
    · have k1 : (k : Int) < (s.size : Int) := by omega
      have k0 : (0 : Int) ≤ (k : Int) := by omega
      have HX := Lib.hid (map_take s k hlt)
      have HW := Lib.hid (cv_at HC.out hlt)
      have hown := hI.1
      rw [hl] at hown
      have hbs := hI.2.size
      clear hI hc
      generalize (s.data.toList.take k).map tnb = l at hl HX HI hown
      have HL := Lib.hid hl
      clear hl
      go_wp2_with (fail)
      (go_at_call 116; refine (turnedWay_any _ HW.out _).mono ?_; rintro e wx ⟨rfl, rfl⟩)
      go_wp2_with (at_builtin; refine wpList_append_own _ rfl _ _ 22 rfl w.heap.size 5 i0 (.int .u8 0) 1 1 Tryd.underlying22 hi hq0 hq1 hq2 rfl (by decide) _ _ _ rfl (hown.alloc _) ⟨wr.heap.size, 0, none⟩ 1 1 [.int .u8 ((tnb s[k]).toNat : Int)] rfl rfl bnews bnews_one (by unfold maxLen; omega) (by omega) (by simp; omega) ?_)
      intro v' w2 hown' hgrow _
      have HN : Hid (TrInv w w2 v' (l ++ [tnb s[k]])) := HI.out.app (by rw [HL.out]; exact hown') hgrow
      clear hown' hgrow hown
      go_wp2
      go_roundw
      case rel => exact ⟨k + 1, by omega, by go_num, by rw [HX.out]; exact HN.out⟩
      case measure => simp [intOf]; omega
    · have hke : k = s.size := by omega
      subst hke
      have hcv := hI.text
      have hb := hI.2
      rw [List.take_of_length_le (by simp), ← HT.out] at hcv
      clear hI hl
      go_wp2
      go_ret2
      exact ⟨by first | rfl | simp [HC.out], hb⟩
end Go.Proofs.YtkjimilapgkajabDoor
