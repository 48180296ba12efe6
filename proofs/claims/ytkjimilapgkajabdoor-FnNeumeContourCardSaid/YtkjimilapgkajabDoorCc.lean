/-
  The steps that a contour climbs to, in the program.
-/
import Derived.Test.YtkjimilapgkajabDoorCb
import Derived.Test.YtkjimilapgkajabDoorCl
import Derived.Test.YtkjimilapgkajabDoorInts
namespace Go.Proofs.YtkjimilapgkajabDoor
open Go.RowKit
set_option maxRecDepth 100000
set_option linter.unusedVariables false

/-- the first n steps that are climbed to -/
def upl (l : List UInt8) (n : Nat) : List Int := (List.range n).map fun j => ((ups l j : Nat) : Int)
theorem upl_len (l : List UInt8) (n : Nat) : (upl l n).length = n := by simp [upl]
theorem upl_succ (l : List UInt8) (n : Nat) : (upl l (n + 1)).map (Value.int .i64) = (upl l n).map (Value.int .i64) ++ [.int .i64 ((ups l n : Nat) : Int)] := by simp [upl, List.range_succ]
theorem infoIntC : (Tryd.prog.info? 3).map (fun i => (i.zero, i.size, i.bytes)) = some (some (.int .i64 0), 1, 8) := by kernel_rfl
theorem cnews {w : World} {z : Int} {t : TypeId} : ∀ j u, ([.int .i64 z] : List Value)[j]? = some u → (w.alloc (.cells #[.int .i64 z] t)).cell? ((⟨w.heap.size, 0, none⟩ : Addr).add j) = some u := by
  intro j u hj
  match j, hj with
  | 0, hj => simp at hj; subst hj; simp [Addr.add]
theorem cnews_one {z : Int} : ∀ u ∈ ([.int .i64 z] : List Value), u.oneCell' = true := by
  intro u hu; simp at hu; subst hu; rfl
def ClBuilt (w : World) (xs : List Int) (e : Ending) (w' : World) : Prop :=
  ∃ v, e = .returned v ∧ IRow w' w.heap.size w'.heap.size v xs ∧ Below w.heap.size w w'
def UpInv (w wr : World) (v : Value) (l : List UInt8) (n : Nat) : Prop :=
  wr.ownsRow w.heap.size 3 1 v n ((upl l n).map (Value.int .i64)) ∧ Below w.heap.size w wr
theorem UpInv.start (w : World) (l : List UInt8) : UpInv w (w.alloc (.cells #[.int .i64 0] 3)) (.slice (some ⟨w.heap.size, 0, none⟩) 1 1) l 1 :=
  ⟨World.ownsRow_lit w #[.int .i64 0] 1 (Nat.le_refl _) (by simp [maxLen]) (by simp), (Below.refl _ _).alloc (Nat.le_refl _) _⟩
theorem UpInv.app {w wr w2 : World} {v v' : Value} {l : List UInt8} {n : Nat} {z : Int} {o : Obj} (h : UpInv w wr v l n) (hz : ((ups l n : Nat) : Int) = z)
    (hown : w2.ownsRow w.heap.size 3 1 v' (n + 1) ((upl l n).map (Value.int .i64) ++ [.int .i64 z])) (hg : (wr.alloc o).grownBy w2 v.ownBlock) : UpInv w w2 v' l (n + 1) := by
  refine ⟨?_, (h.2.alloc h.2.size o).grown hg (by have := h.2.size; simp; omega) (fun k hk => (h.1.lt k hk).1)⟩
  rw [upl_succ, hz]
  exact hown
theorem UpInv.built {w wr : World} {v : Value} {l : List UInt8} {n : Nat} (h : UpInv w wr v l n) : ClBuilt w (upl l n) (.returned v) wr :=
  ⟨v, rfl, ⟨by rw [upl_len]; exact h.1, fun g hg => (h.1.lt g hg).2⟩, h.2⟩
theorem getD_byte (s : ByteArray) (k : Nat) (h : k < s.size) : s.data.toList.getD k 0 = s[k] := by
  rw [List.getD_eq_getElem?_getD, List.getElem?_eq_getElem (by simpa using h)]; rfl
theorem byte_ne {c : UInt8} {n : Nat} (d : UInt8) (hd : d.toNat = n) (h : c.toNat ≠ n) : c ≠ d := fun e => h (by rw [e, hd])

set_option maxHeartbeats 4000000 in
theorem climbs_any (s : ByteArray) (hs : s.size ≤ 23) (w : World) :
    Calls Tryd.prog 84 #[.string s] w (ClBuilt w (upl s.data.toList (s.size + 1))) := by
  obtain ⟨i0, hi, hq0, hq1, hq2⟩ := info_parts infoIntC
  have hI0 := UpInv.start w s.data.toList
  obtain ⟨l, hle⟩ : ∃ l, s.data.toList = l := ⟨_, rfl⟩
  have HG : Hid (∀ k (h : k < s.size), l.getD k 0 = s[k]) := fun k h => by rw [← hle]; exact getD_byte s k h
  rw [hle] at hI0 ⊢
  clear hle
  go_enter Tryd.func84, Tryd.ntmps84
  go_wp2
  go_loopw [3, 4, 10] (fun u v i wr => ∃ k : Nat, k ≤ s.size ∧ i = .int .i64 k ∧ u = .int .i64 ((ups l k : Nat) : Int) ∧ UpInv w wr v l (k + 1)) (fun _ _ i _ => s.size - (intOf i).toNat)
  case atStart => exact ⟨0, Nat.zero_le _, rfl, rfl, hI0⟩
  case round =>
    obtain ⟨k, hk, rfl, rfl, hI⟩ := hrel
    clear hI0
    by_cases hlt : k < s.size
    · have k1 : (k : Int) < (s.size : Int) := by omega
      have k0 : (0 : Int) ≤ (k : Int) := by omega
      have hu := ups_le l k
      have hus := ups_step l k
      rw [HG.out k hlt] at hus
      have hown := hI.1
      have hbs := hI.2.size
      have HI := Lib.hid hI
      clear hI
      generalize hx : ups l k = x at hu hus
      have cx := Lib.hid hx
      clear hx
      by_cases q1 : s[k].toNat = 117
      · have t1 : ((s[k].toNat : Int) == 117) = true := by simp; omega
        have w1 : IntKind.i64.wrap ((x : Int) + 1) = (x : Int) + 1 := IntWalk.i64_in _ (by omega)
        have HU : Hid (((ups l (k + 1) : Nat) : Int) = (x : Int) + 1) := by
          show ((ups l (k + 1) : Nat) : Int) = _
          rw [hus, if_pos (UInt8.toNat_inj.1 q1)]; rfl
        clear hus q1
        go_wp2_with (at_builtin; refine wpList_append_own _ rfl _ _ 29 rfl w.heap.size 3 i0 (.int .i64 0) 1 8 Tryd.underlying29 hi hq0 hq1 hq2 rfl (by decide) _ _ _ rfl (hown.alloc _) ⟨wr.heap.size, 0, none⟩ 1 1 [.int .i64 ((x : Int) + 1)] rfl rfl cnews cnews_one (by unfold maxLen; omega) (by omega) (by simp; omega) ?_)
        intro v' w2 hown' hgrow _
        have HN := Lib.hid (HI.out.app HU.out hown' hgrow)
        clear hown' hgrow hown
        go_wp2
        go_roundw
        case rel => exact ⟨k + 1, by omega, by go_num, by rw [HU.out], HN.out⟩
        case measure => simp [intOf]; omega
      by_cases q2 : s[k].toNat = 100
      · have t1 : ((s[k].toNat : Int) == 117) = false := by simp; omega
        have t2 : ((s[k].toNat : Int) == 100) = true := by simp; omega
        have HU : Hid (((ups l (k + 1) : Nat) : Int) = 0) := by
          show ((ups l (k + 1) : Nat) : Int) = _
          rw [hus, if_neg (byte_ne 117 rfl q1), if_pos (UInt8.toNat_inj.1 q2)]; rfl
        clear hus q1 q2
        go_wp2_with (at_builtin; refine wpList_append_own _ rfl _ _ 29 rfl w.heap.size 3 i0 (.int .i64 0) 1 8 Tryd.underlying29 hi hq0 hq1 hq2 rfl (by decide) _ _ _ rfl (hown.alloc _) ⟨wr.heap.size, 0, none⟩ 1 1 [.int .i64 0] rfl rfl cnews cnews_one (by unfold maxLen; omega) (by omega) (by simp; omega) ?_)
        intro v' w2 hown' hgrow _
        have HN := Lib.hid (HI.out.app HU.out hown' hgrow)
        clear hown' hgrow hown
        go_wp2
        go_roundw
        case rel => exact ⟨k + 1, by omega, by go_num, by rw [HU.out], HN.out⟩
        case measure => simp [intOf]; omega
      · have t1 : ((s[k].toNat : Int) == 117) = false := by simp; omega
        have t2 : ((s[k].toNat : Int) == 100) = false := by simp; omega
        have HU : Hid (((ups l (k + 1) : Nat) : Int) = (x : Int)) := by
          show ((ups l (k + 1) : Nat) : Int) = _
          rw [hus, if_neg (byte_ne 117 rfl q1), if_neg (byte_ne 100 rfl q2)]
        clear hus q1 q2
        go_wp2_with (at_builtin; refine wpList_append_own _ rfl _ _ 29 rfl w.heap.size 3 i0 (.int .i64 0) 1 8 Tryd.underlying29 hi hq0 hq1 hq2 rfl (by decide) _ _ _ rfl (hown.alloc _) ⟨wr.heap.size, 0, none⟩ 1 1 [.int .i64 (x : Int)] rfl rfl cnews cnews_one (by unfold maxLen; omega) (by omega) (by simp; omega) ?_)
        intro v' w2 hown' hgrow _
        have HN := Lib.hid (HI.out.app HU.out hown' hgrow)
        clear hown' hgrow hown
        go_wp2
        go_roundw
        case rel => exact ⟨k + 1, by omega, by go_num, by rw [HU.out], HN.out⟩
        case measure => simp [intOf]; omega
    · have hke : k = s.size := by omega
      subst hke
      have HE := Lib.hid hI.built
      clear hI
      go_wp2
      go_ret
      exact HE.out
end Go.Proofs.YtkjimilapgkajabDoor
