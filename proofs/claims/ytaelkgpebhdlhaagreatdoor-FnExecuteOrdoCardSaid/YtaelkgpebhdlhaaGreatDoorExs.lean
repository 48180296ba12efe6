/-
  The script of a lone command 'ordo'.
-/
import Derived.Test.YtaelkgpebhdlhaaGreatDoorExr
import Derived.Test.YtaelkgpebhdlhaaGreatDoorExx
import Derived.Test.YtaelkgpebhdlhaaGreatDoorExw
namespace Go.Proofs.YtaelkgpebhdlhaaGreatDoor
open Go.RowKit
set_option maxRecDepth 100000
set_option linter.unusedVariables false

/-- the digits of a number below 100 -/
def dg (n : Nat) : List UInt8 := if n < 10 then [UInt8.ofNat (48 + n)] else [UInt8.ofNat (48 + n / 10), UInt8.ofNat (48 + n % 10)]
theorem dg_itb {n : Nat} (h : n < 100) : itb (n : Int) = ⟨(dg n).toArray⟩ := by
  rw [itb_nat]
  unfold dg
  by_cases h1 : n < 10
  · rw [Lib.decDigits, dif_pos h1, if_pos h1]
  · rw [Lib.decDigits, dif_neg h1, if_neg h1, Lib.decDigits, dif_pos (by omega)]; rfl
/-- the line and the script of one ordo -/
def ordLn (m n : Nat) : ByteArray := ⟨([111, 114, 100, 111, 32] ++ dg m ++ [32] ++ dg n).toArray⟩
def ordS (m n : Nat) : ByteArray := ⟨([111, 114, 100, 111, 32] ++ dg m ++ [32] ++ dg n ++ [10]).toArray⟩
def ordTxt (m n : Nat) : Bool :=
  decide ((lns (ordS m n)).map (·.data.toList) = [(ordLn m n).data.toList, []]) && (decide (Lib.countB (ordS m n) ⟨#[10]⟩ = 1) &&
  (decide ((wrd (ordLn m n)).map (·.data.toList) = [[111, 114, 100, 111], dg m, dg n]) && (decide (Lib.countB (ordLn m n) ⟨#[32]⟩ = 2) &&
  (decide (num (dg m) = (m : Int)) && (decide (num (dg n) = (n : Int)) && (decide ((ordS m n).size ≤ 20) && decide ((ordLn m n).size ≤ 20)))))))
theorem ordTxt_all : ∀ a : Nat, a < 6 → ∀ b : Nat, b < 12 → ordTxt (a + 1) (b + 1) = true := by decide +kernel
theorem ba_map {xs ys : List ByteArray} (h : xs.map (·.data.toList) = ys.map (·.data.toList)) : xs = ys := by
  refine (List.map_inj_right (f := fun x : ByteArray => x.data.toList) ?_).1 h
  intro x y e
  exact ByteArray.ext (Array.toList_inj.1 e)
theorem ord_text {m n : Nat} (h1 : 1 ≤ m ∧ m ≤ 6) (h2 : 1 ≤ n ∧ n ≤ 12) : lns (ordS m n) = [ordLn m n] ++ [⟨#[]⟩] ∧ Lib.countB (ordS m n) ⟨#[10]⟩ = 1 ∧ wrd (ordLn m n) = ⟨#[111, 114, 100, 111]⟩ :: [⟨(dg m).toArray⟩, ⟨(dg n).toArray⟩] ∧ Lib.countB (ordLn m n) ⟨#[32]⟩ = 2 ∧ num (dg m) = (m : Int) ∧ num (dg n) = (n : Int) ∧ (ordS m n).size ≤ 20 ∧ (ordLn m n).size ≤ 20 := by
  have h := ordTxt_all (m - 1) (by omega) (n - 1) (by omega)
  rw [show m - 1 + 1 = m by omega, show n - 1 + 1 = n by omega] at h
  unfold ordTxt at h
  simp only [Bool.and_eq_true, decide_eq_true_eq] at h
  obtain ⟨a1, a2, a3, a4, a5, a6, a7, a8⟩ := h
  exact ⟨ba_map (by rw [a1]; rfl), a2, ba_map (by rw [a3]; rfl), a4, a5, a6, a7, a8⟩
theorem bl_gb {w w' : World} (h : Below w.heap.size w w') (b : Option Nat) : w.grownBy w' b := ⟨h.os, h.tape, h.output, h.size, fun i hi _ => h.block i hi⟩
theorem gb_two {w W' w' : World} {D : Nat} (h1 : w.grownBy W' (some D)) (h2 : W'.grownBy w' (some w.heap.size)) : w.grownBy w' (some D) :=
  ⟨h2.os.trans h1.os, h2.tape.trans h1.tape, h2.output.trans h1.output, Nat.le_trans h1.size h2.size, fun i hi hne => (h2.block i (Nat.lt_of_lt_of_le hi h1.size) (by intro e; injection e with e; omega)).trans (h1.block i hi hne)⟩
theorem jn_two (x y : ByteArray) : jn10 [x, y] = x ++ ⟨#[10]⟩ ++ y := by
  obtain ⟨⟨x⟩⟩ := x
  obtain ⟨⟨y⟩⟩ := y
  unfold jn10
  simp [Lib.join, ByteArray.mk_append_mk]

theorem jn_small {m n : Int} (hok : oOk m n = true) : (jn10 [ordT m n, end9 0 0]).size ≤ 1000000 := by
  have hr := oRst_in (m := m) (n := n)
  have hll := oLst_len (m := m) (n := n)
  have hsz : ∀ z ∈ oLst m n, (itb z).size ≤ 30 := fun z hz => by
    have hb := oLst_in hz
    obtain ⟨k, rfl⟩ : ∃ k : Nat, z = (k : Int) := ⟨z.toNat, by omega⟩
    have := itb_small (i := k) (by omega)
    omega
  have hw := wnb_size (t := ⟨#[111, 114, 100, 111]⟩) hsz (oLst m n).length
  rw [List.take_length] at hw
  have h4 : (⟨#[111, 114, 100, 111]⟩ : ByteArray).size = 4 := rfl
  have hq : (itb (oRst m n)).size ≤ 2 := by
    obtain ⟨k, hk⟩ : ∃ k : Nat, oRst m n = (k : Int) := ⟨(oRst m n).toNat, by omega⟩
    rw [hk]
    exact itb_small (by omega)
  have hi0 : (itb ((0 : Nat) : Int)).size ≤ 2 := itb_small (by omega)
  have s6 : (⟨#[32, 114, 101, 115, 116, 32]⟩ : ByteArray).size = 6 := rfl
  have s7 : (⟨#[116, 111, 110, 101, 115, 32]⟩ : ByteArray).size = 6 := rfl
  have s8 : (⟨#[32, 101, 110, 116, 114, 105, 101, 115, 32]⟩ : ByteArray).size = 9 := rfl
  have s9 : (⟨#[10]⟩ : ByteArray).size = 1 := rfl
  rw [jn_two]
  unfold ordT end9
  simp only [ByteArray.size_append, s6, s7, s8, s9]
  omega

/-- an archive in which nothing lies -/
def EmptyA (D : Nat) (W : World) : Prop := W.heap[D]? = some (.cells #[.slice none 0 0, .slice none 0 0] 58 (0, 0))
theorem EmptyA.lt {D : Nat} {W : World} (h : EmptyA D W) : D < W.heap.size := by
  rcases Nat.lt_or_ge D W.heap.size with h1 | h1
  · exact h1
  · unfold EmptyA at h; rw [Array.getElem?_eq_none h1] at h; cases h
theorem EmptyA.grown {D : Nat} {W W' : World} {b : Option Nat} (h : EmptyA D W) (hg : W.grownBy W' b) (hb : b ≠ some D) : EmptyA D W' := (hg.block D h.lt (fun e => hb e.symm)).trans h

/-- what an ordo prints -/
def ordOut (m n : Nat) : ByteArray := ordT m n ++ ⟨#[10]⟩ ++ end9 0 0 ++ ⟨#[10]⟩
set_option maxHeartbeats 4000000 in
theorem execute_ordo (m n : Nat) (x : Int) (w : World) (hok : oOk m n = true) (hm : w.cell? ⟨3, 0, none⟩ = some (.int .i64 x)) :
    Calls Tryz.prog 12 #[.string (ordS m n)] w fun e w' => e = .returned (.string (ordOut m n)) ∧ Below w.heap.size w w' := by
  obtain ⟨h1, h2⟩ := oOk_in hok
  obtain ⟨t1, t2, t3, t4, t5, t6, t7, t8⟩ := ord_text (m := m) (n := n) (by omega) (by omega)
  have h3 : 3 < w.heap.size := World.block_lt_of_cell? w _ hm
  have KE := execute_gen (ordS m n) [ordLn m n] ⟨#[]⟩ [ordT m n] (end9 0 0) x w hm (by omega) t1 t2 (by simp) (fun _ W => EmptyA w.heap.size W) (fun W h => h)
    (fun k W W' h hb => h.grown (bl_gb hb none) (by intro e; cases e))
    (fun k W W' v n zs b o h hr hg => by
      refine (hg.block w.heap.size (by have := h.lt; simp; omega) ?_).trans ((heap_alloc_old _ _ h.lt).trans h)
      intro e
      rcases hr.2 with ⟨rfl, _⟩ | ⟨g, cap, cur, rfl, _, hh, _⟩
      · cases e
      · have e2 : w.heap.size = g := by simpa [Value.ownBlock] using e
        rw [← e2] at hh
        have h' : W.heap[w.heap.size]? = _ := h
        rw [h'] at hh
        injection hh with hh
        injection hh with _ hh
        exact absurd hh (by decide))
    rfl
    (fun k line o hk ho W hI hD hm2 => by
      have k0 : k = 0 := by
        cases k with
        | zero => rfl
        | succ k => simp at hk
      subst k0
      simp only [List.getElem?_cons_zero, Option.some.injEq] at hk ho
      subst hk ho
      refine (answer_ordo w.heap.size (ordLn m n) ⟨#[111, 114, 100, 111]⟩ [⟨(dg m).toArray⟩, ⟨(dg n).toArray⟩] 2 x W hm2 hD (by omega) t3 t4 (by decide) (by simp) (by simp) (by rfl) (fun t ok W' => t = ordT m n ∧ ok = true ∧ EmptyA w.heap.size W') (fun W2 u hb hs => ?_)).mono ?_
      · have hI2 := hI.grown (bl_gb hb none) (by intro e; cases e)
        refine (ordo_any ⟨w.heap.size, 0, none⟩ u _ _ W2 hs).mono ?_
        rintro e w' ⟨rfl, hb'⟩
        simp only [t5, t6, hok]
        exact ⟨_, _, rfl, ⟨rfl, rfl, hI2.grown (bl_gb hb' none) (by intro e; cases e)⟩, bl_gb hb' _⟩
      · rintro e w' ⟨t, ok, W', rfl, ⟨rfl, rfl, hE⟩, hg1, hg2⟩
        exact ⟨rfl, hE.grown hg2 (by intro e; injection e with e; omega), gb_two hg1 hg2⟩)
    (fun W hI => (ending_any w.heap.size 0 0 0 0 none none W hI (by omega) (by omega)))
    (by simpa using jn_small hok)
  refine KE.mono ?_
  rintro e w' ⟨rfl, hb⟩
  refine ⟨?_, hb⟩
  show Ending.returned (.string (jn10 [ordT m n, end9 0 0] ++ ⟨#[10]⟩)) = _
  rw [jn_two]
  rfl
end Go.Proofs.YtaelkgpebhdlhaaGreatDoor
