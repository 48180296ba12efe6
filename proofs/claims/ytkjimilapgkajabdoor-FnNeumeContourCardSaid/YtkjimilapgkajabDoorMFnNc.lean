/-
  The law FnNeumeContour: for every code, a neume's contour has its name, and the lowest melody that has the contour has the name too.
-/
import Derived.Test.YtkjimilapgkajabDoorDraw2
import Derived.Test.YtkjimilapgkajabDoorDrawOf
import Derived.Laws.Concat
import Derived.Laws.IdiomStrings
import Derived.Test.YtkjimilapgkajabDoorNn
import Derived.Test.YtkjimilapgkajabDoorCode
import Derived.Test.YtkjimilapgkajabDoorCl
import Derived.Test.YtkjimilapgkajabDoorCc
import Derived.Test.YtkjimilapgkajabDoorFr
import Derived.RegionTactic
import Derived.BigRegion
import Derived.Test.YtkjimilapgkajabDoorGnm
import Derived.Test.YtkjimilapgkajabDoorGv
import Derived.Test.YtkjimilapgkajabDoorJn
import Derived.Deep.RegionHeld3
import Derived.Deep.AppendLies
import Derived.IntWalk
import Derived.Test.YtkjimilapgkajabDoorVbl
import Derived.Deep.RegionWith
import Derived.Test.YtkjimilapgkajabDoorFlat
import Derived.Test.YtkjimilapgkajabDoorNci
import Derived.ChangeMaps5
import Derived.Test.YtkjimilapgkajabDoorNeu
import Derived.Test.YtkjimilapgkajabDoorLaid1
import Derived.Deep.DeepHandedRow
import Derived.Deep.DeepRowAt
import Derived.OpenVars
import Derived.Test.YtkjimilapgkajabDoorCards
import Derived.Test.YtkjimilapgkajabDoorTie
import Derived.Lay
import Derived.Deep.DeepWitnessRowRef
namespace Go.Proofs.YtkjimilapgkajabDoor
open Go.RowKit
set_option maxRecDepth 100000
set_option linter.unusedVariables false

def ContPicked (B A q most : Nat) (w : World) (e : Ending) (w' : World) : Prop :=
  ∃ x : ByteArray, e = .returned (.string x) ∧ x.size ≤ most + 1 ∧ Rd w' B A (q + most + 3) ∧ w.grownBy w' (some B)
theorem contPicked {B A q q' most : Nat} {w w' : World} {x : ByteArray} (h : Rd w' B A q') (hq : q' ≤ q + most + 3) (hx : x.size ≤ most + 1) (hg : w.grownBy w' (some B)) : ContPicked B A q most w (.returned (.string x)) w' :=
  ⟨x, rfl, hx, h.more hq, hg⟩
theorem app_size (x y : ByteArray) : (x ++ y).size = x.size + y.size := ByteArray.size_append

set_option maxHeartbeats 4000000 in
theorem l91Contour_any (B A q most : Nat) (hm : most ≤ 24) (hq : q ≤ 800000) (w : World) (h : Rd w B A q) :
    Calls Tryd.prog 81 #[.pointer (some ⟨B, 0, none⟩), .int .i64 (most : Int)] w (ContPicked B A q most w) := by
  have hB := h.lt
  have hA := h.ltA
  have s1 : IntKind.i64.wrap ((most : Int) + 1) = (most : Int) + 1 := IntWalk.i64_in _ (by omega)
  go_enter Tryd.func81, Tryd.ntmps81
  go_wp2_with (fail)
  (go_at_call 54; refine (pick_any ((most : Int) + 1) B A q (by omega) (by omega) (by omega) _ h).mono ?_; rintro e w1 ⟨n', rfl, h0, h1, hr1, hg1⟩)
  obtain ⟨n, rfl⟩ : ∃ n : Nat, n' = n := ⟨n'.toNat, by omega⟩
  have hn : n ≤ most := by omega
  have HR := Lib.hid hr1
  have HG := Lib.hid hg1
  clear hr1 hg1
  go_wp2
  go_loopw [5, 7] (fun o i wr => ∃ (k : Nat) (x : ByteArray), k ≤ n ∧ i = .int .i64 k ∧ o = .string x ∧ x.size ≤ k ∧ Hid (Rd wr B A (q + 1 + k) ∧ w.grownBy wr (some B))) (fun _ i _ => n - (intOf i).toNat)
  case atStart => exact ⟨0, _, Nat.zero_le _, rfl, rfl, by decide, ⟨HR.out, HG.out⟩⟩
  case round =>
    obtain ⟨k, x, hk, rfl, rfl, hx, HK⟩ := hrel
    have zB := HK.out.1.lt
    by_cases hlt : k < n
    · have hk0 : (0 : Int) ≤ (k : Int) := by omega
      have hk1 : (k : Int) < (n : Int) := by omega
      go_wp2_with (fail)
      (go_at_call 79; refine (of_any B A (q + 1 + k) wr.heap.size 5 1 (by omega) (by omega) (by omega) _ (HK.out.1.alloc _) (by omega) (by simp) ?_).mono ?_)
      · intro j hj
        rw [World.cell?_alloc_mark]
        match j, hj with
        | 0, _ => exact ⟨_, rfl, by decide⟩
        | 1, _ => exact ⟨_, rfl, by decide⟩
        | 2, _ => exact ⟨_, rfl, by decide⟩
        | 3, _ => exact ⟨_, rfl, by decide⟩
        | 4, _ => exact ⟨_, rfl, by decide⟩
      rintro e w3 ⟨y, rfl, hy, hr3, hg3⟩
      have hs := app_size x y
      have hadd : ∀ W : World, (Op.stringOp .add x y).run Tryd.prog W = .ok (.string (x ++ y)) W := fun W => run_string_add_sum W _ _ (by omega)
      have HN : Hid (Rd w3 B A (q + 1 + (k + 1)) ∧ w.grownBy w3 (some B)) := ⟨hr3, gb_step (gb_alloc HK.out.2 _) hg3⟩
      clear hr3 hg3
      generalize x ++ y = xy at hadd hs
      go_wp2
      go_roundw
      case rel => exact ⟨k + 1, xy, by omega, by go_num, rfl, by omega, HN.out⟩
      case measure => simp [intOf]; omega
    · have hke : k = n := by omega
      subst hke
      go_wp2_with (fail)
      (go_at_call 54; refine (pick_any 20 B A (q + 1 + k) (by omega) (by omega) (by omega) _ HK.out.1).mono ?_; rintro e w3 ⟨j3, rfl, h30, h31, hr3, hg3⟩)
      have z3 : B < w3.heap.size := hr3.lt
      have HN := Lib.hid hr3
      have HM := Lib.hid (gb_step HK.out.2 hg3)
      clear hr3 hg3
      by_cases g0 : j3 = 0
      · subst g0
        go_wp2_with (fail)
        (go_at_call 79; refine (of_any B A (q + 1 + k + 1) w3.heap.size 3 1 (by omega) (by omega) (by omega) _ (HN.out.alloc _) (by omega) (by simp) ?_).mono ?_)
        · intro j hj
          rw [World.cell?_alloc_mark]
          match j, hj with
          | 0, _ => exact ⟨_, rfl, by decide⟩
          | 1, _ => exact ⟨_, rfl, by decide⟩
          | 2, _ => exact ⟨_, rfl, by decide⟩
        rintro e w4 ⟨y, rfl, hy, hr4, hg4⟩
        have hs := app_size x y
        have hadd : ∀ W : World, (Op.stringOp .add x y).run Tryd.prog W = .ok (.string (x ++ y)) W := fun W => run_string_add_sum W _ _ (by omega)
        have HE := Lib.hid (contPicked (q := q) (most := most) (x := x ++ y) hr4 (by omega) (by omega) (gb_step (gb_alloc HM.out _) hg4))
        clear hr4 hg4
        generalize x ++ y = xy at hadd hs HE
        go_wp2
        go_ret
        exact HE.out
      · have e0 : (j3 == 0) = false := by simpa using g0
        have HE := Lib.hid (contPicked (q := q) (most := most) (x := x) HN.out (by omega) (by omega) HM.out)
        clear g0
        go_wp2
        go_ret
        exact HE.out

def DrewCont (m : Nat) (w : World) (e : Ending) (w' : World) : Prop :=
  ∃ x : ByteArray, e = .returned (.string x) ∧ x.size ≤ m ∧ Below w.heap.size w w'

end Go.Proofs.YtkjimilapgkajabDoor

namespace Go.Proofs.YtkjimilapgkajabDoor
open Go.RowKit
set_option maxRecDepth 100000
set_option linter.unusedVariables false

def DrewTxt (w : World) (e : Ending) (w' : World) : Prop := ∃ x : ByteArray, e = .returned (.string x) ∧ Below w.heap.size w w'

theorem drawNeumeContour_any (a : Option Addr) (n cap : Nat) (w : World) (h : CodeAt w a n) (hc : n ≤ cap) (hcap : cap ≤ maxLen) :
    Calls Tryd.prog 32 #[.slice a n cap] w (DrewTxt w) := by
  go_enter Tryd.func32, Tryd.ntmps32
  go_wp2_with (fail)
  (go_at_call 52; refine (open_any a n cap _ h hc hcap).mono ?_; rintro e w1 ⟨A, rfl, hr1, hb1, hs1⟩)
  go_wp2_with (fail)
  (go_at_call 54; refine (pick_any 4 w.heap.size A 0 (by omega) (by omega) (by omega) _ hr1).mono ?_; rintro e w2 ⟨k, rfl, h0, h1, hr2, hg2⟩)
  have hbw2 := below_gb hb1 hg2 (Nat.le_refl _)
  clear h hc hcap hr1
  by_cases g0 : k = 0
  · subst g0
    have z2 : w.heap.size < w2.heap.size := hr2.lt
    go_wp2_with (fail)
    (go_at_call 79; refine (of_any w.heap.size A _ w2.heap.size 8 10 (by omega) (by omega) (by omega) _ (hr2.alloc _) (by omega) (by simp) ?_).mono ?_)
    · intro j hj
      rw [World.cell?_alloc_mark]
      match j, hj with
      | 0, _ => exact ⟨_, rfl, by decide⟩
      | 1, _ => exact ⟨_, rfl, by decide⟩
      | 2, _ => exact ⟨_, rfl, by decide⟩
      | 3, _ => exact ⟨_, rfl, by decide⟩
      | 4, _ => exact ⟨_, rfl, by decide⟩
      | 5, _ => exact ⟨_, rfl, by decide⟩
      | 6, _ => exact ⟨_, rfl, by decide⟩
      | 7, _ => exact ⟨_, rfl, by decide⟩
    rintro e w3 ⟨y, rfl, hy, hr3, hg3⟩
    have HE : Hid (DrewTxt w (.returned (.string y)) w3) := ⟨y, rfl, below_gb (hbw2.alloc hbw2.size _) hg3 (by omega)⟩
    clear hr2 hr3 hg3
    go_wp2
    go_ret
    exact HE.out
  · have e0 : (k == 0) = false := by simpa using g0
    go_wp2_with (fail)
    (go_at_call 81; refine (l91Contour_any w.heap.size A _ 3 (by omega) (by omega) _ hr2).mono ?_; rintro e w3 ⟨x, rfl, hx, hr3, hg3⟩)
    have hbw3 := below_gb hbw2 hg3 (Nat.le_refl _)
    clear hr2 hr3 hg3
    go_wp2_with (fail)
    (go_at_call 80; refine (sNeumeName_any x (by omega) _).mono ?_; rintro e w4 ⟨rfl, hb4⟩)
    have HE : Hid (DrewTxt w (.returned (.string (nnm x))) w4) := ⟨nnm x, rfl, bl_step hbw3 hb4⟩
    generalize nnm x = y at HE
    go_wp2
    go_ret
    exact HE.out

end Go.Proofs.YtkjimilapgkajabDoor

namespace Go.Proofs.YtkjimilapgkajabDoor
set_option maxRecDepth 100000
set_option linter.unusedVariables false

/-- the way from a step to another one -/
def wyi (a b : Int) : UInt8 := if a < b then 117 else if b < a then 100 else 115
theorem wyi_up {a b : Int} (h : a < b) : wyi a b = 117 := by unfold wyi; rw [if_pos h]
theorem wyi_down {a b : Int} (h : b < a) : wyi a b = 100 := by unfold wyi; rw [if_neg (by omega), if_pos h]
theorem wyi_same {a b : Int} (h : a = b) : wyi a b = 115 := by unfold wyi; rw [if_neg (by omega), if_neg (by omega)]
theorem wyi_nat (a b : Nat) : wyi (a : Int) (b : Int) = wy a b := by
  unfold wyi wy
  by_cases h : a < b
  · rw [if_pos (by omega), if_pos h]
  · by_cases k : b < a
    · rw [if_neg (by omega), if_pos (by omega), if_neg h, if_pos k]
    · rw [if_neg (by omega), if_neg (by omega), if_neg h, if_neg k]
theorem wyi_u {a b : Int} (h : wyi a b = 117) : a < b := by
  by_cases p : a < b
  · exact p
  · by_cases q : b < a
    · rw [wyi_down q] at h; exact absurd h (by decide)
    · rw [wyi_same (by omega)] at h; exact absurd h (by decide)
theorem wyi_d {a b : Int} (h : wyi a b = 100) : b < a := by
  by_cases p : a < b
  · rw [wyi_up p] at h; exact absurd h (by decide)
  · by_cases q : b < a
    · exact q
    · rw [wyi_same (by omega)] at h; exact absurd h (by decide)
theorem wyi_s {a b : Int} (h : ¬ wyi a b = 117) (g : ¬ wyi a b = 100) : a = b := by
  by_cases p : a < b
  · exact absurd (wyi_up p) h
  · by_cases q : b < a
    · exact absurd (wyi_down q) g
    · omega
theorem wyi_way (a b : Int) : wayb (wyi a b) = true := by unfold wyi; split <;> (try split) <;> decide

/-- the contour of n + 1 steps -/
def cofl (f : Nat → Int) (n : Nat) : List UInt8 := (List.range n).map fun i => wyi (f i) (f (i + 1))
theorem cofl_len (f : Nat → Int) (n : Nat) : (cofl f n).length = n := by simp [cofl]
theorem cofl_succ (f : Nat → Int) (n : Nat) : cofl f (n + 1) = cofl f n ++ [wyi (f n) (f (n + 1))] := by simp [cofl, List.range_succ]
theorem cofl_at {f : Nat → Int} {n k : Nat} (h : k < n) : (cofl f n).getD k 0 = wyi (f k) (f (k + 1)) := by simp [cofl, List.getD_eq_getElem?_getD, h]
theorem cofl_ways (f : Nat → Int) (n : Nat) : (cofl f n).all wayb = true := by
  rw [List.all_eq_true]
  intro c hc
  obtain ⟨i, _, rfl⟩ := List.mem_map.1 hc
  exact wyi_way _ _

/-- no steps with the contour are lower -/
theorem lst_low {l : List UInt8} {f : Nat → Int} (h0 : ∀ j, j ≤ l.length → 0 ≤ f j) (h : ∀ k, k < l.length → wyi (f k) (f (k + 1)) = l.getD k 0) : ∀ j, j ≤ l.length → ((lst l j : Nat) : Int) ≤ f j := by
  have hu : ∀ j, j ≤ l.length → ((ups l j : Nat) : Int) ≤ f j := by
    intro j
    induction j with
    | zero => intro hj; have := h0 0 hj; simp [ups]; exact this
    | succ k ih =>
      intro hj
      have e := h k (by omega)
      have i := ih (by omega)
      have z := h0 (k + 1) hj
      rw [ups_step, ← e]
      by_cases p : wyi (f k) (f (k + 1)) = 117
      · have := wyi_u p
        rw [if_pos p]
        omega
      · rw [if_neg p]
        by_cases q : wyi (f k) (f (k + 1)) = 100
        · rw [if_pos q]
          omega
        · have := wyi_s p q
          rw [if_neg q]
          omega
  have hd : ∀ r, r ≤ l.length → ((dn l (l.length - r) : Nat) : Int) ≤ f (l.length - r) := by
    intro r
    induction r with
    | zero => intro _; rw [Nat.sub_zero, dn_end]; exact h0 _ (Nat.le_refl _)
    | succ r ih =>
      intro hr
      obtain ⟨k, hk⟩ : ∃ k, l.length - (r + 1) = k := ⟨_, rfl⟩
      have e := h k (by omega)
      have i := ih (by omega)
      rw [show l.length - r = k + 1 by omega] at i
      have z := h0 k (by omega)
      rw [hk, dn_step (by omega), ← e]
      by_cases p : wyi (f k) (f (k + 1)) = 100
      · have := wyi_d p
        rw [if_pos p]
        omega
      · rw [if_neg p]
        by_cases q : wyi (f k) (f (k + 1)) = 117
        · rw [if_pos q]
          omega
        · have := wyi_s q p
          rw [if_neg q]
          omega
  intro j hj
  have a := hu j hj
  have b := hd (l.length - j) (by omega)
  rw [show l.length - (l.length - j) = j by omega] at b
  unfold lst
  omega
/-- the lowest steps have the contour -/
theorem lst_way {l : List UInt8} {k : Nat} (hk : k < l.length) (hw : wayb (l.getD k 0) = true) : wyi ((lst l k : Nat) : Int) ((lst l (k + 1) : Nat) : Int) = l.getD k 0 := by
  have u := ups_step l k
  have d := dn_step hk
  simp only [wayb, Bool.or_eq_true, beq_iff_eq] at hw
  unfold lst
  rcases hw with (h | h) | h
  · rw [h] at u d ⊢
    rw [if_pos rfl] at u
    rw [if_neg (by decide), if_pos rfl] at d
    exact wyi_up (by omega)
  · rw [h] at u d ⊢
    rw [if_neg (by decide), if_pos rfl] at u
    rw [if_pos rfl] at d
    exact wyi_down (by omega)
  · rw [h] at u d ⊢
    rw [if_neg (by decide), if_neg (by decide)] at u
    rw [if_neg (by decide), if_neg (by decide)] at d
    exact wyi_same (by omega)
theorem lst_cof {l : List UInt8} (hl : l.all wayb = true) : cofl (fun j => ((lst l j : Nat) : Int)) l.length = l := by
  apply List.ext_getElem (by rw [cofl_len])
  intro k h1 h2
  have hw : wayb (l.getD k 0) = true := by
    rw [List.getD_eq_getElem?_getD, List.getElem?_eq_getElem h2]
    exact List.all_eq_true.1 hl _ (List.getElem_mem h2)
  have e := lst_way h2 hw
  have c := cofl_at (f := fun j => ((lst l j : Nat) : Int)) h2
  rw [List.getD_eq_getElem?_getD, List.getElem?_eq_getElem h1] at c
  rw [List.getD_eq_getElem?_getD, List.getElem?_eq_getElem h2] at e
  simp only [Option.getD_some] at c e
  rw [c, e]
/-- steps that are lower at one place have another contour -/
theorem lower_no {l : List UInt8} {i : Nat} (hi : i ≤ l.length) (hp : 0 < lst l i) : ¬ cofl (fun j => if j = i then ((lst l j : Nat) : Int) - 1 else ((lst l j : Nat) : Int)) l.length = l := by
  intro e
  have h := lst_low (l := l) (f := fun j => if j = i then ((lst l j : Nat) : Int) - 1 else ((lst l j : Nat) : Int)) (fun j hj => by (try dsimp only); split; (rename_i e; subst e; omega); omega) (fun k hk => by
    have c := cofl_at (f := fun j => if j = i then ((lst l j : Nat) : Int) - 1 else ((lst l j : Nat) : Int)) hk
    rw [e] at c
    exact c.symm) i hi
  simp only [if_true] at h
  omega
/-- among the lowest steps is 0 -/
theorem lst_zero (l : List UInt8) : ∃ j, j ≤ l.length ∧ lst l j = 0 := by
  by_cases h : ∃ j, j ≤ l.length ∧ lst l j = 0
  · exact h
  · have hp : ∀ j, j ≤ l.length → 0 < lst l j := fun j hj => by
      rcases Nat.eq_zero_or_pos (lst l j) with e | e
      · exact absurd ⟨j, hj, e⟩ h
      · exact e
    -- the first tone has only ways down ahead of it, the last one only ways up behind it
    have hu : ∀ k, k ≤ l.length → 0 < dn l k ∨ 0 < ups l k := fun k hk => by have := hp k hk; unfold lst at this; omega
    have key : ∀ k, k ≤ l.length → 0 < dn l k := by
      intro k
      induction k with
      | zero => intro hk; rcases hu 0 hk with h | h
                · exact h
                · simp [ups] at h
      | succ k ih =>
        intro hk
        have a := ih (by omega)
        rcases hu (k + 1) hk with h1 | h1
        · exact h1
        · rw [dn_step (by omega)] at a
          rw [ups_step] at h1
          by_cases p : l.getD k 0 = 117
          · rw [if_neg (by rw [p]; decide), if_pos p] at a
            omega
          · by_cases q : l.getD k 0 = 100
            · rw [if_neg p, if_pos q] at h1
              omega
            · rw [if_neg q, if_neg p] at a
              exact a
    have := key l.length (Nat.le_refl _)
    rw [dn_end] at this
    omega

end Go.Proofs.YtkjimilapgkajabDoor

namespace Go.Proofs.YtkjimilapgkajabDoor
open Go.RowKit
set_option maxRecDepth 100000
set_option linter.unusedVariables false

/-- the lowest steps of a text, none if it is no contour -/
def cls (s : ByteArray) : List Int := if cv s then (List.range (s.size + 1)).map fun j => ((lst s.data.toList j : Nat) : Int) else []
theorem cls_no {s : ByteArray} (h : cv s = false) : cls s = [] := by simp [cls, h]
theorem cls_yes {s : ByteArray} (h : cv s = true) : cls s = (List.range (s.size + 1)).map fun j => ((lst s.data.toList j : Nat) : Int) := by simp [cls, h]
def ClBuilt2 (w : World) (xs : List Int) (ok : Bool) (e : Ending) (w' : World) : Prop :=
  ∃ v, e = .returned (.tuple #[v, .bool ok]) ∧ IRow w' w.heap.size w'.heap.size v xs ∧ Below w.heap.size w w'
theorem empty_irow (w : World) : IRow (w.alloc (.cells #[] 3)) w.heap.size (w.alloc (.cells #[] 3)).heap.size (.slice (some ⟨w.heap.size, 0, none⟩) 0 0) [] := by
  refine ⟨⟨rfl, .inr ⟨w.heap.size, 0, #[], rfl, Nat.le_refl _, heap_alloc_new w _, by simp, by simp [maxLen], by simp, by simp⟩⟩, fun g hg => ?_⟩
  have : g = w.heap.size := by simpa [Value.ownBlock] using hg.symm
  simp
  omega
theorem IRow.lohi {w : World} {lo hi lo' hi' : Nat} {v : Value} {xs : List Int} (h : IRow w lo hi v xs) (h1 : lo' ≤ lo) (h2 : hi ≤ hi') : IRow w lo' hi' v xs := by
  obtain ⟨⟨hl, h | ⟨g, cap, cur, rfl, hg, hr⟩⟩, hlt⟩ := h
  · exact ⟨⟨hl, .inl h⟩, fun g hg => Nat.lt_of_lt_of_le (hlt g hg) h2⟩
  · exact ⟨⟨hl, .inr ⟨g, cap, cur, rfl, Nat.le_trans h1 hg, hr⟩⟩, fun g hg => Nat.lt_of_lt_of_le (hlt g hg) h2⟩
theorem empty_cl2 {w w1 : World} {ok : Bool} (hb : Below w.heap.size w w1) : ClBuilt2 w [] ok (.returned (.tuple #[.slice (some ⟨w1.heap.size, 0, none⟩) 0 0, .bool ok])) (w1.alloc (.cells #[] 3)) :=
  ⟨_, rfl, (empty_irow w1).lohi hb.size (Nat.le_refl _), hb.alloc hb.size _⟩
/-- the state: rounds that are over, ways that have been looked at -/
def LdInv (w wr : World) (l : List UInt8) (n B r k : Nat) : Prop :=
  ∃ f, LRel l r k f ∧ FR wr B (n + 1) (n + 1) f ∧ (∀ p, p ≤ n → 0 ≤ f p ∧ f p ≤ 100) ∧ Below w.heap.size w wr
theorem lrel_bd {l : List UInt8} {n r k : Nat} {f : Nat → Int} (hl : l.length = n) (hn : n ≤ 23) (h : LRel l r k f) : ∀ p, p ≤ n → 0 ≤ f p ∧ f p ≤ 100 := fun p hp => by
  have h1 := h.hi p (by omega)
  have h2 := lst_le (l := l) (k := p) (by omega)
  have h3 := h.lo p
  omega
theorem LdInv.start {w wr : World} {l : List UInt8} {n B : Nat} (hf : FR wr B (n + 1) (n + 1) (fun _ => 0)) (hb : Below w.heap.size w wr) : LdInv w wr l n B 0 0 := ⟨_, LRel.zero l, hf, fun _ _ => by decide, hb⟩
theorem LdInv.next {w wr : World} {l : List UInt8} {n B r : Nat} (hl : l.length = n) (h : LdInv w wr l n B r n) : LdInv w wr l n B (r + 1) 0 := by
  subst hl
  obtain ⟨f, h1, h2, h3, h4⟩ := h
  exact ⟨f, h1.next, h2, h3, h4⟩
theorem LdInv.drewN {w wr : World} {l : List UInt8} {n B r k : Nat} (h : LdInv w wr l n B r k) (q : Nat) : LdInv w (wr.drewN q) l n B r k := by
  obtain ⟨f, h1, h2, h3, h4⟩ := h
  exact ⟨f, h1, h2, h3, ⟨h4.os, h4.tape, h4.output, h4.size, h4.block⟩⟩
theorem ld_step {w wr W : World} {l : List UInt8} {n B r k : Nat} {f g : Nat → Int} (hl : l.length = n) (hn : n ≤ 23) (hk : k < n) (h1 : LRel l r k f) (hb : Below w.heap.size w W) (hW : FR W B (n + 1) (n + 1) g) (hg : ∀ p, p < n + 1 → g p = rlx (l.getD k 0) k f p) :
    LdInv w W l n B r (k + 1) := by
  have hs := h1.step (by omega : k < l.length)
  exact ⟨_, hs, hW.congr fun p hp => (hg p hp).symm, lrel_bd hl hn hs, hb⟩
theorem ld_u {w wr : World} {l : List UInt8} {n B r k : Nat} {f : Nat → Int} {v : Int} (hl : l.length = n) (hn : n ≤ 23) (hk : k < n) (hB : w.heap.size ≤ B) (hc : l.getD k 0 = 117) (h1 : LRel l r k f) (h2 : FR wr B (n + 1) (n + 1) f) (h4 : Below w.heap.size w wr)
    (hv : v = max (f (k + 1)) (f k + 1)) : LdInv w (wr.setCell ⟨B, k + 1, none⟩ (.int .i64 v)) l n B r (k + 1) := by
  refine ld_step (wr := wr) hl hn hk h1 (h4.setCell (p := ⟨B, k + 1, none⟩) hB _) (h2.set (by omega) v) fun p _ => ?_
  rw [hc]
  unfold rlx
  rw [if_pos rfl, hv]
theorem ld_d {w wr : World} {l : List UInt8} {n B r k : Nat} {f : Nat → Int} {v : Int} (hl : l.length = n) (hn : n ≤ 23) (hk : k < n) (hB : w.heap.size ≤ B) (hc : l.getD k 0 = 100) (h1 : LRel l r k f) (h2 : FR wr B (n + 1) (n + 1) f) (h4 : Below w.heap.size w wr)
    (hv : v = max (f k) (f (k + 1) + 1)) : LdInv w (wr.setCell ⟨B, k, none⟩ (.int .i64 v)) l n B r (k + 1) := by
  refine ld_step (wr := wr) hl hn hk h1 (h4.setCell (p := ⟨B, k, none⟩) hB _) (h2.set (by omega) v) fun p _ => ?_
  rw [hc]
  unfold rlx
  rw [if_neg (show ¬ (100 : UInt8) = 117 by decide), if_pos rfl, hv]
theorem ld_s {w wr : World} {l : List UInt8} {n B r k : Nat} {f : Nat → Int} {v : Int} (hl : l.length = n) (hn : n ≤ 23) (hk : k < n) (hB : w.heap.size ≤ B) (hc : l.getD k 0 ≠ 117) (hc2 : l.getD k 0 ≠ 100) (h1 : LRel l r k f) (h2 : FR wr B (n + 1) (n + 1) f) (h4 : Below w.heap.size w wr)
    (hv : v = max (f k) (f (k + 1))) : LdInv w ((wr.setCell ⟨B, k, none⟩ (.int .i64 v)).setCell ⟨B, k + 1, none⟩ (.int .i64 v)) l n B r (k + 1) := by
  refine ld_step (wr := wr) hl hn hk h1 ((h4.setCell (p := ⟨B, k, none⟩) hB _).setCell (p := ⟨B, k + 1, none⟩) hB _) ((h2.set (by omega) v).set (by omega) v) fun p _ => ?_
  unfold rlx
  rw [if_neg hc, if_neg hc2, hv]
  by_cases e1 : p = k + 1
  · rw [if_pos e1, if_pos (.inr e1)]
  · rw [if_neg e1]
    by_cases e2 : p = k
    · rw [if_pos e2, if_pos (.inl e2)]
    · rw [if_neg e2, if_neg (fun h => h.elim e2 e1)]
theorem LdInv.done {w wr : World} {s : ByteArray} {B r : Nat} (hc : cv s = true) (hB : w.heap.size ≤ B) (h : LdInv w wr s.data.toList s.size B r 0) (hr : s.size ≤ r) (hr1 : 1 ≤ r) :
    ClBuilt2 w (cls s) true (.returned (.tuple #[.slice (some ⟨B, 0, none⟩) (s.size + 1) (s.size + 1), .bool true])) wr := by
  obtain ⟨f, h1, h2, _, h4⟩ := h
  have hl : s.data.toList.length = s.size := by simp
  have hz := (cv_in hc).1
  refine ⟨_, rfl, ?_, h4⟩
  refine h2.irow hB h2.lt (by unfold maxLen; omega) ?_
  rw [cls_yes hc]
  refine List.map_congr_left fun j hj => ?_
  rw [List.mem_range] at hj
  exact (h1.done (by omega) hr1 (by omega)).symm

end Go.Proofs.YtkjimilapgkajabDoor

namespace Go.Proofs.YtkjimilapgkajabDoor
open Go.RowKit
set_option maxRecDepth 100000
set_option linter.unusedVariables false

/-- a row of integers turned round; all other blocks stand -/
def RevI (B n c : Nat) (f : Nat → Int) (W : World) (e : Ending) (w' : World) : Prop :=
  e = .returned (.tuple #[]) ∧ FR w' B n c (fun j => f (n - 1 - j)) ∧ W.heap.size ≤ w'.heap.size ∧ (∀ k, k ≠ B → w'.heap[k]? = W.heap[k]?) ∧ ∀ m (w0 : World), m ≤ B → Below m w0 W → Below m w0 w'
theorem reverse_ints (B n c : Nat) (f : Nat → Int) (W : World) (h : FR W B n c f) (hn : n ≤ 9223372036854775807) :
    Calls Tryd.prog 85 #[.slice (some ⟨B, 0, none⟩) n c] W (RevI B n c f W) := by
  obtain ⟨zs, hzs⟩ : ∃ zs, zs = (List.range n).map f := ⟨_, rfl⟩
  have hl : zs.length = n := by rw [hzs]; simp
  have hg : ∀ j (hj : j < n), zs.toArray[j]! = f j := fun j hj => by
    rw [getElem!_pos _ _ (by simpa [hl] using hj)]
    simp [hzs]
  have hr : ∀ j (hj : j < n), zs.reverse.toArray[j]! = f (n - 1 - j) := fun j hj => by
    rw [getElem!_pos _ _ (by simpa [hl] using hj)]
    simp [hzs]
  have hH : Go.Sort.Holds (Value.int .i64) W B 0 zs.toArray := fun j hj => by
    have hj' : j < n := by simpa [hl] using hj
    rw [Nat.zero_add, hg j hj']
    exact ⟨h.cell hj', h.free j⟩
  have K : Calls Tryd.prog 85 #[.slice (some ⟨B, 0, none⟩) zs.length c] W fun e w' => e = .returned (.tuple #[]) ∧ ∃ n, w' = Go.Sort.putRow (Value.int .i64) (Go.Sort.ahead W n) B 0 zs.reverse.toArray := AnyE.slices_Reverse Tryd.revI (Value.int .i64) (fun _ => rfl) B 0 c zs W hH (by omega)
  rw [hl] at K
  refine K.mono fun e w' ⟨he, q, hw⟩ => ?_
  subst hw
  refine ⟨he, ?_, by show W.heap.size ≤ (W.heap.modify B _).size; rw [Array.size_modify]; exact Nat.le_refl _, fun k hk => ?_, fun m w0 hm hb => below_putRow _ _ hb hm⟩
  · obtain ⟨cur, hh, hs, hc⟩ := h
    have hz : (Go.Sort.putCells (Value.int .i64) 0 zs.reverse.toArray cur).size = cur.size := by simp [Go.Sort.putCells]
    refine ⟨Go.Sort.putCells (Value.int .i64) 0 zs.reverse.toArray cur, ?_, ⟨by rw [hz]; exact hs.1, hs.2⟩, fun p hp => ?_⟩
    · show (W.heap.modify B _)[B]? = _
      rw [Array.getElem?_modify, if_pos rfl, hh]
      rfl
    · have hpc : p < cur.size := by omega
      have hrl : zs.reverse.toArray.size = n := by simp [hl]
      unfold Go.Sort.putCells
      rw [Array.getElem?_mapIdx, hc p hp]
      simp only [Option.map_some]
      rw [if_pos ⟨Nat.zero_le _, by rw [hrl]; omega⟩, Nat.sub_zero, hr p hp]
  · show (W.heap.modify B _)[k]? = _
    rw [Array.getElem?_modify, if_neg (fun e => hk e.symm)]

theorem upl_getD (l : List UInt8) {n j : Nat} (h : j < n) : (upl l n).getD j 0 = ((ups l j : Nat) : Int) := by
  simp [upl, List.getD_eq_getElem?_getD, h]
theorem ctB_list {s : ByteArray} (h : cv s = true) : (ctB s).data.toList = (s.data.toList.map tnb).reverse := by rw [ctB_yes h]
theorem ctB_size' {s : ByteArray} (h : cv s = true) : (ctB s).size = s.size := by
  rw [ctB_yes h]
  show (s.data.toList.map tnb).reverse.toArray.size = s.data.size
  simp
theorem behind_at {s : ByteArray} (h : cv s = true) {p : Nat} (hp : p ≤ s.size) : (upl (ctB s).data.toList (s.size + 1)).getD (s.size - p) 0 = ((dn s.data.toList p : Nat) : Int) := by
  have hl : s.data.toList.length = s.size := by simp
  rw [upl_getD _ (by omega), ctB_list h, ups_back _ _ (by omega), hl, show s.size - (s.size - p) = p by omega]

/-- the loop's state: k steps are what they shall be -/
def LeInv (w wr : World) (l : List UInt8) (g g' n c c' k : Nat) : Prop :=
  FR wr g (n + 1) c (fun p => if p < k then ((lst l p : Nat) : Int) else ((ups l p : Nat) : Int)) ∧ FR wr g' (n + 1) c' (fun p => ((dn l p : Nat) : Int)) ∧ Below w.heap.size w wr
theorem LeInv.next {w wr : World} {l : List UInt8} {g g' n c c' k : Nat} {v : Int} (h : LeInv w wr l g g' n c c' k) (hk : k < n + 1) (hg : g' ≠ g) (hb : w.heap.size ≤ g) (hv : v = ((lst l k : Nat) : Int)) :
    LeInv w (wr.setCell ⟨g, k, none⟩ (.int .i64 v)) l g g' n c c' (k + 1) := by
  obtain ⟨h1, h2, h3⟩ := h
  refine ⟨(h1.set hk v).congr fun p hp => ?_, h2.other hg, h3.setCell (p := ⟨g, k, none⟩) hb _⟩
  by_cases e : p = k
  · subst e; rw [if_pos (by omega), if_pos rfl, hv]
  · rw [if_neg e]
    by_cases e2 : p < k
    · rw [if_pos e2, if_pos (by omega)]
    · rw [if_neg e2, if_neg (by omega)]
theorem LeInv.drewN {w wr : World} {l : List UInt8} {g g' n c c' k : Nat} (h : LeInv w wr l g g' n c c' k) (q : Nat) : LeInv w (wr.drewN q) l g g' n c c' k :=
  ⟨h.1, h.2.1, ⟨h.2.2.os, h.2.2.tape, h.2.2.output, h.2.2.size, h.2.2.block⟩⟩
theorem LeInv.done {w wr : World} {s : ByteArray} {g g' c c' : Nat} (hc : cv s = true) (hb : w.heap.size ≤ g) (hm : c ≤ maxLen) (h : LeInv w wr s.data.toList g g' s.size c c' (s.size + 1)) :
    ClBuilt2 w (cls s) true (.returned (.tuple #[.slice (some ⟨g, 0, none⟩) (s.size + 1) c, .bool true])) wr := by
  refine ⟨_, rfl, h.1.irow hb h.1.lt hm ?_, h.2.2⟩
  rw [cls_yes hc]
  refine List.map_congr_left fun j hj => ?_
  rw [List.mem_range] at hj
  rw [if_pos hj]

set_option maxHeartbeats 8000000 in
theorem contourLeast_any (s : ByteArray) (hs : s.size ≤ 4611686018427387904) (w : World) :
    Calls Tryd.prog 35 #[.string s] w (ClBuilt2 w (cls s) (cv s)) := by
  by_cases hc : cv s = false
  · have HE := Lib.hid (fun w1 hb => empty_cl2 (w := w) (w1 := w1) (ok := false) hb)
    rw [cls_no hc]
    go_enter Tryd.func35, Tryd.ntmps35
    go_wp2_with (fail)
    (go_at_call 30; refine (contourBack_any s hs _).mono ?_; rintro e w1 ⟨rfl, hb1⟩)
    go_wp2
    go_ret2
    have hE := HE.out _ hb1
    rw [← hc] at hE
    first | exact hE | (rw [hc] at hE; exact hE) | (rw [hc]; rw [hc] at hE; exact hE)
  rw [Bool.not_eq_false] at hc
  have hn := (cv_in hc).1
  have HC := Lib.hid hc
  have hbz := ctB_size' hc
  have HBH : Hid (∀ p, p ≤ s.size → (upl (ctB s).data.toList (s.size + 1)).getD (s.size - p) 0 = ((dn s.data.toList p : Nat) : Int)) := fun p hp => behind_at hc hp
  have HD : Hid (∀ g g' c c' (wr : World), w.heap.size ≤ g → c ≤ maxLen → LeInv w wr s.data.toList g g' s.size c c' (s.size + 1) → ClBuilt2 w (cls s) (cv s) (.returned (.tuple #[.slice (some ⟨g, 0, none⟩) (s.size + 1) c, .bool true])) wr) := by
    intro g g' c c' wr h1 h2 h3
    rw [hc]
    exact h3.done hc h1 h2
  have K2 := climbs_any (ctB s)
  rw [hbz] at K2
  have HK2 := Lib.hid (K2 hn)
  have HCB := Lib.hid (contourBack_any s hs)
  generalize ctB s = y at HCB HK2 HBH hbz
  clear K2 hbz
  go_enter Tryd.func35, Tryd.ntmps35
  go_wp2_with (fail)
  (go_at_call 30; refine (HCB.out _).mono ?_; rintro e w1 ⟨rfl, hb1⟩)
  go_wp2_with (fail)
  (go_at_call 84; refine (climbs_any s hn _).mono ?_; rintro e w2 ⟨v, rfl, hv, hb2⟩)
  have hbw2 := bl_step hb1 hb2
  go_wp2_with (fail)
  (go_at_call 84; refine (HK2.out _).mono ?_; rintro e w3 ⟨u, rfl, hu, hb3⟩)
  have hbw3 := bl_step hbw2 hb3
  have hv3 := hv.below hb3 (.inl (Nat.le_refl _))
  have z1 := hb1.size
  have z2 := hb2.size
  obtain ⟨g, c, rfl, hg0, hg1, hcm, hcn, hF⟩ := FR.of_irow hv3 (by rw [upl_len]; omega)
  obtain ⟨g', c', rfl, hg0', hg1', hcm', hcn', hF'⟩ := FR.of_irow hu (by rw [upl_len]; omega)
  rw [upl_len] at hF hF' hcn hcn'
  rw [upl_len, upl_len]
  have hne : g' ≠ g := by omega
  clear hv hu hv3
  go_wp2_with (fail)
  (go_at_call 85; refine (reverse_ints g' (s.size + 1) c' _ _ hF' (by omega)).mono ?_; rintro e w4 ⟨rfl, hR, hz4, ho4, hb4⟩)
  have HI0 : Hid (LeInv w w4 s.data.toList g g' s.size c c' 0) := by
    refine ⟨(hF.keep (ho4 g (Ne.symm hne))).congr fun p hp => ?_, hR.congr fun p hp => ?_, hb4 _ _ (by omega) hbw3⟩
    · rw [if_neg (by omega), upl_getD _ hp]
    · rw [Nat.add_sub_cancel]
      exact (HBH.out p (by omega)).symm
  clear hF hF' hR ho4 hb4 hc
  generalize s.data.toList = l at HI0 HD
  go_wp2
  go_loopw [25] (fun i wr => ∃ k : Nat, k ≤ s.size + 1 ∧ i = .int .i64 k ∧ LeInv w wr l g g' s.size c c' k) (fun i _ => s.size + 1 - (intOf i).toNat)
  case atStart => exact ⟨0, Nat.zero_le _, rfl, HI0.out⟩
  case round =>
    obtain ⟨k, hk, rfl, hI⟩ := hrel
    clear HI0
    by_cases hlt : k < s.size + 1
    · have k1 : (k : Int) < (s.size : Int) + 1 := by omega
      have k0 : (0 : Int) ≤ (k : Int) := by omega
      have e0 := hI.1.cell hlt
      rw [if_neg (Nat.lt_irrefl k)] at e0
      have e1 := hI.2.1.cell hlt
      have ef := hI.1.free
      have HN := Lib.hid (fun v hv => hI.next (v := v) hlt hne (by omega) hv)
      have hmx : lst l k = max (ups l k) (dn l k) := rfl
      rw [hmx] at HN
      clear hI hmx
      generalize ups l k = x at e0 HN
      generalize dn l k = y at e1 HN
      by_cases hxy : x < y
      · have HX := Lib.hid (HN.out (y : Int) (by congr 1; omega))
        have c3 : max (x : Int) (y : Int) = (y : Int) := by omega
        have c1 : (x : Int) < (y : Int) := by omega
        clear HN hxy
        go_wp2
        go_region
        all_goals
          go_wp2
          go_roundw
          case rel => exact ⟨k + 1, by omega, by go_num, by first | exact HX.out | exact HX.out.drewN 1 | exact HX.out.drewN _⟩
          case measure => simp [intOf]; omega
      · have HX := Lib.hid (HN.out (x : Int) (by congr 1; omega))
        have c3 : max (x : Int) (y : Int) = (x : Int) := by omega
        have c1 : (y : Int) ≤ (x : Int) := by omega
        clear HN hxy
        go_wp2
        go_region
        all_goals
          go_wp2
          go_roundw
          case rel => exact ⟨k + 1, by omega, by go_num, by first | exact HX.out | exact HX.out.drewN 1 | exact HX.out.drewN _⟩
          case measure => simp [intOf]; omega
    · have hke : k = s.size + 1 := by omega
      subst hke
      have HX := Lib.hid (HD.out _ _ _ _ _ (by omega) hcm hI)
      have k1 : (s.size : Int) + 1 ≤ ((s.size + 1 : Nat) : Int) := by omega
      clear hI
      go_wp2
      go_ret2
      exact HX.out

end Go.Proofs.YtkjimilapgkajabDoor

namespace Go.Proofs.YtkjimilapgkajabDoor
set_option maxRecDepth 100000
set_option linter.unusedVariables false

/-- the first k tones, from the fourth step on -/
def nct (f : Nat → Int) (k : Nat) : List (Int × Bool) := (List.range k).map fun j => (3 + f j, false)
theorem nct_len (f : Nat → Int) (k : Nat) : (nct f k).length = k := by simp [nct]
theorem nct_succ (f : Nat → Int) (k : Nat) : nct f (k + 1) = nct f k ++ [(3 + f k, false)] := by
  unfold nct; rw [List.range_succ, List.map_append]; rfl
theorem nct_at (f : Nat → Int) {k j : Nat} (h : j < k) : (nct f k).getD j (0, false) = (3 + f j, false) := by
  simp [nct, List.getD_eq_getElem?_getD, h]
theorem nct_mv {f : Nat → Int} {k : Nat} (hk : k ≤ 4) (h : ∀ j, j < k → 0 ≤ f j ∧ f j ≤ 17) : mv (nct f k) = true := by
  unfold mv
  rw [Bool.and_eq_true, nct_len]
  refine ⟨decide_eq_true (by omega), List.all_eq_true.2 fun t ht => ?_⟩
  unfold nct at ht
  obtain ⟨j, hj, rfl⟩ := List.mem_map.1 ht
  have := h j (List.mem_range.1 hj)
  exact vd_hard (by omega) (by omega)
theorem nct_ctw (f : Nat → Int) (k : Nat) : ctw (nct f (k + 1)) k = cofl f k := by
  unfold ctw cofl
  refine List.map_congr_left fun i hi => ?_
  have hi := List.mem_range.1 hi
  rw [nct_at f (by omega), nct_at f (by omega)]
  show wyc (3 + f i) (3 + f (i + 1)) = _
  unfold wyc wyi
  simp only [Int.add_lt_add_iff_left]
theorem nct_ctO {f : Nat → Int} {k : Nat} (hk : k + 1 ≤ 4) (h : ∀ j, j < k + 1 → 0 ≤ f j ∧ f j ≤ 17) : ctO (nct f (k + 1)) = ⟨(cofl f k).toArray⟩ := by
  rw [ctO_yes (nct_mv hk h), nct_len, Nat.add_sub_cancel, nct_ctw]
theorem cv_all {l : List UInt8} (h : cv ⟨l.toArray⟩ = true) : l.all wayb = true := by
  unfold cv at h
  rw [Bool.and_eq_true] at h
  exact h.2
/-- the steps of a neume's contour -/
theorem neu_facts {l : List UInt8} (h : l ∈ allC) : isn ⟨l.toArray⟩ = true ∧ l.length ≤ 3 ∧ cv ⟨l.toArray⟩ = true ∧ l.all wayb = true := by
  have hi := allC_isn l h
  obtain ⟨h1, h2⟩ := isn_in hi
  have hs : (⟨l.toArray⟩ : ByteArray).size = l.length := by show l.toArray.size = _; simp
  exact ⟨hi, by rw [hs] at h2; exact h2, h1, cv_all h1⟩
theorem nct_gnm {l : List UInt8} (h : l ∈ allC) {t : ByteArray} (ht : nnl l = t.data.toList) :
    gnm (nct (fun j => ((lst l j : Nat) : Int)) (l.length + 1)) [(((l.length + 1 : Nat) : Int), false)] = t := by
  obtain ⟨h1, h2, h3, h4⟩ := neu_facts h
  have hb : ∀ j, j < l.length + 1 → 0 ≤ ((lst l j : Nat) : Int) ∧ ((lst l j : Nat) : Int) ≤ 17 := fun j hj => by
    have := lst_le (l := l) (k := j) (by omega)
    omega
  have hm := nct_mv (k := l.length + 1) (by omega) hb
  have hg : gv (nct (fun j => ((lst l j : Nat) : Int)) (l.length + 1)) [(((l.length + 1 : Nat) : Int), false)] = true := by
    refine gv_yes hm ?_ ?_
    · simp [gok]; omega
    · rw [nct_len]; simp [gsz]
  rw [gnm_yes hg]
  have e : gnw (nct (fun j => ((lst l j : Nat) : Int)) (l.length + 1)) [(((l.length + 1 : Nat) : Int), false)] 1 = [gnl (nct (fun j => ((lst l j : Nat) : Int)) (l.length + 1)) false] := by
    show [gnl (prt _ _ 0) false] = _
    congr 2
    show List.take (((l.length + 1 : Nat) : Int)).toNat (List.drop 0 (nct _ (l.length + 1))) = _
    rw [List.drop_zero, Int.toNat_natCast]
    exact List.take_of_length_le (by rw [nct_len]; exact Nat.le_refl _)
  show jns (gnw _ _ 1) = t
  rw [e, jns_one]
  show nnm (ctO _) = t
  rw [nct_ctO (by omega) hb, lst_cof h4, nnm_yes h1]
  obtain ⟨⟨d⟩⟩ := t
  show (⟨(nnl l).toArray⟩ : ByteArray) = _
  rw [ht]

end Go.Proofs.YtkjimilapgkajabDoor

namespace Go.Proofs.YtkjimilapgkajabDoor
open Go.RowKit
set_option maxRecDepth 100000
set_option linter.unusedVariables false

def contsB (n : Nat) : List ByteArray := (conts n).map fun l => ⟨l.toArray⟩
/-- three ways behind each of the first k -/
def ext3 (ls : List ByteArray) : List ByteArray := ls.flatMap fun x => [x ++ ⟨#[117]⟩, x ++ ⟨#[100]⟩, x ++ ⟨#[115]⟩]
theorem ext3_snoc (ls : List ByteArray) (x : ByteArray) : ext3 (ls ++ [x]) = ext3 ls ++ [x ++ ⟨#[117]⟩, x ++ ⟨#[100]⟩, x ++ ⟨#[115]⟩] := by
  simp [ext3, List.flatMap_append]
theorem ext3_len (ls : List ByteArray) : (ext3 ls).length = 3 * ls.length := by
  induction ls with
  | nil => rfl
  | cons x r ih => unfold ext3 at ih ⊢; rw [List.flatMap_cons, List.length_append, ih, List.length_cons]; simp; omega
theorem app1 (x : ByteArray) (c : UInt8) : (x ++ (⟨#[c]⟩ : ByteArray)) = ⟨(x.data.toList ++ [c]).toArray⟩ := by
  obtain ⟨⟨d⟩⟩ := x
  rw [ByteArray.mk_append_mk]
theorem contsB_succ (n : Nat) : contsB (n + 1) = ext3 (contsB n) := by
  unfold contsB ext3
  show ((conts n).flatMap fun l => [l ++ [117], l ++ [100], l ++ [115]]).map _ = _
  rw [List.map_flatMap, List.flatMap_map]
  congr 1
theorem contsB_len : ∀ n, n ≤ 3 → (contsB n).length ≤ 27 := by
  intro n h
  have : n = 0 ∨ n = 1 ∨ n = 2 ∨ n = 3 := by omega
  rcases this with rfl | rfl | rfl | rfl <;> decide
theorem contsB_size : ∀ n, n ≤ 3 → ∀ x ∈ contsB n, x.size ≤ 3 := by
  intro n h
  have : n = 0 ∨ n = 1 ∨ n = 2 ∨ n = 3 := by omega
  rcases this with rfl | rfl | rfl | rfl <;> decide +kernel

/-- a list of words that a call has built -/
def JBuiltN (w : World) (ws : List ByteArray) (e : Ending) (w' : World) : Prop := ∃ v, e = .returned v ∧ JRow w' w.heap.size v ws ∧ Below w.heap.size w w'
theorem JRow.flat {w : World} {base : Nat} {v : Value} {ws : List ByteArray} (h : JRow w base v ws) : ∃ a c, v = .slice a ws.length c ∧ (0 < ws.length → ∃ g, a = some ⟨g, 0, none⟩ ∧ base ≤ g ∧ g < w.heap.size ∧ ∀ i x, ws[i]? = some x → w.cell? ⟨g, i, none⟩ = some (.string x)) := by
  rcases id h with ⟨_, ⟨rfl, hz⟩ | ⟨g, cap, cur, rfl, hg, hh, hc, hmx, hsz, htk⟩⟩
  · have hwe : ws = [] := List.eq_nil_of_length_eq_zero hz
    subst hwe
    exact ⟨none, 0, rfl, fun h => by simp at h⟩
  · refine ⟨_, cap, rfl, fun _ => ⟨g, rfl, hg, (World.ownsRow.lt h g rfl).2, fun i x hx => ?_⟩⟩
    have h1 : (ws.map Value.string)[i]? = some (.string x) := by rw [List.getElem?_map, hx]; rfl
    have h2 := World.ownsRow.cells h (g := g) rfl i _ h1
    rw [Go.WideShapes.add_plain, Nat.zero_add] at h2
    exact h2

set_option maxRecDepth 100000 in
set_option maxHeartbeats 8000000 in
theorem l3Contours_any : ∀ (n : Nat), n ≤ 3 → ∀ w : World, Calls Tryd.prog 83 #[.int .i64 (n : Int)] w (JBuiltN w (contsB n)) := by
  intro n
  induction n with
  | zero =>
    intro _ w
    have HE : Hid (JBuiltN w (contsB 0) (.returned (.slice (some ⟨w.heap.size, 0, none⟩) 1 1)) (w.alloc (.cells #[.string ⟨#[]⟩] 9))) :=
      ⟨_, rfl, ⟨rfl, .inr ⟨w.heap.size, 1, #[.string ⟨#[]⟩], rfl, Nat.le_refl _, heap_alloc_new w _, by decide, by unfold maxLen; decide, by simp, by simp [contsB, conts]⟩⟩, (Below.refl _ _).alloc (Nat.le_refl _) _⟩
    go_enter Tryd.func83, Tryd.ntmps83
    go_wp2
    go_ret
    exact HE.out
  | succ n ih =>
    intro hn w
    obtain ⟨i0, hi, hq0, hq1, hq2⟩ := info_parts infoStrJ
    rw [show ((n + 1 : Nat) : Int) = (n : Int) + 1 by omega]
    have g0 : ((n : Int) + 1 == 0) = false := by simp; omega
    have s1 : IntKind.i64.wrap ((n : Int) + 1 - 1) = (n : Int) := by rw [show (n : Int) + 1 - 1 = (n : Int) by omega]; exact IntWalk.i64_in _ (by omega)
    have HIH := Lib.hid (ih (by omega))
    have hL := contsB_len n (by omega)
    have HZ := Lib.hid (contsB_size n (by omega))
    have HS := Lib.hid (contsB_succ n)
    clear ih
    go_enter Tryd.func83, Tryd.ntmps83
    go_wp2_with (fail)
    (go_at_call 83; refine (HIH.out _).mono ?_; rintro e w1 ⟨v, rfl, hr1, hb1⟩)
    have hown0 : JRow w1 w.heap.size (.slice (some ⟨w.heap.size, 0, none⟩) 0 0) [] := (JRow.start w w (Below.refl _ _)).below hb1
    have hb1w : Below w.heap.size w w1 := ((Below.refl _ _).alloc (Nat.le_refl _) _).trans (hb1.mono (by simp))
    have hz1 : w.heap.size < w1.heap.size := by have := hb1.size; simp at this; omega
    obtain ⟨a, c, rfl, fl⟩ := hr1.flat
    have FL := Lib.hid fl
    have HR1 := Lib.hid hr1
    have HB1 := Lib.hid hb1w
    have HO0 := Lib.hid hown0
    generalize contsB n = ls at FL HR1 hL HZ HS
    clear fl hr1 hb1 hb1w hown0 HIH
    obtain ⟨L, hLe⟩ : ∃ L, ls.length = L := ⟨_, rfl⟩
    rw [hLe] at FL hL ⊢
    have HL := Lib.hid hLe
    clear hLe
    go_wp2
    go_loopw [3, 5] (fun o i wr => ∃ k : Nat, k ≤ L ∧ i = .int .i64 k ∧ JRow wr w.heap.size o (ext3 (ls.take k)) ∧ Below w.heap.size w wr ∧ (0 < L → ∃ g, a = some ⟨g, 0, none⟩ ∧ w.heap.size < g ∧ g < wr.heap.size ∧ o.ownBlock ≠ some g ∧ ∀ i x, ls[i]? = some x → wr.cell? ⟨g, i, none⟩ = some (.string x))) (fun _ i _ => L - (intOf i).toNat)
    case atStart => exact ⟨0, Nat.zero_le _, rfl, HO0.out, HB1.out, fun h => by
      obtain ⟨g, e, h1, h2, h3⟩ := FL.out h
      simp at h1
      exact ⟨g, e, by omega, h2, by simp [Value.ownBlock]; omega, h3⟩⟩
    case round =>
      obtain ⟨k, hk, rfl, hJ, hb, hG⟩ := hrel
      by_cases hlt : k < L
      · obtain ⟨g, rfl, hg0, hg1, hne, hc⟩ := hG (by omega)
        have hkl : k < ls.length := by rw [HL.out]; exact hlt
        have hx : ls[k]? = some ls[k] := List.getElem?_eq_getElem hkl
        have e0 := hc k _ hx
        have hxs := HZ.out ls[k] (List.mem_of_getElem? hx)
        have HTk : Hid (ls.take (k + 1) = ls.take k ++ [ls[k]]) := by show _ = _; rw [List.take_add_one, hx]; rfl
        have HC := Lib.hid hc
        have hlen : (ext3 (ls.take k)).length ≤ 81 := by rw [ext3_len, List.length_take]; omega
        have k0 : (0 : Int) ≤ (k : Int) := by omega
        have k1 : (k : Int) < (L : Int) := by omega
        clear hc hG hx HO0
        generalize ls[k] = x at e0 hxs HTk
        generalize hws : ext3 (ls.take k) = ws at hJ hlen
        have HW := Lib.hid hws
        clear hws
        have hadd1 : ∀ W : World, (Op.stringOp .add x ⟨#[117]⟩).run Tryd.prog W = .ok (.string (x ++ ⟨#[117]⟩)) W := fun W => run_string_add_sum W _ _ (by show x.size + 1 ≤ 9223372036854775807; omega)
        have hadd2 : ∀ W : World, (Op.stringOp .add x ⟨#[100]⟩).run Tryd.prog W = .ok (.string (x ++ ⟨#[100]⟩)) W := fun W => run_string_add_sum W _ _ (by show x.size + 1 ≤ 9223372036854775807; omega)
        have hadd3 : ∀ W : World, (Op.stringOp .add x ⟨#[115]⟩).run Tryd.prog W = .ok (.string (x ++ ⟨#[115]⟩)) W := fun W => run_string_add_sum W _ _ (by show x.size + 1 ≤ 9223372036854775807; omega)
        have hbs := hb.size
        have HB := Lib.hid hb
        have HE3 : Hid (ext3 (ls.take (k + 1)) = ws ++ [x ++ ⟨#[117]⟩, x ++ ⟨#[100]⟩, x ++ ⟨#[115]⟩]) := by show _ = _; rw [HTk.out, ext3_snoc, HW.out]
        generalize x ++ (⟨#[117]⟩ : ByteArray) = x1 at hadd1 HE3
        generalize x ++ (⟨#[100]⟩ : ByteArray) = x2 at hadd2 HE3
        generalize x ++ (⟨#[115]⟩ : ByteArray) = x3 at hadd3 HE3
        clear hb HTk HW
        go_wp2
        go_region_held3 (fun wx => wx.cell? ⟨g, k, none⟩ = some (.string x)) (first | go_keep | (rw [hgrow.cell_far _ (by simp; omega) (Ne.symm hne)]; assumption))
          ((refine step_append_lies _ (by rfl) _ _ _ (by rfl) w.heap.size 9 i0 (.string ⟨#[]⟩) 1 16 Tryd.underlying102 hi hq0 hq1 hq2 rfl (by omega) _ ws.length (ws.map Value.string) (by rfl) ((World.ownsRow.alloc hJ _).drew)
                ⟨wr.heap.size, 0, none⟩ 3 3 [.string x1, .string x2, .string x3] (by rfl) (by rfl) (World.news_of_block (cs := #[.string x1, .string x2, .string x3]) (t := 9) (fr := (0, 0)) (heap_alloc_new wr _)) (by simp [Value.oneCell'])
                (by omega) (by unfold maxLen; omega) (by omega) (by simp; omega) (wr.heap.size + 1) (by simp) ?_; intro gg cap w3 hown3 hgrow hat hltg))
        have HJ : Hid (JRow w3 w.heap.size (.slice (some ⟨gg, 0, none⟩) (ws.length + 3) cap) (ext3 (ls.take (k + 1)))) := by
          show JRow _ _ _ _
          rw [HE3.out]
          unfold JRow
          rw [List.map_append, List.length_append]
          exact hown3
        have HBN : Hid (Below w.heap.size w w3) := ((HB.out.alloc hbs _).drew).grown hgrow (by show w.heap.size ≤ (wr.alloc _).heap.size; simp; omega) (fun k hk => (World.ownsRow.lt hJ k hk).1)
        have HGN : Hid (∃ g', some (⟨g, 0, none⟩ : Addr) = some ⟨g', 0, none⟩ ∧ w.heap.size < g' ∧ g' < w3.heap.size ∧ (Value.slice (some ⟨gg, 0, none⟩) (ws.length + 3) cap).ownBlock ≠ some g' ∧ ∀ i x, ls[i]? = some x → w3.cell? ⟨g', i, none⟩ = some (.string x)) := by
          refine ⟨g, rfl, hg0, ?_, ?_, fun i x hx => ?_⟩
          · have h1 : (wr.alloc (.cells #[.string x1, .string x2, .string x3] 9)).heap.size ≤ w3.heap.size := hgrow.size
            simp at h1
            omega
          · intro e
            have e' : gg = g := by simpa [Value.ownBlock] using e
            rcases hat with h | h
            · exact hne (by rw [h, e'])
            · omega
          · exact (hgrow.cell_far _ (by simp; omega) (Ne.symm hne)).trans ((((Below.refl wr.heap.size wr).alloc (Nat.le_refl _) _).drew.cell (p := ⟨g, i, none⟩) hg1).trans (HC.out i x hx))
        clear hown3 hgrow hat hltg
        go_wp2
        go_roundw
        case rel => exact ⟨k + 1, by omega, by go_num, HJ.out, HBN.out, fun _ => HGN.out⟩
        case measure => simp [intOf]; omega
      · have hke : k = L := by omega
        subst hke
        have HE : Hid (JBuiltN w (ext3 ls) (.returned _) wr) := ⟨_, rfl, by rw [List.take_of_length_le (by rw [HL.out]; exact Nat.le_refl _)] at hJ; exact hJ, hb⟩
        clear hJ hG
        go_wp2
        go_ret
        rw [HS.out]
        exact HE.out

/-- no contour of less than k ways has the name -/
def NoN (s : ByteArray) (k : Nat) : Prop := ∀ m, m < k → ∀ l ∈ conts m, nnl l ≠ s.data.toList
def NoJ (s : ByteArray) (k j : Nat) : Prop := ∀ i l, i < j → (conts k)[i]? = some l → nnl l ≠ s.data.toList
theorem NoN.next {s : ByteArray} {k : Nat} (h : NoN s k) (hj : NoJ s k (conts k).length) : NoN s (k + 1) := by
  intro m hm l hl
  by_cases e : m = k
  · subst e
    obtain ⟨i, hi, rfl⟩ := List.getElem_of_mem hl
    exact hj i _ hi (List.getElem?_eq_getElem hi)
  · exact h m (by omega) l hl
theorem NoJ.next {s : ByteArray} {k j : Nat} {l : List UInt8} (h : NoJ s k j) (hl : (conts k)[j]? = some l) (hn : nnl l ≠ s.data.toList) : NoJ s k (j + 1) := by
  intro i m hi hm
  by_cases e : i = j
  · subst e; rw [hl] at hm; injection hm with hm; subst hm; exact hn
  · exact h i m (by omega) hm
theorem NoN.all {s : ByteArray} (h : NoN s 4) : ncn s = (⟨#[]⟩, false) := ncn_miss fun l hl => by
  unfold allC at hl
  simp only [List.mem_append] at hl
  rcases hl with ((hl | hl) | hl) | hl
  · exact h 0 (by omega) l hl
  · exact h 1 (by omega) l hl
  · exact h 2 (by omega) l hl
  · exact h 3 (by omega) l hl
theorem conts_all {k : Nat} (hk : k < 4) {l : List UInt8} (h : l ∈ conts k) : l ∈ allC := by
  unfold allC
  simp only [List.mem_append]
  have : k = 0 ∨ k = 1 ∨ k = 2 ∨ k = 3 := by omega
  rcases this with rfl | rfl | rfl | rfl
  · exact .inl (.inl (.inl h))
  · exact .inl (.inl (.inr h))
  · exact .inl (.inr h)
  · exact .inr h

set_option maxRecDepth 100000 in
set_option maxHeartbeats 8000000 in
theorem sNeumeContour_any (s : ByteArray) (w : World) :
    Calls Tryd.prog 34 #[.string s] w fun e w' => e = .returned (.tuple #[.string (ncn s).1, .bool (ncn s).2]) ∧ Below w.heap.size w w' := by
  go_enter Tryd.func34, Tryd.ntmps34
  go_wp2
  go_loopw [4] (fun i wr => ∃ k : Nat, k ≤ 4 ∧ i = .int .i64 k ∧ Hid (NoN s k) ∧ Below w.heap.size w wr) (fun i _ => 4 - (intOf i).toNat)
  case atStart => exact ⟨0, by omega, rfl, (fun m hm => by omega), Below.refl _ _⟩
  case round =>
    obtain ⟨k, hk, rfl, HN, hb⟩ := hrel
    by_cases hlt : k < 4
    · have k0 : (0 : Int) ≤ (k : Int) := by omega
      have k1 : (k : Int) < 4 := by omega
      have hL := contsB_len k (by omega)
      have HZ := Lib.hid (contsB_size k (by omega))
      obtain ⟨wo, hwo⟩ : ∃ wo : World, wo = wr := ⟨_, rfl⟩
      subst hwo
      have HB := Lib.hid hb
      go_wp2_with (fail)
      (go_at_call 83; refine (l3Contours_any k (by omega) _).mono ?_; rintro e w1 ⟨v, rfl, hr1, hb1⟩)
      obtain ⟨a, c, rfl, fl⟩ := hr1.flat
      have FL := Lib.hid fl
      have HB1 := Lib.hid (bl_step hb hb1)
      obtain ⟨L, hLe⟩ : ∃ L, (contsB k).length = L := ⟨_, rfl⟩
      have hLc : (conts k).length = L := by rw [← hLe]; unfold contsB; rw [List.length_map]
      rw [hLe] at FL hL ⊢
      have HL := Lib.hid hLe
      have HLC := Lib.hid hLc
      clear fl hr1 hb1 hb hLe hLc
      go_wp2
      go_loopw [6] (fun i wr => ∃ j : Nat, j ≤ L ∧ i = .int .i64 j ∧ Hid (NoJ s k j) ∧ Below w1.heap.size w1 wr) (fun i _ => L - (intOf i).toNat)
      case atStart => exact ⟨0, Nat.zero_le _, rfl, (fun i l hi => by omega), by first | exact Below.refl _ _ | exact ⟨rfl, rfl, rfl, Nat.le_refl _, fun _ _ _ => rfl⟩⟩
      case round =>
        obtain ⟨j, hj, rfl, HJ, hb⟩ := hrel
        by_cases hjl : j < L
        · have hjc : j < (conts k).length := by rw [HLC.out]; exact hjl
          have hl : (conts k)[j]? = some (conts k)[j] := List.getElem?_eq_getElem hjc
          have hm : (conts k)[j] ∈ allC := conts_all hlt (List.getElem_mem hjc)
          obtain ⟨g, rfl, _, hgs, hc⟩ := FL.out (by omega)
          have hx : (contsB k)[j]? = some ⟨((conts k)[j]).toArray⟩ := by unfold contsB; rw [List.getElem?_map, hl]; rfl
          have e0 := (hb.cell (p := ⟨g, j, none⟩) hgs).trans (hc j _ hx)
          have hxs := HZ.out _ (List.mem_of_getElem? hx)
          have j0 : (0 : Int) ≤ (j : Int) := by omega
          have j1 : (j : Int) < (L : Int) := by omega
          have hgr : g < wr.heap.size := Nat.lt_of_lt_of_le hgs hb.size
          have HBr := Lib.hid (bl_step HB1.out hb)
          have HBx := Lib.hid hb
          have hnm : nnm ⟨((conts k)[j]).toArray⟩ = ⟨(nnl (conts k)[j]).toArray⟩ := nnm_yes (allC_isn _ hm)
          have KN := fun W => sNeumeName_any ⟨((conts k)[j]).toArray⟩ (by omega) W
          rw [hnm] at KN
          have HK := Lib.hid KN
          clear KN hnm hc hx hxs hb
          by_cases he : nnl (conts k)[j] = s.data.toList
          · have HF := Lib.hid (ncn_hit hm he)
            have g1 : ((⟨(nnl (conts k)[j]).toArray⟩ : ByteArray).toList == s.toList) = true := by rw [ByteArray.toList_eq, ByteArray.toList_eq]; simpa using he
            clear he hm hl
            generalize (⟨(nnl (conts k)[j]).toArray⟩ : ByteArray) = o at HK g1
            generalize (⟨((conts k)[j]).toArray⟩ : ByteArray) = x at HK HF e0
            go_wp2_with (fail)
            (go_at_call 80; refine (HK.out _).mono ?_; rintro e w2 ⟨rfl, hb2⟩)
            have e1 := (hb2.cell (p := ⟨g, j, none⟩) hgr).trans e0
            clear e0
            go_wp2
            go_ret2
            exact ⟨by rw [HF.out]; rfl, bl_step HBr.out hb2⟩
          · have HX := Lib.hid (HJ.out.next hl he)
            have g1 : ((⟨(nnl (conts k)[j]).toArray⟩ : ByteArray).toList == s.toList) = false := by rw [ByteArray.toList_eq, ByteArray.toList_eq]; simpa using he
            clear he hm hl
            generalize (⟨(nnl (conts k)[j]).toArray⟩ : ByteArray) = o at HK g1
            generalize (⟨((conts k)[j]).toArray⟩ : ByteArray) = x at HK e0
            go_wp2_with (fail)
            (go_at_call 80; refine (HK.out _).mono ?_; rintro e w2 ⟨rfl, hb2⟩)
            clear e0
            go_wp2
            go_roundw
            case rel => exact ⟨j + 1, by omega, by go_num, HX.out, bl_step HBx.out hb2⟩
            case measure => simp [intOf]; omega
        · have hje : j = L := by omega
          subst hje
          have HX : Hid (NoN s (k + 1)) := HN.out.next (by rw [HLC.out]; exact HJ.out)
          have HBr := Lib.hid (bl_step HB1.out hb)
          go_wp2
          go_roundw
          case rel => exact ⟨k + 1, by omega, by go_num, HX.out, HBr.out⟩
          case measure => simp [intOf]; omega
    · have hke : k = 4 := by omega
      subst hke
      have HF := Lib.hid HN.out.all
      go_wp2
      go_ret2
      exact ⟨by rw [HF.out]; rfl, hb⟩

end Go.Proofs.YtkjimilapgkajabDoor

namespace Go.Proofs.YtkjimilapgkajabDoor
open Go.RowKit Go.Shelf
set_option maxRecDepth 100000
set_option linter.unusedVariables false

theorem by_take (s : ByteArray) (k : Nat) : s.extract 0 k = ⟨(s.data.toList.take k).toArray⟩ := by
  rw [Lib.extract_eq]; simp
theorem by_drop (s : ByteArray) (k : Nat) : s.extract k s.size = ⟨(s.data.toList.drop k).toArray⟩ := by
  rw [Lib.extract_eq]
  have : List.take (s.size - k) (List.drop k s.data.toList) = List.drop k s.data.toList := List.take_of_length_le (by rw [List.length_drop]; simp)
  rw [this]

set_option maxHeartbeats 4000000 in
theorem groupName_any (lo : Nat) (p : Option Addr) (ps : List (Int × Bool)) (b : Bool) (hv : mv ps = true) (hl : ps.length ≤ 4) (w : World) (h : Mel w lo p ps) (ht : NeuTab w) :
    Calls Tryd.prog 87 #[.agg #[.pointer p, .bool b]] w fun e w' => e = .returned (.string (gnl ps b)) ∧ Below w.heap.size w w' := by
  have hwl : (wys ps).length ≤ 100 := by have := wys_len ps; omega
  have KC := Lib.hid (fun W hm => callsIn_wide.1 (contour_in 3 (Nat.le_refl _) lo p ps hwl W hm))
  have hct : (⟨(wys ps).toArray⟩ : ByteArray) = ctO ps := by rw [ctO_wys, mvl_yes hv]
  rw [hct] at KC
  have KN := Lib.hid (fun W hW => neumeName_any (ctO ps) W hW)
  have hN := nm_ok hv hl
  have HM := Lib.hid h
  have HT := Lib.hid ht
  clear hct hwl h ht hv hl
  cases b
  · have hg : gnl ps false = nnm (ctO ps) := rfl
    rw [hg]
    clear hg hN
    generalize nnm (ctO ps) = N at KN ⊢
    generalize ctO ps = c at KC KN
    go_enter Tryd.func87, Tryd.ntmps87
    go_wp2_with (fail)
    go_at_call 72; refine (KC.out _ (HM.out.below (by (repeat' (first | (with_reducible assumption) | (with_reducible exact Below.refl _ _) | (with_reducible refine Below.alloc ?_ ?_ _) | (with_reducible refine Below.drew ?_) | (with_reducible refine Below.setCell ?_ ?_ _) | (with_reducible refine below_gb ?_ (by assumption) ?_) | (with_reducible refine bl_step ?_ (by assumption)) | go_size))))).mono ?_; rintro e w1 ⟨rfl, hb1⟩; obtain ⟨hc1, hf1, hz1⟩ := bl hb1; (try simp at hz1); (try (refine got (p := w.heap.size < w1.heap.size) ?_ ?_; (focus (go_size; done)); intro q1_w0)); (try (refine got (p := w1.cell? ⟨w.heap.size, 0, none⟩ = some (.pointer p)) ?_ ?_; (focus (refine (hc1 _ _ ?_).trans ?_; (focus (go_size; done)); go_simp; done)); intro c1_w0_0)); (try (refine got (p := w1.cell? ⟨w.heap.size, 1, none⟩ = some (.bool false)) ?_ ?_; (focus (refine (hc1 _ _ ?_).trans ?_; (focus (go_size; done)); go_simp; done)); intro c1_w0_1)); (try (refine got (p := ∀ o, w1.frozen? ⟨w.heap.size, o, none⟩ = false) ?_ ?_; (focus (intro o; refine (hf1 _ _ ?_).trans ?_; (focus (go_size; done)); go_simp; done)); intro f1_w0)); clear hc1 hf1
    go_wp2_with (fail)
    go_at_call 36; refine (KN.out _ (HT.out.below (by (repeat' (first | (with_reducible assumption) | (with_reducible exact Below.refl _ _) | (with_reducible refine Below.alloc ?_ ?_ _) | (with_reducible refine Below.drew ?_) | (with_reducible refine Below.setCell ?_ ?_ _) | (with_reducible refine below_gb ?_ (by assumption) ?_) | (with_reducible refine bl_step ?_ (by assumption)) | go_size))))).mono ?_; rintro e w2 ⟨rfl, hb2⟩; obtain ⟨hc2, hf2, hz2⟩ := bl hb2; (try simp at hz2); (try (refine got (p := w.heap.size < w2.heap.size) ?_ ?_; (focus (go_size; done)); intro q2_w0)); (try (refine got (p := w2.cell? ⟨w.heap.size, 0, none⟩ = some (.pointer p)) ?_ ?_; (focus (refine (hc2 _ _ ?_).trans ?_; (focus (go_size; done)); go_simp; done)); intro c2_w0_0)); (try (refine got (p := w2.cell? ⟨w.heap.size, 1, none⟩ = some (.bool false)) ?_ ?_; (focus (refine (hc2 _ _ ?_).trans ?_; (focus (go_size; done)); go_simp; done)); intro c2_w0_1)); (try (refine got (p := ∀ o, w2.frozen? ⟨w.heap.size, o, none⟩ = false) ?_ ?_; (focus (intro o; refine (hf2 _ _ ?_).trans ?_; (focus (go_size; done)); go_simp; done)); intro f2_w0)); clear hc2 hf2
    go_wp2
    go_ret
    exact ⟨rfl, by (repeat' (first | (with_reducible assumption) | (with_reducible exact Below.refl _ _) | (with_reducible refine Below.alloc ?_ ?_ _) | (with_reducible refine Below.drew ?_) | (with_reducible refine Below.setCell ?_ ?_ _) | (with_reducible refine below_gb ?_ (by assumption) ?_) | (with_reducible refine bl_step ?_ (by assumption)) | go_size))⟩
  · have hg : gnl ps true = ⟨(capL (nnm (ctO ps)).data.toList).toArray⟩ := rfl
    rw [hg]
    clear hg
    generalize nnm (ctO ps) = N at KN hN ⊢
    generalize ctO ps = c at KC KN
    obtain ⟨n1, n9, nas, _, _, ncap⟩ := hN
    have KU : ∀ W : World, Calls Tryd.prog 119 #[.string (N.extract 0 1)] W fun e w' => e = .returned (.string ⟨(Lib.toUpperA (N.data.toList.take 1)).toArray⟩) ∧ Below W.heap.size W w' := fun W => by
      have := Tryd.strings_ToUpper_ascii (N.extract 0 1) W (by rw [ByteArray.size_extract]; omega) (fun j b hb => by
        rw [by_take] at hb
        exact nas b (List.mem_of_mem_take (List.mem_of_getElem? hb)))
      rw [by_take] at this ⊢
      exact this
    have HU := Lib.hid KU
    have hadd : ∀ W : World, (Op.stringOp .add (⟨(Lib.toUpperA (N.data.toList.take 1)).toArray⟩ : ByteArray) (N.extract 1 N.size)).run Tryd.prog W = .ok (.string ⟨(capL N.data.toList).toArray⟩) W := fun W => by
      have e : (⟨(Lib.toUpperA (N.data.toList.take 1)).toArray⟩ : ByteArray) ++ N.extract 1 N.size = ⟨(capL N.data.toList).toArray⟩ := by
        rw [by_drop, ByteArray.mk_append_mk, ← ncap]; (try simp)
      rw [← e]
      refine run_string_add_sum W _ _ ?_
      rw [ByteArray.size_extract]
      have : (⟨(Lib.toUpperA (N.data.toList.take 1)).toArray⟩ : ByteArray).size ≤ 1 := by
        show (Lib.toUpperA (N.data.toList.take 1)).toArray.size ≤ 1
        rw [List.size_toArray]; unfold Lib.toUpperA; rw [List.length_map, List.length_take]; omega
      omega
    clear KU ncap nas
    generalize (⟨(Lib.toUpperA (N.data.toList.take 1)).toArray⟩ : ByteArray) = U at HU hadd
    generalize (⟨(capL N.data.toList).toArray⟩ : ByteArray) = C at hadd ⊢
    have k1 : (1 : Int) ≤ (N.size : Int) := by omega
    go_enter Tryd.func87, Tryd.ntmps87
    go_wp2_with (fail)
    go_at_call 72; refine (KC.out _ (HM.out.below (by (repeat' (first | (with_reducible assumption) | (with_reducible exact Below.refl _ _) | (with_reducible refine Below.alloc ?_ ?_ _) | (with_reducible refine Below.drew ?_) | (with_reducible refine Below.setCell ?_ ?_ _) | (with_reducible refine below_gb ?_ (by assumption) ?_) | (with_reducible refine bl_step ?_ (by assumption)) | go_size))))).mono ?_; rintro e w1 ⟨rfl, hb1⟩; obtain ⟨hc1, hf1, hz1⟩ := bl hb1; (try simp at hz1); (try (refine got (p := w.heap.size < w1.heap.size) ?_ ?_; (focus (go_size; done)); intro q1_w0)); (try (refine got (p := w1.cell? ⟨w.heap.size, 0, none⟩ = some (.pointer p)) ?_ ?_; (focus (refine (hc1 _ _ ?_).trans ?_; (focus (go_size; done)); go_simp; done)); intro c1_w0_0)); (try (refine got (p := w1.cell? ⟨w.heap.size, 1, none⟩ = some (.bool true)) ?_ ?_; (focus (refine (hc1 _ _ ?_).trans ?_; (focus (go_size; done)); go_simp; done)); intro c1_w0_1)); (try (refine got (p := ∀ o, w1.frozen? ⟨w.heap.size, o, none⟩ = false) ?_ ?_; (focus (intro o; refine (hf1 _ _ ?_).trans ?_; (focus (go_size; done)); go_simp; done)); intro f1_w0)); clear hc1 hf1
    go_wp2_with (fail)
    go_at_call 36; refine (KN.out _ (HT.out.below (by (repeat' (first | (with_reducible assumption) | (with_reducible exact Below.refl _ _) | (with_reducible refine Below.alloc ?_ ?_ _) | (with_reducible refine Below.drew ?_) | (with_reducible refine Below.setCell ?_ ?_ _) | (with_reducible refine below_gb ?_ (by assumption) ?_) | (with_reducible refine bl_step ?_ (by assumption)) | go_size))))).mono ?_; rintro e w2 ⟨rfl, hb2⟩; obtain ⟨hc2, hf2, hz2⟩ := bl hb2; (try simp at hz2); (try (refine got (p := w.heap.size < w2.heap.size) ?_ ?_; (focus (go_size; done)); intro q2_w0)); (try (refine got (p := w2.cell? ⟨w.heap.size, 0, none⟩ = some (.pointer p)) ?_ ?_; (focus (refine (hc2 _ _ ?_).trans ?_; (focus (go_size; done)); go_simp; done)); intro c2_w0_0)); (try (refine got (p := w2.cell? ⟨w.heap.size, 1, none⟩ = some (.bool true)) ?_ ?_; (focus (refine (hc2 _ _ ?_).trans ?_; (focus (go_size; done)); go_simp; done)); intro c2_w0_1)); (try (refine got (p := ∀ o, w2.frozen? ⟨w.heap.size, o, none⟩ = false) ?_ ?_; (focus (intro o; refine (hf2 _ _ ?_).trans ?_; (focus (go_size; done)); go_simp; done)); intro f2_w0)); clear hc2 hf2
    go_wp2
    have hbw : Below w.heap.size w w2 := by (repeat' (first | (with_reducible assumption) | (with_reducible exact Below.refl _ _) | (with_reducible refine Below.alloc ?_ ?_ _) | (with_reducible refine Below.drew ?_) | (with_reducible refine Below.setCell ?_ ?_ _) | (with_reducible refine below_gb ?_ (by assumption) ?_) | (with_reducible refine bl_step ?_ (by assumption)) | go_size))
    go_region_with (go_at_call 119; refine (HU.out _).mono ?_; rintro e w3 ⟨rfl, hb3⟩)
    all_goals
      go_wp2
      go_ret
      exact ⟨rfl, by (repeat' (first | (with_reducible assumption) | (with_reducible exact Below.refl _ _) | (with_reducible refine Below.alloc ?_ ?_ _) | (with_reducible refine Below.drew ?_) | (with_reducible refine bl_drewN ?_ _) | (with_reducible refine Below.setCell ?_ ?_ _) | (with_reducible refine bl_step ?_ (by assumption)) | go_size))⟩

theorem NgInv.app2 {w w2 w3 : World} {r v : Value} {xs gs : List (Int × Bool)} {ps : List (Option Addr × Bool)} {n : Nat} {zs : List Value} {o : Obj} (h : NgInv w w2 r xs gs ps) (hown : w2.ownsRow w.heap.size 9 1 v n zs)
    (hg : (w2.alloc o).grownBy w3 v.ownBlock) (hB : Below w.heap.size w w3) : NgInv w w3 r xs gs ps := by
  refine ⟨?_, h.made.keep fun p ys hm => hm.app (by decide) hown hg, hB⟩
  obtain ⟨hl, h0 | ⟨g, cap, cur, hr, hgb, hh, rest⟩⟩ := h.own
  · exact ⟨hl, .inl h0⟩
  · exact ⟨hl, .inr ⟨g, cap, cur, hr, hgb, app_blk (by decide) hh hown hg, rest⟩⟩
def GnInv (w wr : World) (v : Value) (ws : List ByteArray) : Prop := JRow wr w.heap.size v ws ∧ Below w.heap.size w wr

set_option maxRecDepth 100000 in
set_option maxHeartbeats 8000000 in
theorem groupsNames_any (lo hi lo' hi' : Nat) (v u : Value) (xs gs : List (Int × Bool)) (w : World) (h : TRow w lo hi v xs) (g : GRow w lo' hi' u gs) (ht : NeuTab w) :
    Calls Tryd.prog 37 #[v, u] w fun e w' => e = .returned (.string (gnm xs gs)) ∧ Below w.heap.size w w' := by
  obtain ⟨i0, hi0, hq0, hq1, hq2⟩ := info_parts infoStrJ
  by_cases hv : gv xs gs = false
  · rw [gnm_no hv]
    go_enter Tryd.func37, Tryd.ntmps37
    go_wp2_with (fail)
    (go_at_call 86; refine (newGroups_any lo hi lo' hi' v u xs gs _ h g).mono ?_; rintro e w1 ⟨r, rfl, hb1, h1, h2⟩)
    have hr := h2 hv
    subst hr
    rw [hv]
    have HJ := Lib.hid (JRow.start w w1 hb1)
    have HB0 := Lib.hid (hb1.alloc hb1.size (.cells #[] 9))
    have HJO := Lib.hid (HJ.out.join (by simp [jnw, Lib.join_nil]) (by simp))
    clear h1 h2 h g hb1
    go_wp2
    refine wp_loop_rounds 1 ?_
    repeat any_goals (rw [rounds_succ]; go_wp2_with (fail))
    (go_at_call 68; refine (HJO.out).mono ?_; rintro e w2 ⟨rfl, hb2⟩)
    go_wp2
    go_ret
    exact ⟨rfl, bl_step HB0.out hb2⟩
  rw [Bool.not_eq_false] at hv
  have HV := Lib.hid hv
  have HT := Lib.hid ht
  have HG := Lib.hid (gnm_yes hv)
  obtain ⟨L, hL⟩ : ∃ L, gs.length = L := ⟨_, rfl⟩
  have hL24 : L ≤ 24 := by rw [← hL]; exact (gv_len hv).1
  have KN := Lib.hid (fun lo p j b (hj : j < gs.length) W hW hT => groupName_any lo p (prt xs gs j) b (gp_ok hv hj).1 (gp_ok hv hj).2.1 W hW hT)
  go_enter Tryd.func37, Tryd.ntmps37
  go_wp2_with (fail)
  (go_at_call 86; refine (newGroups_any lo hi lo' hi' v u xs gs _ h g).mono ?_; rintro e w1 ⟨r, rfl, hb1, h1, h2⟩)
  obtain ⟨ps, hl, hI⟩ := h1 hv
  rw [hv]
  have hI1 : NgInv w (w1.alloc (.cells #[] 9)) r xs gs ps := hI.below ((Below.refl _ _).alloc (Nat.le_refl _) _)
  have HI := Lib.hid hI1
  obtain ⟨ra, rc, hra, hrc⟩ : ∃ a c, r = .slice a L c ∧ (0 < L → ∃ g', a = some ⟨g', 0, none⟩ ∧ w.heap.size ≤ g' ∧ g' < w1.heap.size) := by
    have hown := hI.own
    rw [hl, hL] at hown
    rcases hown.2 with ⟨rfl, h0⟩ | ⟨g', cap, cur, rfl, hg', hh, _⟩
    · rw [h0]; exact ⟨none, 0, rfl, fun h => by omega⟩
    · refine ⟨_, _, rfl, fun _ => ⟨g', rfl, hg', ?_⟩⟩
      rcases Nat.lt_or_ge g' w1.heap.size with h | h
      · exact h
      · rw [Array.getElem?_eq_none h] at hh; cases hh
  subst hra
  have HJ := Lib.hid (JRow.start w w1 hb1)
  have HB0 := Lib.hid (hb1.alloc hb1.size (.cells #[] 9))
  have HPL := Lib.hid (hl.trans hL)
  have HRC := Lib.hid hrc
  have HL := Lib.hid hL
  clear h1 h2 h g ht hI hI1 hv hrc hl hL
  go_wp2
  go_loopw [7, 19] (fun o i wr => ∃ j : Nat, j ≤ L ∧ i = .int .i64 j ∧ JRow wr w.heap.size o (gnw xs gs j) ∧ NgInv w wr (.slice ra L rc) xs gs ps ∧ Below w.heap.size w wr) (fun _ i _ => L - (intOf i).toNat)
  case atStart => exact ⟨0, Nat.zero_le _, rfl, HJ.out, HI.out, HB0.out⟩
  case round =>
    obtain ⟨j, hj, rfl, hJ, hN, hb⟩ := hrel
    clear HI HJ HB0 hb1
    by_cases hlt : j < L
    · have hjg : j < gs.length := by rw [HL.out]; exact hlt
      obtain ⟨p, b, hp, hbb, hM⟩ := hN.made j (by rw [HPL.out]; exact hlt)
      obtain ⟨c1, c2⟩ := pcs_get hp
      obtain ⟨g', rfl, hg1, hg2⟩ := HRC.out (by omega)
      have e1 := hN.own.cells (g := g') rfl _ _ c1
      have e2 := hN.own.cells (g := g') rfl _ _ c2
      simp only [Go.WideShapes.add_plain, Nat.zero_add] at e1 e2
      have hgr := (hN.own.lt g' rfl).2
      have hmj := (gp_ok HV.out hjg).1
      rw [mvl_yes hmj] at hM
      have HX := Lib.hid (gnw_succ xs gs j)
      rw [← hbb] at HX
      have hln := gnw_len xs gs j
      have KNj := Lib.hid (fun W hW hT => KN.out w.heap.size p j b hjg W hW hT)
      generalize gnl (prt xs gs j) b = nm at HX KNj
      generalize hws : gnw xs gs j = ws at hJ hln HX
      have HNg := Lib.hid hN
      have HM := Lib.hid hM
      have HJh := Lib.hid hJ
      have j0 : (0 : Int) ≤ (j : Int) := by omega
      have j1 : (j : Int) < (L : Int) := by omega
      have zr := hb.size
      clear hws hp hbb c1 c2 hmj hN hM hJ hjg
      go_wp2_with (fail)
      (go_at_call 87; refine (KNj.out _ (HM.out.below (by (repeat' (first | (with_reducible assumption) | (with_reducible exact Below.refl _ _) | (with_reducible refine Below.alloc ?_ ?_ _) | (with_reducible refine Below.drew ?_) | (with_reducible refine Below.setCell ?_ ?_ _) | (with_reducible refine below_gb ?_ (by assumption) ?_) | (with_reducible refine bl_step ?_ (by assumption)) | go_size)))) (HT.out.below (by (repeat' (first | (with_reducible assumption) | (with_reducible exact Below.refl _ _) | (with_reducible refine Below.alloc ?_ ?_ _) | (with_reducible refine Below.drew ?_) | (with_reducible refine Below.setCell ?_ ?_ _) | (with_reducible refine below_gb ?_ (by assumption) ?_) | (with_reducible refine bl_step ?_ (by assumption)) | go_size))))).mono ?_; rintro e w2 ⟨rfl, hb2⟩)
      have hbr2 : Below wr.heap.size wr w2 := ((Below.refl _ _).alloc (Nat.le_refl _) _).trans (hb2.mono (by simp))
      have hJ2 := HJh.out.below hbr2
      have hN2 := Lib.hid (HNg.out.below hbr2)
      have hB2 := Lib.hid (bl_step hb hbr2)
      have zz := hB2.out.size
      have hown := hJ2
      unfold JRow at hown
      clear hb2 e1 e2
      go_wp2_with (at_builtin; refine wpList_append_own _ rfl _ _ 102 rfl w.heap.size 9 i0 (.string ⟨#[]⟩) 1 16 Tryd.underlying102 hi0 hq0 hq1 hq2 rfl (by decide) _ _ _ rfl (hown.alloc _) ⟨w2.heap.size, 0, none⟩ 1 1 [.string nm] rfl rfl jnews jnews_one (by unfold maxLen; omega) (by omega) (by simp; omega) ?_)
      intro v' w3 hown' hgrow _
      have HJ3 : Hid (JRow w3 w.heap.size v' (gnw xs gs (j + 1))) := by
        show JRow _ _ _ _
        rw [HX.out]
        refine JRow.app (x := nm) ?_
        first | exact hown' | (rw [hln]; exact hown')
      have HB3 : Hid (Below w.heap.size w w3) := (hB2.out.alloc zz _).grown hgrow (by simp; omega) (fun k hk => (hown.lt k hk).1)
      have HN3 : Hid (NgInv w w3 (.slice (some ⟨g', 0, none⟩) L rc) xs gs ps) := hN2.out.app2 hown hgrow HB3.out
      clear hown hown' hgrow hJ2
      go_wp2
      go_roundw
      case rel => exact ⟨j + 1, by omega, by go_num, HJ3.out, HN3.out, HB3.out⟩
      case measure => simp [intOf]; omega
    · have hje : j = L := by omega
      subst hje
      have HJO := Lib.hid (hJ.join (by have := gnw_size HV.out (k := j) (by rw [HL.out]; exact Nat.le_refl _); omega) (by rw [gnw_len]; omega))
      clear hN hJ
      go_wp2_with (fail)
      (go_at_call 68; refine (HJO.out).mono ?_; rintro e w2 ⟨rfl, hb2⟩)
      go_wp2
      go_ret
      exact ⟨by rw [HG.out, HL.out]; rfl, bl_step hb hb2⟩

end Go.Proofs.YtkjimilapgkajabDoor

namespace Go.Proofs.YtkjimilapgkajabDoor
open Go.RowKit Go.ChangeShapes Go.WideShapes Go.ChangeAt Go.ChangeMaps
set_option maxRecDepth 100000
set_option linter.unusedVariables false

/-- the loop of tones -/
def NtInv (w wr : World) (f : Nat → Int) (k : Nat) (v : Value) : Prop := wr.ownsRow w.heap.size 50 2 v k (tcs (nct f k)) ∧ Below w.heap.size w wr
theorem NtInv.start (w : World) (f : Nat → Int) : NtInv w (w.alloc (.cells #[] 50)) f 0 (.slice (some ⟨w.heap.size, 0, none⟩) 0 0) :=
  ⟨⟨rfl, .inr ⟨w.heap.size, 0, #[], rfl, Nat.le_refl _, heap_alloc_new w _, by simp, by simp [maxLen], by simp, by simp [tcs, nct]⟩⟩, (Below.refl _ _).alloc (Nat.le_refl _) _⟩
theorem NtInv.app {w wr w2 : World} {f : Nat → Int} {k : Nat} {v v' : Value} {o : Obj} (h : NtInv w wr f k v)
    (hown : w2.ownsRow w.heap.size 50 2 v' (k + 1) (tcs (nct f k) ++ [.int .i64 (3 + f k), .bool false])) (hg : (wr.alloc o).grownBy w2 v.ownBlock) : NtInv w w2 f (k + 1) v' := by
  have hlt : ∀ g, v.ownBlock = some g → w.heap.size ≤ g := fun g hg => (h.1.lt g hg).1
  refine ⟨?_, ?_⟩
  · rw [nct_succ, tcs_app]; exact hown
  · have h1 := h.2.alloc h.2.size o
    exact ⟨hg.os.trans h1.os, hg.tape.trans h1.tape, hg.output.trans h1.output, Nat.le_trans h1.size hg.size, fun i hi => (hg.block i (Nat.lt_of_lt_of_le hi h1.size) (fun e => by have := hlt i e.symm; omega)).trans (h1.block i hi)⟩
theorem oneG (w : World) (n : Int) : GRow (w.alloc (.cells #[.int .i64 n, .bool false] 52)) w.heap.size (w.heap.size + 1) (.slice (some ⟨w.heap.size, 0, none⟩) 1 1) [(n, false)] :=
  ⟨⟨rfl, .inr ⟨w.heap.size, 1, _, rfl, Nat.le_refl _, heap_alloc_new w _, by simp, by simp [maxLen], by simp, by simp [tcs]⟩⟩, fun g hg => by
    have : g = w.heap.size := by simpa [Value.ownBlock] using hg.symm
    omega⟩

set_option maxHeartbeats 16000000 in
theorem fnNeumeContour_walk (a : Option Addr) (n cap : Nat) (w : World) (h : CodeAt w a n) (hc : n ≤ cap) (hcap : cap ≤ maxLen) (ht : NeuTab w) :
    Calls Tryd.prog 6 #[.slice a n cap] w fun e w' => e = .returned (.bool true) ∧ Below w.heap.size w w' := by
  obtain ⟨i0, hi, hq0, hq1, hq2⟩ := info_parts infoTone
  have HT := Lib.hid ht
  clear ht
  by_cases hn : 1048576 < n
  · have g : (1048576 : Int) < (n : Int) := by omega
    go_enter Tryd.func6, Tryd.ntmps6
    go_wp2
    go_ret
    exact ⟨rfl, Below.refl _ _⟩
  have g : decide ((1048576 : Int) < (n : Int)) = false := by simp; omega
  go_enter Tryd.func6, Tryd.ntmps6
  go_wp2_with (fail)
  (go_at_call 32; refine (drawNeumeContour_any a n cap _ h hc hcap).mono ?_; rintro e w1 ⟨t, rfl, hb1⟩)
  clear h hc hcap g hn
  have KI := Lib.hid (fun W h => neumeContour_any t W h)
  have KS := Lib.hid (fun W => sNeumeContour_any t W)
  rcases ncn_cases t with hnc | ⟨l, hl, hlt, hnc⟩
  · rw [hnc] at KI KS
    clear hnc
    go_wp2_with (fail)
    (go_at_call 33; refine (KI.out _ (HT.out.below hb1)).mono ?_; rintro e w2 ⟨rfl, hb2⟩)
    go_wp2_with (fail)
    (go_at_call 34; refine (KS.out _).mono ?_; rintro e w3 ⟨rfl, hb3⟩)
    go_wp2
    go_ret
    exact ⟨rfl, bl_step (bl_step hb1 hb2) hb3⟩
  rw [hnc] at KI KS
  obtain ⟨h1, h2, h3, h4⟩ := neu_facts hl
  have hG := nct_gnm hl hlt
  have hname : nnm ⟨l.toArray⟩ = t := by
    rw [nnm_yes h1]
    obtain ⟨⟨d⟩⟩ := t
    show (⟨(nnl l).toArray⟩ : ByteArray) = _
    rw [hlt]
  have hsz : (⟨l.toArray⟩ : ByteArray).size = l.length := by show l.toArray.size = _; simp
  have KC := Lib.hid (fun W => contourLeast_any ⟨l.toArray⟩ (by omega) W)
  rw [h3] at KC
  have KN := Lib.hid (fun W h => neumeName_any ⟨l.toArray⟩ W h)
  rw [hname] at KN
  have hcl : cls ⟨l.toArray⟩ = (List.range (l.length + 1)).map fun j => ((lst l j : Nat) : Int) := by rw [cls_yes h3, hsz]
  have hclen : (cls ⟨l.toArray⟩).length = l.length + 1 := by rw [hcl]; simp
  obtain ⟨f, hf⟩ : ∃ f : Nat → Int, (fun j => ((lst l j : Nat) : Int)) = f := ⟨_, rfl⟩
  have hf' : ∀ j, ((lst l j : Nat) : Int) = f j := fun j => by rw [← hf]
  rw [hf] at hG
  have HCF : Hid (∀ j, j < l.length + 1 → (cls ⟨l.toArray⟩).getD j 0 = f j) := fun j hj => by
    rw [hcl, ← hf' j]; simp [List.getD_eq_getElem?_getD, hj]
  have HBD : Hid (∀ j, j < l.length + 1 → 0 ≤ f j ∧ f j ≤ 3) := fun j hj => by
    have := lst_le (l := l) (k := j) (by omega)
    rw [← hf' j]
    omega
  generalize hN : l.length + 1 = N at *
  have hNL : l.length = N - 1 := by omega
  rw [hNL] at hsz h2
  have hN1 : 1 ≤ N := by omega
  have hN4 : N ≤ 4 := by omega
  have KG := Lib.hid (fun lo hi lo' hi' v u W h g ht => groupsNames_any lo hi lo' hi' v u (nct f N) [((N : Int), false)] W h g ht)
  rw [hG] at KG
  clear hG hname hnc hlt h1 h3 h4 hcl hl hf' hf hN hNL
  generalize cls ⟨l.toArray⟩ = cl at *
  generalize (⟨l.toArray⟩ : ByteArray) = c at *
  have hc4 : (c.size : Int) < 4 := by omega
  have hz0 : (t.toList == t.toList) = true := by simp
  have hz1 : (c.toList == c.toList) = true := by simp
  clear hsz h2
  go_wp2_with (fail)
  (go_at_call 33; refine (KI.out _ (HT.out.below hb1)).mono ?_; rintro e w2 ⟨rfl, hb2⟩)
  go_wp2_with (fail)
  (go_at_call 34; refine (KS.out _).mono ?_; rintro e w3 ⟨rfl, hb3⟩)
  have bw3 := bl_step (bl_step hb1 hb2) hb3
  clear hb1 hb2 hb3 KI KS
  go_wp2_with (fail)
  (go_at_call 35; refine (KC.out _).mono ?_; rintro e w4 ⟨u, rfl, hr4, hb4⟩)
  have bw4 := Lib.hid (bl_step bw3 hb4)
  clear bw3 hb4 KC
  obtain ⟨gb, cc, rfl, hg0, hg1, hcm, hcn, hF⟩ := FR.of_irow hr4 (by omega)
  rw [hclen] at hF ⊢
  have HF : Hid (FR w4 gb N cc f) := hF.congr fun p hp => (HCF.out p hp).symm
  clear hr4 hF HCF hclen hg0 hg1 hcm hcn
  have hI0 := NtInv.start w4 f
  go_wp2
  go_loopw [10, 11] (fun m i wr => ∃ k : Nat, k ≤ N ∧ i = .int .i64 k ∧ NtInv w4 wr f k m) (fun _ i _ => N - (intOf i).toNat)
  case atStart => exact ⟨0, Nat.zero_le _, rfl, hI0⟩
  case round =>
    obtain ⟨k, hk, rfl, hI⟩ := hrel
    by_cases hlt : k < N
    · have e0 := (HF.out.below hI.2).cell (p := k) hlt
      have k0 : (0 : Int) ≤ (k : Int) := by omega
      have k1 : (k : Int) < (N : Int) := by omega
      have hbd := HBD.out k hlt
      have m1 : IntKind.i64.wrap (3 + f k) = 3 + f k := IntWalk.i64_in _ (by omega)
      have hown := hI.1
      have HI := Lib.hid hI
      clear hI hI0
      go_wp2_with (at_builtin; refine wpList_append_own _ rfl _ _ 23 rfl w4.heap.size 50 i0 (.agg #[.int .i64 0, .bool false]) 2 16 Tryd.underlying23 hi hq0 hq1 hq2 rfl (by decide) _ _ _ rfl (hown.alloc _) ⟨wr.heap.size, 0, none⟩ 1 1 [.int .i64 (3 + f k), .bool false] rfl rfl news2 news2_one (by unfold maxLen; omega) (by omega) (by have := HI.out.2.size; simp; omega) ?_)
      intro v' w5 hown' hgrow _
      have HN := Lib.hid (HI.out.app hown' hgrow)
      clear hown hown' hgrow HI
      go_wp2
      go_roundw
      case rel => exact ⟨k + 1, by omega, by go_num, HN.out⟩
      case measure => simp [intOf]; omega
    · have hke : k = N := by omega
      subst hke
      have hTR : TRow wr w4.heap.size wr.heap.size _ (nct f k) := ⟨by rw [nct_len]; exact hI.1, fun g hg => (hI.1.lt g hg).2⟩
      have hbr := bl_step bw4.out hI.2
      obtain ⟨av, cv', rfl, _⟩ := hTR.flat (nct_len f k)
      have HTR := Lib.hid (hTR.below (w' := wr.alloc (.cells #[.int .i64 (k : Int), .bool false] 52)) ((Below.refl _ _).alloc (Nat.le_refl _) _) (.inr (Nat.le_refl _)))
      have HGR := Lib.hid (oneG wr (k : Int))
      have HBA := Lib.hid (hbr.alloc hbr.size (.cells #[.int .i64 (k : Int), .bool false] 52))
      clear hI hI0 hTR hbr HF HBD
      go_wp2_with (fail)
      (go_at_call 36; refine (KN.out _ (HT.out.below HBA.out)).mono ?_; rintro e w5 ⟨rfl, hb5⟩)
      have hTR := HTR.out.below hb5 (.inl (by simp))
      have hGR := HGR.out.below hb5 (.inl (by simp))
      have bw5 := bl_step HBA.out hb5
      clear hb5
      go_wp2_with (fail)
      (go_at_call 37; refine (KG.out _ _ _ _ _ _ _ hTR hGR (HT.out.below bw5)).mono ?_; rintro e w6 ⟨rfl, hb6⟩)
      go_wp2
      go_ret
      exact ⟨rfl, bl_step bw5 hb6⟩

noncomputable def fnNeumeContour_world (os : Os) : World := World.laidAll Tryd.prog os Rows.fnNeumeContourRow.laid
theorem fnNeumeContour_met (os : Os) : laidMet Tryd.prog Rows.fnNeumeContourRow.laid ((fnNeumeContour_world os).forCall (fun _ _ => 0) ⟨#[], #[.slice none 0 0], []⟩).memory :=
  laidMet_laidAll _ (by kernel_rfl) (by kernel_rfl)
theorem fnNeumeContour_reads (os : Os) {H : Type} (enc : TypeId × Value → H) : ∃ places, DataW.whole enc Tryd.prog ((fnNeumeContour_world os).forCall (fun _ _ => 0) ⟨#[], #[.slice none 0 0], []⟩).memory Tryd.f6.params.toList Rows.fnNeumeContourSpec.vars false (#[.slice none 0 0] : Array Value).toList 8 = some ([.nil], [Rows.laid_loop_example_neumes_impl_neumes], places) :=
  ⟨((DataW.whole enc Tryd.prog ((fnNeumeContour_world os).forCall (fun _ _ => 0) ⟨#[], #[.slice none 0 0], []⟩).memory Tryd.f6.params.toList Rows.fnNeumeContourSpec.vars false (#[.slice none 0 0] : Array Value).toList 8).getD ([], [], [])).2.2, by kernel_rfl⟩
set_option maxRecDepth 100000 in
theorem fnNeumeContour_lifted (os : Os) (started : os.Started) (H : Type) (enc : TypeId × Value → H) (F : Stop.Interp) :
    ReturnsInHanded {} Tryd.checked os 6 .any ((OpenSpec.ofChange Rows.fnNeumeContourSpec).preRow enc Tryd.prog Tryd.f6 Rows.fnNeumeContourRow.domain false Rows.fnNeumeContourRow.laid) (((OpenSpec.ofChange Rows.fnNeumeContourSpec).at F).post enc Tryd.prog Tryd.f6 false true false false) := by
  obtain ⟨places, hx⟩ := fnNeumeContour_reads os enc
  refine returnsInHanded_of_row (C := Tryd.checked) (s := OpenSpec.ofChange Rows.fnNeumeContourSpec) own started (by kernel_rfl) Tryd.func6
    (witness_row_atRef (enc := enc) (C := Tryd.checked) false (fnNeumeContour_world os) #[.slice none 0 0] rfl (by kernel_rfl) (by kernel_rfl) (by kernel_rfl)
      (OpenSpec.preRow_of_cond 8 hx (by kernel_rfl) (fun k hk => by cases hk) (by kernel_rfl) (fnNeumeContour_met os))) ?_
  intro W base args ds gs before hval0 hW _ _ _ hL _ _
  have hval : ∀ (j : Nat) t v, Tryd.f6.params[j]? = some t → args[j]? = some v → Value.okWide Tryd.prog W .any base t v := hval0
  have hW' := hW
  obtain ⟨p, q, hA0, hV, rfl, _, _⟩ := hW
  have hA : DataW.TrodAll enc Tryd.prog W 0 (fun _ => true) true Tryd.f6.params.toList args.toList ds p := hA0
  rw [Tryd.params6] at hA hval
  obtain ⟨v0, vs0, d0, ds0, p0, q0, hargs, rfl, rfl, h0, r0⟩ := trodAll_cons hA
  obtain ⟨rfl, rfl, rfl⟩ := trodAll_nil r0
  obtain rfl : args = #[v0] := by cases args; simp_all
  obtain ⟨g0, rfl⟩ := vars1 hV
  obtain ⟨a0, n0, c0, rfl⟩ := okWide_slice Tryd.underlying22 (hval 0 22 v0 rfl rfl)
  have k0 := h0
  have lt0 : ∀ x ∈ p0, x.block < W.heap.size := by obtain ⟨m, hm⟩ := k0; exact DataW.trod_lt m _ _ _ hm
  have y0 := code_in h0
  clear hA0 hval0
  refine (fnNeumeContour_walk a0 n0 c0 W y0.1 y0.2.1 y0.2.2 (neuTab_at hL (.tail _ (.head _)))).mono fun e W' ⟨he, hb⟩ => ?_
  subst he
  exact ⟨_, rfl, _, _, _, [], _, _, hW', trodAll_cons_mk (shut_bool Tryd.underlying4 _) trodAll_mk0, trodAll_cons_mk (Below.trod laidOut (by kernel_rfl) (of_decide_eq_true (by kernel_rfl)) k0 hb lt0) (trodAll_mk0), hb.trodVars laidOut (by kernel_rfl) hV, hb.frame _, fun h => by cases h⟩



end Go.Proofs.YtkjimilapgkajabDoor
