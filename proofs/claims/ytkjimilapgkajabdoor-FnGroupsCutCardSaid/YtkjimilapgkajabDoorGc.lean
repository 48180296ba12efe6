/-
  GroupsCut in the program: the tones of a group.
-/
import Derived.Test.YtkjimilapgkajabDoorGv3
import Derived.Test.YtkjimilapgkajabDoorMelB
import Derived.Test.YtkjimilapgkajabDoorMelJ
namespace Go.Proofs.YtkjimilapgkajabDoor
open Go.RowKit
set_option maxRecDepth 100000
set_option linter.unusedVariables false

theorem mv_sub {xs : List (Int × Bool)} (h : mv xs = true) (a b : Nat) : mv ((xs.drop a).take b) = true := by
  unfold mv allv at h ⊢
  rw [Bool.and_eq_true] at h ⊢
  refine ⟨?_, List.all_eq_true.2 fun t ht => List.all_eq_true.1 h.2 t (List.mem_of_mem_drop (List.mem_of_mem_take ht))⟩
  have := of_decide_eq_true h.1
  exact decide_eq_true (by rw [List.length_take, List.length_drop]; omega)
/-- is there a group of this number? -/
def gcB (xs gs : List (Int × Bool)) (k : Int) : Bool := gv xs gs && (decide (0 ≤ k) && decide (k < (gs.length : Int)))
def gcL (xs gs : List (Int × Bool)) (k : Int) : List (Int × Bool) := if gcB xs gs k then prt xs gs k.toNat else []
theorem gc_no1 {xs gs : List (Int × Bool)} {k : Int} (h : gv xs gs = false) : gcL xs gs k = [] ∧ gcB xs gs k = false := by simp [gcL, gcB, h]
theorem gc_no2 {xs gs : List (Int × Bool)} {k : Int} (h : k < 0 ∨ (gs.length : Int) ≤ k) : gcL xs gs k = [] ∧ gcB xs gs k = false := by
  have e : (decide (0 ≤ k) && decide (k < (gs.length : Int))) = false := by
    rcases h with h | h
    · rw [decide_eq_false (by omega), Bool.false_and]
    · rw [decide_eq_false (p := k < (gs.length : Int)) (by omega), Bool.and_false]
  simp [gcL, gcB, e]
theorem gc_yes {xs gs : List (Int × Bool)} {k : Nat} (h : gv xs gs = true) (hk : k < gs.length) : gcL xs gs (k : Int) = prt xs gs k ∧ gcB xs gs (k : Int) = true := by
  have e : gcB xs gs (k : Int) = true := by
    unfold gcB
    rw [h, decide_eq_true (by omega : (0 : Int) ≤ (k : Int)), decide_eq_true (by omega : (k : Int) < (gs.length : Int))]
    rfl
  exact ⟨by unfold gcL; rw [if_pos e]; rfl, e⟩
theorem gcL_len (xs gs : List (Int × Bool)) (k : Int) : (gcL xs gs k).length ≤ 24 := by
  unfold gcL
  by_cases h : gcB xs gs k = true
  · rw [if_pos h]
    have hv : gv xs gs = true := by unfold gcB at h; rw [Bool.and_eq_true] at h; exact h.1
    have := (gv_len hv).2
    unfold prt
    rw [List.length_take, List.length_drop]
    omega
  · rw [if_neg h]; simp
theorem empty_built4 {w w1 : World} {ok : Bool} (hb : Below w.heap.size w w1) : TBuilt2 w [] ok (.returned (.tuple #[.slice (some ⟨w1.heap.size, 0, none⟩) 0 0, .bool ok])) (w1.alloc (.cells #[] 50)) :=
  ⟨_, rfl, (empty_row w1).lohi hb.size (Nat.le_refl _), hb.alloc hb.size _⟩

set_option maxHeartbeats 4000000 in
theorem groupsCut_any (lo hi lo' hi' : Nat) (v u : Value) (xs gs : List (Int × Bool)) (k : Int) (w : World) (h : TRow w lo hi v xs) (g : GRw w lo' hi' u gs) :
    Calls Tryd.prog 40 #[v, u, .int .i64 k] w (TBuilt2 w (gcL xs gs k) (gcB xs gs k)) := by
  by_cases hv : gv xs gs = false
  · rw [(gc_no1 hv).1, (gc_no1 hv).2]
    go_enter Tryd.func40, Tryd.ntmps40
    go_wp2_with (fail)
    (go_at_call 86; refine (newGroups_any lo hi lo' hi' v u xs gs _ h g).mono ?_; rintro e w1 ⟨r, rfl, hb1, h1, h2⟩)
    have hr := h2 hv
    subst hr
    rw [hv]
    have HE := Lib.hid (empty_built4 (ok := false) hb1)
    clear h1 h2 h g
    go_wp2
    go_ret2
    exact HE.out
  rw [Bool.not_eq_false] at hv
  by_cases hk : k < 0 ∨ (gs.length : Int) ≤ k
  · rw [(gc_no2 hk).1, (gc_no2 hk).2]
    go_enter Tryd.func40, Tryd.ntmps40
    go_wp2_with (fail)
    (go_at_call 86; refine (newGroups_any lo hi lo' hi' v u xs gs _ h g).mono ?_; rintro e w1 ⟨r, rfl, hb1, h1, h2⟩)
    obtain ⟨ps, hl, hI⟩ := h1 hv
    rw [hv]
    obtain ⟨ra, rc, rfl⟩ : ∃ a c, r = .slice a ps.length c := by
      rcases hI.own.2 with ⟨rfl, h0⟩ | ⟨g', cap, cur, rfl, _⟩
      · rw [h0]; exact ⟨none, 0, rfl⟩
      · exact ⟨_, _, rfl⟩
    rw [hl]
    have HE := Lib.hid (empty_built4 (ok := false) hb1)
    clear h1 h2 h g hI
    by_cases hk0 : k < 0
    · go_wp2
      go_ret2
      exact HE.out
    · have hk1 : (gs.length : Int) ≤ k := by omega
      have hk2 : decide (k < 0) = false := by simp; omega
      go_wp2
      go_ret2
      exact HE.out
  obtain ⟨j, rfl⟩ : ∃ j : Nat, k = j := ⟨k.toNat, by omega⟩
  have hj : j < gs.length := by omega
  rw [(gc_yes hv hj).1, (gc_yes hv hj).2]
  have hm := mv_sub (gv_in hv).1 (gsz (gs.take j)) (gs.getD j (0, false)).1.toNat
  go_enter Tryd.func40, Tryd.ntmps40
  go_wp2_with (fail)
  (go_at_call 86; refine (newGroups_any lo hi lo' hi' v u xs gs _ h g).mono ?_; rintro e w1 ⟨r, rfl, hb1, h1, h2⟩)
  obtain ⟨ps, hl, hI⟩ := h1 hv
  rw [hv]
  obtain ⟨p, b, hp, hb, hM⟩ := hI.made j (by rw [hl]; exact hj)
  have hm' : mv (prt xs gs j) = true := hm
  rw [mvl_yes hm'] at hM
  have hlen : (prt xs gs j).length ≤ 24 := by simp [mv] at hm'; exact hm'.1
  obtain ⟨c1, c2⟩ := pcs_get hp
  have hown := hI.own
  rcases hI.own.2 with ⟨_, h0⟩ | ⟨g', cap, cur, rfl, hg, _⟩
  · omega
  have e1 := hown.cells (g := g') rfl _ _ c1
  have e2 := hown.cells (g := g') rfl _ _ c2
  have hgs := (hown.lt g' rfl).2
  rw [hl]
  have HM := Lib.hid hM
  have HB := Lib.hid hb1
  have hj0 : (0 : Int) ≤ (j : Int) := by omega
  have hj1 : (j : Int) < (gs.length : Int) := by omega
  have hj2 : decide ((j : Int) < 0) = false := by simp
  have hj3 : decide ((gs.length : Int) ≤ (j : Int)) = false := by simp; omega
  simp only [Go.WideShapes.add_plain, Nat.zero_add] at e1 e2
  clear h1 h2 h g hI hM hm hm' hown hp hb c1 c2 hv
  go_wp2_with (fail)
  (go_at_call 57; refine (tones_any p w.heap.size (prt xs gs j) _ HM.out hlen).mono ?_; rintro e w2 ⟨r, rfl, hr2, hb2⟩)
  have HE : Hid (TBuilt2 w (prt xs gs j) true (.returned (.tuple #[r, .bool true])) w2) := ⟨r, rfl, ⟨tmono hr2.1 HB.out.size, hr2.2⟩, bl_step HB.out hb2⟩
  clear hr2
  go_wp2
  go_ret2
  exact HE.out
end Go.Proofs.YtkjimilapgkajabDoor
