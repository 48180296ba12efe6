/-
  Two melodies joined, in both programs.
-/
import Derived.Test.YtkjimilapgkajabDoorMelB
import Derived.Test.YtkjimilapgkajabDoorTurn
import Derived.Laws.AppendOwnNone
namespace Go.Proofs.YtkjimilapgkajabDoor
open Go.RowKit
set_option maxRecDepth 100000
set_option linter.unusedVariables false

def jok (xs ys : List (Int × Bool)) : Bool := mv xs && mv ys && decide (xs.length + ys.length ≤ 24)
def jn (xs ys : List (Int × Bool)) : List (Int × Bool) := if jok xs ys then xs ++ ys else []
theorem jn_no {xs ys : List (Int × Bool)} (h : jok xs ys = false) : jn xs ys = [] := by simp [jn, h]
theorem jn_yes {xs ys : List (Int × Bool)} (h : jok xs ys = true) : jn xs ys = xs ++ ys := by simp [jn, h]
theorem jok_mv (xs ys : List (Int × Bool)) : (mv xs && mv ys && mv (xs ++ ys)) = jok xs ys := by
  unfold jok
  by_cases h1 : mv xs = true
  · by_cases h2 : mv ys = true
    · have a1 : allv xs = true := by simp [mv] at h1; exact h1.2
      have a2 : allv ys = true := by simp [mv] at h2; exact h2.2
      have a3 : allv (xs ++ ys) = true := by unfold allv at *; rw [List.all_append, a1, a2]; rfl
      have e : mv (xs ++ ys) = decide (xs.length + ys.length ≤ 24) := by unfold mv; rw [a3, List.length_append, Bool.and_true]
      rw [e]
    · simp [h2]
  · simp [h1]

theorem Mel.join_ {w : World} {lo : Nat} {p : Option Addr} {xs : List (Int × Bool)} (h : Mel w lo p xs) : xs = [] ↔ p = none := by
  cases xs with
  | nil => simp [Mel] at h; simp [h]
  | cons t r => obtain ⟨B, q, rfl, _⟩ := h; simp

def JBuilt (w : World) (lo : Nat) (xs : List (Int × Bool)) (e : Ending) (w' : World) : Prop :=
  ∃ p, e = .returned (.pointer p) ∧ Mel w' lo p xs ∧ Below w.heap.size w w'

set_option maxHeartbeats 2000000 in
theorem join_any (xs ys : List (Int × Bool)) : ∀ (p q : Option Addr) (lo lo' : Nat) (w : World), Mel w lo p xs → Mel w lo' q ys → lo' ≤ w.heap.size →
    Calls Tryd.prog 56 #[.pointer p, .pointer q] w (JBuilt w lo' (xs ++ ys)) := by
  induction xs with
  | nil =>
    intro p q lo lo' w hp hq hl
    have hp0 : p = none := hp
    subst hp0
    have HE : Hid (JBuilt w lo' ([] ++ ys) (.returned (.pointer q)) w) := ⟨q, rfl, hq, Below.refl _ _⟩
    clear hp hq
    go_enter Tryd.func56, Tryd.ntmps56
    go_wp2_with (fail)
    go_ret
    exact HE.out
  | cons t r ih =>
    intro p q lo lo' w hp hq hl
    obtain ⟨s, b⟩ := t
    obtain ⟨B, p', rfl, hlo, hB, c0, c1, c2, hr⟩ := hp.head
    have HR := Lib.hid hr
    have HQ := Lib.hid hq
    have HI := Lib.hid ih
    clear hp hr hq ih
    go_enter Tryd.func56, Tryd.ntmps56
    go_wp2_with (fail)
    go_region_held3 (fun wx => wx.cell? ⟨B, 0, none⟩ = some (.int .i64 s) ∧ wx.cell? ⟨B, 1, none⟩ = some (.bool b) ∧ wx.cell? ⟨B, 2, none⟩ = some (.pointer p')) (go_keep)
      (first | (go_at_call 56; refine (HI.out p' q lo lo' _ HR.out.drew HQ.out.drew hl).mono ?_; rintro e w1 ⟨u, rfl, hu, hb1⟩; have d0 := (hb1.cell (p := ⟨B, 0, none⟩) hB).trans c0; have d1 := (hb1.cell (p := ⟨B, 1, none⟩) hB).trans c1; have d2 := (hb1.cell (p := ⟨B, 2, none⟩) hB).trans c2))
    have HE : Hid (JBuilt w lo' ((s, b) :: r ++ ys) (.returned (.pointer (some ⟨w1.heap.size, 0, none⟩))) (w1.alloc (.cells #[.int .i64 s, .bool b, .pointer u] 92))) :=
      ⟨_, rfl, hu.cons_ (t := (s, b)) (Nat.le_trans hl hb1.size), (bl_step (Below.refl _ _).drew hb1).alloc hb1.size _⟩
    clear hu d0 d1 d2 c0 c1 c2
    go_wp2
    go_ret
    exact HE.out

theorem empty_row (w : World) : TRow (w.alloc (.cells #[] 50)) w.heap.size (w.alloc (.cells #[] 50)).heap.size (.slice (some ⟨w.heap.size, 0, none⟩) 0 0) [] := by
  refine ⟨⟨rfl, .inr ⟨w.heap.size, 0, #[], rfl, Nat.le_refl _, heap_alloc_new w _, by simp, by simp [maxLen], by simp, by simp [tcs]⟩⟩, fun g hg => ?_⟩
  have : g = w.heap.size := by simpa [Value.ownBlock] using hg.symm
  simp
  omega
theorem own_trow {w : World} {lo hi : Nat} {v : Value} {xs : List (Int × Bool)} (h : TRow w lo hi v xs) : ∃ a c, v = .slice a xs.length c := by
  rcases h.form with ⟨rfl, rfl⟩ | ⟨g, cap, rfl, _⟩
  · exact ⟨none, 0, rfl⟩
  · exact ⟨_, _, rfl⟩

set_option maxHeartbeats 2000000 in
theorem melodyJoin_any (lo hi lo' hi' : Nat) (v u : Value) (xs ys : List (Int × Bool)) (w : World) (h : TRow w lo hi v xs) (k : TRow w lo' hi' u ys) (hx : xs.length ≤ 1048576) (hy : ys.length ≤ 1048576) :
    Calls Tryd.prog 13 #[v, u] w (TBuilt2 w (jn xs ys) (jok xs ys)) := by
  have HN : Hid (jok xs ys = false → ∀ w1, Below w.heap.size w w1 → TBuilt2 w (jn xs ys) (jok xs ys) (.returned (.tuple #[.slice (some ⟨w1.heap.size, 0, none⟩) 0 0, .bool false])) (w1.alloc (.cells #[] 50))) := fun hj w1 hb => by
    rw [jn_no hj, hj]
    exact ⟨_, rfl, (empty_row w1).lohi hb.size (Nat.le_refl _), hb.alloc hb.size _⟩
  by_cases hmx : mv xs = false
  · have HF := Lib.hid (HN.out (by simp [jok, hmx]))
    go_enter Tryd.func13, Tryd.ntmps13
    go_wp2_with (fail)
    (go_at_call 55; refine (newMelody_any lo hi v xs _ h).mono ?_; rintro e w1 ⟨p, rfl, hm, hb1⟩)
    have k1 := k.below hb1 (.inr (Nat.le_refl _))
    clear h k
    go_wp2_with (fail)
    (go_at_call 55; refine (newMelody_any lo' hi' u ys _ k1).mono ?_; rintro e w2 ⟨q, rfl, hq, hb2⟩)
    have HG := Lib.hid (HF.out w2 (bl_step hb1 hb2))
    clear hm hq k1
    go_wp2
    go_ret2
    exact HG.out
  by_cases hmy : mv ys = false
  · have HF := Lib.hid (HN.out (by simp [jok, hmy]))
    rw [Bool.not_eq_false] at hmx
    go_enter Tryd.func13, Tryd.ntmps13
    go_wp2_with (fail)
    (go_at_call 55; refine (newMelody_any lo hi v xs _ h).mono ?_; rintro e w1 ⟨p, rfl, hm, hb1⟩)
    have k1 := k.below hb1 (.inr (Nat.le_refl _))
    clear h k
    go_wp2_with (fail)
    (go_at_call 55; refine (newMelody_any lo' hi' u ys _ k1).mono ?_; rintro e w2 ⟨q, rfl, hq, hb2⟩)
    have HG := Lib.hid (HF.out w2 (bl_step hb1 hb2))
    clear hm hq k1
    go_wp2
    go_ret2
    exact HG.out
  rw [Bool.not_eq_false] at hmx hmy
  obtain ⟨va, vc, rfl⟩ := own_trow h
  obtain ⟨ua, uc, rfl⟩ := own_trow k
  by_cases hs : xs.length + ys.length ≤ 24
  case neg =>
    have HF := Lib.hid (HN.out (by simp [jok]; omega))
    have hs' : (24 : Int) < (xs.length : Int) + (ys.length : Int) := by omega
    go_enter Tryd.func13, Tryd.ntmps13
    go_wp2_with (fail)
    (go_at_call 55; refine (newMelody_any lo hi _ xs _ h).mono ?_; rintro e w1 ⟨p, rfl, hm, hb1⟩)
    have k1 := k.below hb1 (.inr (Nat.le_refl _))
    clear h k
    go_wp2_with (fail)
    (go_at_call 55; refine (newMelody_any lo' hi' _ ys _ k1).mono ?_; rintro e w2 ⟨q, rfl, hq, hb2⟩)
    have HG := Lib.hid (HF.out w2 (bl_step hb1 hb2))
    clear hm hq k1
    go_wp2
    go_ret2
    exact HG.out
  have hj : jok xs ys = true := by simp [jok, hmx, hmy, hs]
  have HV := Lib.hid (mvl_yes hmx)
  have HW := Lib.hid (mvl_yes hmy)
  have HJ := Lib.hid (jn_yes hj)
  have HK := Lib.hid hj
  have hs' : decide ((24 : Int) < (xs.length : Int) + (ys.length : Int)) = false := by simp; omega
  have hln : (xs ++ ys).length ≤ 24 := by rw [List.length_append]; exact hs
  clear HN hj
  go_enter Tryd.func13, Tryd.ntmps13
  go_wp2_with (fail)
  (go_at_call 55; refine (newMelody_any lo hi _ xs _ h).mono ?_; rintro e w1 ⟨p, rfl, hm, hb1⟩)
  have k1 := k.below hb1 (.inr (Nat.le_refl _))
  clear h k
  go_wp2_with (fail)
  (go_at_call 55; refine (newMelody_any lo' hi' _ ys _ k1).mono ?_; rintro e w2 ⟨q, rfl, hq, hb2⟩)
  rw [HV.out] at hm
  rw [HW.out] at hq
  have hm := hm.below hb2
  have hbw := bl_step hb1 hb2
  clear k1
  go_wp2_with (fail)
  (go_at_call 56; refine (join_any xs ys p q _ _ _ hm hq hb2.size).mono ?_; rintro e w3 ⟨r, rfl, hr, hb3⟩)
  have hbw := bl_step hbw hb3
  clear hm hq
  go_wp2_with (fail)
  (go_at_call 57; refine (tones_any _ _ _ _ hr hln).mono ?_; rintro e w4 ⟨t, rfl, ht, hb4⟩)
  have HE : Hid (TBuilt2 w (jn xs ys) (jok xs ys) (.returned (.tuple #[t, .bool true])) w4) := by
    rw [HK.out, HJ.out]
    exact ⟨t, rfl, ⟨tmono ht.1 hbw.size, ht.2⟩, bl_step hbw hb4⟩
  clear hr ht
  go_wp2
  go_ret2
  exact HE.out

/-- tones appended to a row of the call's own, out of another slice *)-/
theorem append_tones {w : World} {ops : Array Oper} {rest : List Oper} {o : Oper} {a : Act} {Q : Exit → Act → World → Prop} (hgd : o.guard = none) (s x : Operand)
    (ho : o.op = .call { callee := .builtin .append, args := #[s, x], argTypes := #[23, 23] })
    (base lo hi : Nat) (v u : Value) (n : Nat) (cs : List Value) (ys : List (Int × Bool)) (hs : a.eval s = v) (hown : w.ownsRow base 50 2 v n cs) (hx : a.eval x = u) (hu : TRow w lo hi u ys)
    (hn : n ≤ 4000000) (hy : ys.length ≤ 4000000) (hbase : base ≤ w.heap.size)
    (h : ∀ v' w', w'.ownsRow base 50 2 v' (n + ys.length) (cs ++ tcs ys) → w.grownBy w' v.ownBlock → wpList Tryd.prog ops Q rest (a.put o.dst v') w') : wpList Tryd.prog ops Q (o :: rest) a w := by
  obtain ⟨i0, hi, hq0, hq1, hq2⟩ := info_parts infoTone
  rcases hu.1.2 with ⟨rfl, h0⟩ | ⟨g, cap, cur, rfl, _, hh, hc, _, hsz, htk⟩
  · have hy0 : ys = [] := List.eq_nil_of_length_eq_zero h0
    subst hy0
    exact wpList_append_own_none hgd s x _ ho base _ i0 2 Tryd.underlying23 hi v n cs hs hown hx (h v w (by simpa [tcs] using hown) (World.grownBy.refl _ _))
  · refine wpList_append_own w hgd s x _ ho base _ i0 (.agg #[.int .i64 0, .bool false]) 2 16 Tryd.underlying23 hi hq0 hq1 hq2 rfl (by decide) v n cs hs hown ⟨g, 0, none⟩ ys.length cap (tcs ys) hx (tcs_len ys) (fun j z hz => ?_) (tcs_one ys) (by unfold maxLen; omega) (by omega) hbase
      (fun v' w' h1 h2 _ => h v' w' h1 h2)
    exact hu.1.cells (g := g) rfl j z hz
end Go.Proofs.YtkjimilapgkajabDoor
