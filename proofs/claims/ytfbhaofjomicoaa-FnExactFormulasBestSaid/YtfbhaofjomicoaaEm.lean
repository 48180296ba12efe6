/-
  How many readings there are, the best one, the fewest formulas: in the program; how many: in the model.
-/
import Derived.Test.YtfbhaofjomicoaaEw
namespace Go.Proofs.Ytfbhaofjomicoaa
open Go.RowKit Go.Maps
set_option maxRecDepth 100000
set_option linter.unusedVariables false

/-- how many readings there are, or -1 -/
def fmany (fs : List Fm) (s : List Int) : Int := if fok fs s = true then ((R fs s 0).many : Int) else -1
theorem fmany_yes {fs : List Fm} {s : List Int} (h : fok fs s = true) : fmany fs s = ((R fs s 0).many : Int) := by unfold fmany; rw [if_pos h]
theorem fmany_no {fs : List Fm} {s : List Int} (h : fok fs s = false) : fmany fs s = -1 := by unfold fmany; rw [if_neg (by rw [h]; decide)]

theorem finder_yes [Lo] (v u : Value) (fs : List Fm) (s : List Int) (hk : fok fs s = true) (w : World) (h : FV w v fs) (k : IV w u s) : Calls Try.prog 67 #[v, u] w fun e w' => ∃ b, e = .returned (.tuple #[.agg #[v, u, .map (some b)], .bool true]) ∧ FInv fs s s.length w' b ∧ w.heap.size ≤ b ∧ Below w.heap.size w w' :=
  (newFinder_any v u fs s w h k).mono fun e w' hc => by
    obtain ⟨⟨_, b, he, hf, hb0⟩ | ⟨h1, _⟩, hb⟩ := hc
    · exact ⟨b, he, hf, hb0, hb⟩
    · rw [hk] at h1; cases h1
theorem finder_no (v u : Value) (fs : List Fm) (s : List Int) (hk : fok fs s = false) (w : World) (h : FV w v fs) (k : IV w u s) : Calls Try.prog 67 #[v, u] w fun e w' => e = .returned (.tuple #[.agg #[.slice none 0 0, .slice none 0 0, .map none], .bool false]) ∧ Below w.heap.size w w' :=
  (@newFinder_any ⟨0⟩ v u fs s w h k).mono fun e w' hc => by
    obtain ⟨⟨h1, _⟩ | ⟨_, he⟩, hb⟩ := hc
    · rw [hk] at h1; cases h1
    · exact ⟨he, hb⟩

set_option maxHeartbeats 4000000 in
theorem formulasMany_any (v u : Value) (fs : List Fm) (s : List Int) (w : World) (h : FV w v fs) (k : IV w u s) :
    Calls Try.prog 28 #[v, u] w fun e w' => e = .returned (.int .i64 (fmany fs s)) ∧ Below w.heap.size w w' := by
  letI : Lo := ⟨0⟩
  by_cases hk : fok fs s = true
  · have HFI := Lib.hid (finder_yes v u fs s hk w h k)
    obtain ⟨rr, hrr⟩ : ∃ rr, R fs s 0 = rr := ⟨_, rfl⟩
    have HW := Lib.hid (fun b hb0 w' hb hF => whole_any fs s hk v u w h k (Nat.zero_le _) b hb0 w' hb hF rr hrr)
    have HE := Lib.hid (fmany_yes hk)
    rw [hrr] at HE
    obtain ⟨a, c, rfl, _, _, _⟩ := h
    obtain ⟨a', c', rfl, _, _, _⟩ := k
    clear hrr hk
    go_enter Try.func28, Try.ntmps28
    go_wp2_with (fail)
    (go_at_call 67; refine HFI.out.mono ?_; rintro e w1 ⟨b, rfl, hF, hb0, hb1⟩)
    have hst : ∀ W2, W2 = w1.alloc (.cells #[.slice a fs.length c, .slice a' s.length c', .map (some b)] 72) → Below w.heap.size w W2 ∧ FInv fs s s.length W2 b := by
      rintro W2 rfl
      have hb := (Below.refl w1.heap.size w1).alloc (Nat.le_refl _) (.cells #[.slice a fs.length c, .slice a' s.length c', .map (some b)] 72)
      exact ⟨bl_step hb1 hb, hF.below hb⟩
    have HST := Lib.hid hst
    clear hst hF hb1
    go_wp2_with (fail)
    (go_at_call 68; refine (HW.out b hb0 _ (HST.out _ rfl).1 (HST.out _ rfl).2).mono ?_; rintro e w3 ⟨y, rfl, hi, hb3⟩)
    clear hi
    have hfd : ∀ w, (Instr.field 77 (.agg #[.int .i64 rr.many, .int .i64 rr.few, .int .i64 rr.wt, y, .bool (rr.used 0), .bool (rr.used 1), .bool (rr.used 2), .bool (rr.used 3), .bool (rr.used 4), .bool (rr.used 5), .bool (rr.used 6), .bool (rr.used 7)]) 0).run Try.prog w = .ok (.int .i64 rr.many) w := fun _ => rfl
    unfold rdV rdC
    go_wp2
    go_ret
    exact ⟨by rw [HE.out]; rfl, hb3⟩
  · rw [Bool.not_eq_true] at hk
    have HFI := Lib.hid (finder_no v u fs s hk w h k)
    have HE := Lib.hid (fmany_no hk)
    clear hk h k
    go_enter Try.func28, Try.ntmps28
    go_wp2_with (fail)
    (go_at_call 67; refine HFI.out.mono ?_; rintro e w1 ⟨rfl, hb1⟩)
    have hz1 := hb1.size
    go_wp2
    go_ret
    exact ⟨by rw [HE.out]; rfl, by (repeat' (first | (with_reducible exact Below.refl _ _) | (with_reducible refine Below.alloc ?_ ?_ _) | (with_reducible refine Below.drew ?_) | (with_reducible refine Below.setCell ?_ ?_ _) | (with_reducible refine bl_step ?_ (by assumption)) | go_size))⟩

set_option maxHeartbeats 4000000 in
theorem sFormulasMany_any (v u : Value) (fs : List Fm) (s : List Int) (w : World) (h : FV w v fs) (k : IV w u s) :
    Calls Try.prog 27 #[v, u] w fun e w' => e = .returned (.int .i64 (fmany fs s)) ∧ Below w.heap.size w w' := by
  have HO := Lib.hid (l6fOk_any v u fs s w h k)
  by_cases hk : fok fs s = true
  · have HW := Lib.hid (fun w' (hb : Below w.heap.size w w') => l6fWays_any v u fs s hk w' (h.below hb) (k.below hb))
    have HE := Lib.hid (fmany_yes hk)
    rw [hk] at HO
    clear hk h k
    go_enter Try.func27, Try.ntmps27
    go_wp2_with (fail)
    (go_at_call 65; refine HO.out.mono ?_; rintro e w1 ⟨rfl, hb1⟩)
    go_wp2_with (fail)
    (go_at_call 66; refine (HW.out _ hb1).mono ?_; rintro e w2 ⟨x, rfl, hr, hb2⟩)
    rcases hr.form with ⟨rfl, hx⟩ | ⟨g, cap, cur, rfl, _, _, hgs, hcap, hmax, _, _, _, hc, _⟩
    · simp at hx
    · have e0 := hc 0 (by simp)
      have e1 : ((List.range (s.length + 1)).map fun j => ((R fs s j).many : Int)).getD 0 0 = ((R fs s 0).many : Int) := by simp [List.getD_eq_getElem?_getD]
      rw [e1] at e0
      have el : ((List.range (s.length + 1)).map fun j => ((R fs s j).many : Int)).length = s.length + 1 := by simp
      rw [el]
      clear hc hr hcap e1 el
      generalize (R fs s 0).many = m at *
      go_wp2
      go_ret
      exact ⟨by rw [HE.out]; rfl, bl_step hb1 hb2⟩
  · rw [Bool.not_eq_true] at hk
    have HE := Lib.hid (fmany_no hk)
    rw [hk] at HO
    clear hk h k
    go_enter Try.func27, Try.ntmps27
    go_wp2_with (fail)
    (go_at_call 65; refine HO.out.mono ?_; rintro e w1 ⟨rfl, hb1⟩)
    go_wp2
    go_ret
    exact ⟨by rw [HE.out]; rfl, hb1⟩
end Go.Proofs.Ytfbhaofjomicoaa
