/-
  The contour of a melody, in the program: a loop over an iterator.
-/
import Derived.Test.YtkjimilapgkajabDoorCow
import Derived.Test.YtkjimilapgkajabDoorCt
import Derived.Test.YtkjimilapgkajabDoorMel
namespace Go.Proofs.YtkjimilapgkajabDoor
open Go.RowKit Go.Shelf
set_option maxRecDepth 100000
set_option linter.unusedVariables false

attribute [local go_sem] Oper.semAt_some

theorem ways_any (p0 : Option Addr) (w : World) : Calls Tryd.prog 113 #[.pointer p0] w fun e w' => e = .returned (.func (.func 126) #[] #[.pointer (some ⟨w.heap.size, 0, none⟩)]) ∧ w' = w.alloc (.cells #[.pointer p0] 78) := by
  go_enter Tryd.func113, Tryd.ntmps113
  go_wp2
  go_ret
  exact ⟨rfl, rfl⟩

theorem ways_stops (n : Nat) (hn : 1 ≤ n) (Bn lo : Nat) (w0 : World) (p0 : Option Addr) (xs : List (Int × Bool)) (w : World) (hBn : Bn < w.heap.size) (hb : Below w0.heap.size w0 w)
    (hc : w.cell? ⟨Bn, 0, none⟩ = some (.pointer p0)) (hL : Mel w0 lo p0 xs) :
    SeqStopsK Fence.wide n Tryd.prog 126 #[.pointer (some ⟨Bn, 0, none⟩)] (fun x : UInt8 => #[Value.int .u8 ((x.toNat : Nat) : Int)]) (Below w0.heap.size) (fun ys => ys = wys xs) (fun pre => pre <+: wys xs) (wys xs).length w := fun l J Jx W hW hA hAx hY h0 =>
  ways1_in n hn l Bn lo w0 p0 xs J Jx
    (fun pre x W1 hJ hlt => by
      obtain ⟨fn, tmps, assign, body, hy, hR⟩ := hY pre x W1 hJ hlt
      refine ⟨fn, tmps, assign, body, hy, hR.mono fun e W' h => ?_⟩
      rcases h with ⟨rfl, h1, h2⟩ | ⟨rfl, h1⟩
      · exact ⟨true, rfl, fun _ => ⟨h1, h2⟩, fun h => Bool.noConfusion h⟩
      · exact ⟨false, rfl, ⟨fun h => Bool.noConfusion h, fun _ => h1⟩⟩)
    W ((hW.cell (p := ⟨Bn, 0, none⟩) hBn).trans hc) hL (hb.trans (hW.mono hb.size)) h0
    (fun pre W h => hA pre W W.drew none h ⟨rfl, rfl, rfl, Nat.le_refl _, fun _ _ _ => rfl⟩ (fun r e => by cases e))

set_option maxRecDepth 100000 in
set_option maxHeartbeats 2000000 in
theorem contour_in (n : Nat) (hn : 3 ≤ n) (lo : Nat) (p0 : Option Addr) (xs : List (Int × Bool)) (hlen : (wys xs).length ≤ 100) (w : World) (hL : Mel w lo p0 xs) :
    CallsIn Fence.wide n Tryd.prog 72 #[.pointer p0] w fun e W' => e = .returned (.string ⟨(wys xs).toArray⟩) ∧ Below w.heap.size w W' := by
  have h1 : 1 ≤ n := by omega
  obtain ⟨i0, hi, hq0, hq1, hq2⟩ := info_parts infoU8
  have hfn : Fence.wide.fn 113 := trivial
  refine callsIn_of_wp_marks Tryd.func72 rfl trivial ?_ rfl
  simp only [Tryd.ntmps72, List.size_toArray, List.length_cons, List.length_nil, Nat.reduceAdd, Nat.reduceSub, Array.replicate_succ, Array.replicate_zero, List.push_toArray, List.append_toArray, List.nil_append, List.cons_append]
  gi_wp2_with (gi_at_call 113; refine (callsIn_wide.2 (ways_any _ _)).mono ?_; rintro e w' ⟨rfl, rfl⟩)
  have bO := Boxed.new (w.alloc (.cells #[] 5)) 22 (.slice (some ⟨w.heap.size, 0, none⟩) 0 0)
  have bN := Boxed.new ((w.alloc (.cells #[] 5)).alloc (.cells #[.slice (some ⟨w.heap.size, 0, none⟩) 0 0] 22)) 78 (.pointer p0)
  rw [World.size_alloc] at bO
  rw [World.size_alloc, World.size_alloc] at bN
  have hB0 : Below w.heap.size w (((w.alloc (.cells #[] 5)).alloc (.cells #[.slice (some ⟨w.heap.size, 0, none⟩) 0 0] 22)).alloc (.cells #[.pointer p0] 78)) := (((Below.refl _ w).alloc (Nat.le_refl _) _).alloc (by simp) _).alloc (by simp; omega) _
  have hrow0 : (w.alloc (.cells #[] 5)).ownsRow w.heap.size 5 1 (.slice (some ⟨w.heap.size, 0, none⟩) 0 0) 0 [] := ⟨rfl, .inr ⟨w.heap.size, 0, #[], rfl, Nat.le_refl _, heap_alloc_new w _, by simp, by simp [maxLen], by simp, by simp⟩⟩
  refine wpIn_rangeFunc_ownG rfl h1 (gf := 126) (lb := #[.pointer (some ⟨w.heap.size + 1 + 1, 0, none⟩)]) rfl trivial (enters_of Tryd.func126 (by kernel_rfl) rfl)
    (ways_stops (n - 1) (by omega) (w.heap.size + 1 + 1) lo w p0 xs _ (by simp) hB0 bN.cell hL) belowK_t (belowK_b (by simp; omega)) (Below.refl _ _) (fun _ => rfl)
    (fun pre W => (∃ v, Boxed W (w.heap.size + 1) 22 v ∧ W.ownsRow w.heap.size 5 1 v pre.length (bcs pre) ∧ True) ∧ Below w.heap.size w W)
    (fun _ _ _ => False)
    (OwnFrom.and (Own.from (holdsRow_own w.heap.size (w.heap.size + 1) 22 5 1 (fun pre : List UInt8 => pre.length) (fun pre => bcs pre) (fun _ _ => True)) _) (ownFrom_below (Nat.le_refl _) (by simp; omega)))
    (fun _ _ _ _ _ hs _ _ => hs)
    ⟨⟨_, bO.alloc _, (hrow0.alloc _).alloc _, trivial⟩, hB0⟩
    (fun x => { tmps := #[.pointer p0, undef, .string ⟨#[]⟩, .pointer (some ⟨w.heap.size + 1, 0, none⟩), .int .u8 ((x.toNat : Nat) : Int), .slice (some ⟨w.heap.size, 0, none⟩) 0 0, .pointer p0, .func (.func 126) #[] #[.pointer (some ⟨w.heap.size + 1 + 1, 0, none⟩)], .int .u8 ((x.toNat : Nat) : Int), undef, undef, undef, undef, undef, undef], defers := [] }) ?assign ?body ?done ?stop
  case assign =>
    intro l x W K hK
    gi_wp2
    exact hK
  case body =>
    rintro l pre x W ⟨⟨v, hv, hrow, _⟩, hB⟩ hlt
    have hc := hv.cell
    gi_wp2_with (gi_at_builtin; refine wpListIn_append_own _ rfl _ _ 22 rfl w.heap.size 5 i0 (.int .u8 0) 1 1 Tryd.underlying22 hi hq0 hq1 hq2 rfl (by decide) _ _ _ rfl (hrow.alloc _) ⟨W.heap.size, 0, none⟩ 1 1 [.int .u8 ((x.toNat : Nat) : Int)] rfl rfl (cell_one_new _ _ _) (by simp [Value.oneCell']) (by unfold maxLen; omega) (by omega) (by have := hB.size; simp; omega) ?_; intro v' w1 hown' hgrow _; obtain ⟨g', cap', rfl⟩ := ownsRow_succ hown'; obtain ⟨hv1, hv2, hr2, hk2, hb2⟩ := hv.appended (by decide) hrow hB.size (by omega) hown' hgrow; have hc1 := hv1.cell; have hf1 := hv1.frozen)
    exact ⟨hk2.from _, hb2, ⟨_, hv2, by rw [bcs_app]; simpa [bcs] using hr2, trivial⟩, hB.trans hb2⟩
  case done =>
    rintro D ys W hD rfl ⟨⟨v, hv, hrow, _⟩, hB⟩ hK
    have hc := hv.cell
    have hcv := TrInv.text (w := w) ⟨hrow, hB⟩
    gi_wp2
    refine ⟨by simp, .inl ⟨_, _, rfl, run_takeDeferred hK, ?_⟩⟩
    exact ⟨_, results_tmp rfl _ _ _, rfl, hB.trans (belowK_b (w := w) (Nat.le_refl _) W D _ _ (by simp at hD; omega) hK rfl rfl)⟩
  case stop =>
    rintro D c pre W _ _ h _
    exact h.elim

theorem wys_len : ∀ xs : List (Int × Bool), (wys xs).length ≤ xs.length
  | [] => by simp [wys]
  | [t] => by simp [wys]
  | t :: u :: r => by have := wys_len (u :: r); simp only [wys, List.length_cons] at this ⊢; omega

theorem ctw_wys : ∀ xs : List (Int × Bool), ctw xs (xs.length - 1) = wys xs
  | [] => rfl
  | [t] => rfl
  | t :: u :: r => by
    have h := ctw_wys (u :: r)
    unfold wys
    rw [← h]
    unfold ctw
    simp only [List.length_cons, Nat.add_sub_cancel]
    rw [List.range_succ_eq_map, List.map_cons, List.map_map]
    rfl

theorem ctO_wys (xs : List (Int × Bool)) : ctO xs = ⟨(wys (mvl xs)).toArray⟩ := by
  cases h : mv xs
  · rw [ctO_no h, mvl_no h]; rfl
  · rw [ctO_yes h, mvl_yes h, ctw_wys]

theorem contourOf_any (lo hi : Nat) (v : Value) (xs : List (Int × Bool)) (w : World) (h : TRow w lo hi v xs) :
    Calls Tryd.prog 26 #[v] w fun e w' => e = .returned (.string (ctO xs)) ∧ Below w.heap.size w w' := by
  have hl : (wys (mvl xs)).length ≤ 100 := by have := wys_len (mvl xs); have := mvl_len xs; omega
  rw [ctO_wys]
  have KC := Lib.hid (fun lo p W hm => callsIn_wide.1 (contour_in 3 (Nat.le_refl _) lo p (mvl xs) hl W hm))
  clear hl
  go_enter Tryd.func26, Tryd.ntmps26
  go_wp2_with (fail)
  (go_at_call 55; refine (newMelody_any lo hi v xs _ h).mono ?_; rintro e w1 ⟨p, rfl, hm, hb1⟩)
  go_wp2_with (fail)
  (go_at_call 72; refine (KC.out _ p _ hm).mono ?_; rintro e w2 ⟨rfl, hb2⟩)
  clear hm h
  go_wp2
  go_ret
  exact ⟨rfl, bl_step hb1 hb2⟩
end Go.Proofs.YtkjimilapgkajabDoor
