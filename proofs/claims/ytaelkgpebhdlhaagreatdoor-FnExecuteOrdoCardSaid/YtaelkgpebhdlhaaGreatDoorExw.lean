/-
  An answer to a line that is a command, in the program.
-/
import Derived.Test.YtaelkgpebhdlhaaGreatDoorExa
import Derived.Test.YtaelkgpebhdlhaaGreatDoorShelf
import Derived.Lib.Split
import Derived.Deep.RegionHeld3
import Derived.Deep.AppendLies
namespace Go.Proofs.YtaelkgpebhdlhaaGreatDoor
open Go.RowKit
set_option maxRecDepth 100000
set_option linter.unusedVariables false

/-- the words of a line -/
def wrd (s : ByteArray) : List ByteArray := Lib.splitB ⟨#[32]⟩ 0 (Lib.countB s ⟨#[32]⟩) s
theorem sv_new (w : World) (ws : List ByteArray) (hl : ws.length ≤ maxLen) : SV (w.alloc (.cells (ws.map Value.string).toArray 9)) (.slice (some ⟨w.heap.size, 0, none⟩) ws.length ws.length) ws := by
  refine ⟨_, _, rfl, .inr ⟨w.heap.size, 0, rfl, by simp, fun i s hi => ?_⟩, Nat.le_refl _, hl⟩
  unfold World.cell?
  rw [heap_alloc_new]
  simp [hi]
theorem sv_tail {w : World} {A off L c : Nat} {s0 : ByteArray} {ss : List ByteArray} (h : SV w (.slice (some ⟨A, off, none⟩) (L + 1) c) (s0 :: ss)) (hL : ss.length = L) (hp : 0 < L) : SV w (.slice (some ⟨A, off + 1, none⟩) L (c - 1)) ss := by
  obtain ⟨a, c', e, ha, h1, h2⟩ := h
  injection e with e1 e2 e3
  subst e1 e3
  rcases ha with h0 | ⟨B, of', hb, hB, hc⟩
  · cases h0
  injection hb with hb
  injection hb with hb1 hb2
  subst hb1 hb2
  simp only [List.length_cons] at h1
  refine ⟨_, _, by rw [hL], .inr ⟨A, off + 1, rfl, hB, fun i s hi => ?_⟩, by omega, by omega⟩
  have := hc (i + 1) s (by simpa using hi)
  rwa [show off + (i + 1) = off + 1 + i by omega] at this

theorem fr_two {w w2 w3 : World} {D : Nat} (hb : Below w.heap.size w w2) (hg : w2.grownBy w3 (some D)) : w.grownBy w3 (some D) :=
  ⟨hg.os.trans hb.os, hg.tape.trans hb.tape, hg.output.trans hb.output, Nat.le_trans hb.size hg.size, fun i hi hne => (hg.block i (Nat.lt_of_lt_of_le hi hb.size) hne).trans (hb.block i hi)⟩
theorem fr_box (w : World) (B : Nat) (x : Value) (o : Obj) : w.grownBy ((w.setCell ⟨B, 0, none⟩ x).alloc o) (some B) :=
  ⟨rfl, rfl, rfl, by simp [World.setCell], fun i hi hne => by
    have e : i ≠ B := fun e => hne (by rw [e])
    rw [heap_alloc_old _ _ (by simpa [World.setCell] using hi)]
    simp [World.setCell, Array.getElem?_modify, Ne.symm e]⟩
theorem box_cell {w : World} {B : Nat} {x v : Value} {o : Obj} (h : w.cell? ⟨B, 0, none⟩ = some x) : ((w.setCell ⟨B, 0, none⟩ v).alloc o).cell? ⟨B, 0, none⟩ = some v := by
  have hlt := World.block_lt_of_cell? w _ h
  rw [World.cell?_alloc_lt _ _ _ (by simpa [World.setCell] using hlt)]
  exact World.cell?_setCell_same w ⟨B, 0, none⟩ v h
set_option maxHeartbeats 4000000 in
theorem answer_ordo (D : Nat) (line s0 : ByteArray) (ss : List ByteArray) (n m : Int) (w : World) (hm : w.cell? ⟨3, 0, none⟩ = some (.int .i64 m)) (hD : D < w.heap.size) (hs : line.size ≤ 1000) (hw : wrd line = s0 :: ss) (hwl : Lib.countB line ⟨#[32]⟩ = ss.length) (hs0 : s0.size ≤ maxLen) (hl : ss.length ≤ 999) (hp : 0 < ss.length)
    (hc : cmdR s0.data.toList ss.length = some (n, 154)) (R : ByteArray → Bool → World → Prop)
    (HR : ∀ W u, Below w.heap.size w W → SV W u ss → Calls Tryz.prog 154 #[.pointer (some ⟨D, 0, none⟩), u] W fun e W' => ∃ t ok, e = .returned (.tuple #[.string t, .bool ok]) ∧ R t ok W' ∧ W.grownBy W' (some D)) :
    Calls Tryz.prog 43 #[.pointer (some ⟨D, 0, none⟩), .string line] w fun e w' => ∃ t ok W', e = .returned (.string (if ok then t else ⟨#[110, 111]⟩)) ∧ R t ok W' ∧ w.grownBy W' (some D) ∧ W'.grownBy w' (some w.heap.size) := by
  have hmf : ∀ (fn : Fn) (first cap : Array Value) (w : World), (Instr.makeFunc fn first cap).run Tryz.prog w = .ok (.func fn first cap) w := fun _ _ _ _ => rfl
  have hm1 : (w.alloc (.cells #[.string ⟨#[]⟩] 9)).cell? ⟨3, 0, none⟩ = some (.int .i64 m) := (World.cell?_alloc_lt _ _ _ (World.block_lt_of_cell? w _ hm)).trans hm
  have KS := Tryz.strings_Split line ⟨#[32]⟩ m (w.alloc (.cells #[.string ⟨#[]⟩] 9)) (by omega) hm1 (by decide)
  have e1 : Lib.splitB ⟨#[32]⟩ 0 (Lib.countB line ⟨#[32]⟩) line = s0 :: ss := hw
  rw [e1, hwl] at KS
  have z0 : (w.alloc (.cells #[.string ⟨#[]⟩] 9)).heap.size = w.heap.size + 1 := World.size_alloc _ _
  rw [z0] at KS
  have HKS := Lib.hid KS
  have HCO := Lib.hid (fun u W h => commandOf_some u s0 ss n 154 W h hs0 (by omega) hc)
  unfold cmdV at HCO
  have HRR := Lib.hid HR
  have hfd : ∀ (W : World), (Instr.field 127 (.agg #[.int .i64 n, .func (.func 154) #[] #[]]) 1).run Tryz.prog W = .ok (.func (.func 154) #[] #[]) W := fun _ => rfl
  clear KS e1 hw hwl hm1 HR hc
  go_enter_defers Tryz.func43, Tryz.ntmps43
  go_wp2_with (fail)
  (go_at_call 42; refine (HKS.out).mono ?_; rintro e w1 ⟨rfl, hw1⟩)
  have hsv := sv_new (w.alloc (.cells #[.string ⟨#[]⟩] 9)) (s0 :: ss) (by unfold maxLen; simp only [List.length_cons]; omega)
  rw [← hw1, z0] at hsv
  have hb1 : Below w.heap.size w w1 := by rw [hw1]; exact ((Below.refl _ _).alloc (Nat.le_refl _) _).alloc (by rw [z0]; omega) _
  have b0 : w1.cell? ⟨w.heap.size, 0, none⟩ = some (.string ⟨#[]⟩) := by rw [hw1, World.cell?_alloc_lt _ _ _ (by rw [z0]; show w.heap.size < _; omega)]; unfold World.cell?; rw [heap_alloc_new]; rfl
  have hz1 : w.heap.size + 1 < w1.heap.size := by rw [hw1, World.size_alloc, z0]; omega
  have bf : w1.frozen? ⟨w.heap.size, 0, none⟩ = false := by rw [hw1]; unfold World.frozen?; rw [heap_alloc_old _ _ (by rw [z0]; show w.heap.size < _; omega), heap_alloc_new]; rfl
  have HSV := Lib.hid hsv
  have HB1 := Lib.hid hb1
  have hl1 : (s0 :: ss).length = ss.length + 1 := rfl
  rw [hl1] at HSV
  obtain ⟨L, hL⟩ : ∃ L, ss.length = L := ⟨_, rfl⟩
  have HL := Lib.hid hL
  rw [hL] at HSV hl hp ⊢
  have hk0 : ¬ L = 0 := by omega
  have hk1 : (1 : Int) ≤ (L : Int) + 1 := by omega
  clear hsv hb1 hw1 hl1 hL z0
  go_wp2
  go_region_held3 (fun wx => wx.cell? ⟨w.heap.size, 0, none⟩ = some (.string ⟨#[]⟩) ∧ wx.frozen? ⟨w.heap.size, 0, none⟩ = false) (go_keep)
    (first | (go_at_call 85; refine (HCO.out _ _ (HSV.out.below (Below.refl _ _).drew)).mono ?_; rintro e w2 ⟨rfl, hb2⟩; have c0 := (hb2.cell (p := ⟨w.heap.size, 0, none⟩) (show w.heap.size < w1.heap.size by omega)).trans b0; have cf := (hb2.frozen (p := ⟨w.heap.size, 0, none⟩) (show w.heap.size < w1.heap.size by omega)).trans bf) | (go_at_call 154; refine (HRR.out _ _ (bl_step HB1.out (bl_step (Below.refl _ _).drew hb2)) (sv_tail (HSV.out.below (bl_step (Below.refl _ _).drew hb2)) HL.out hp)).mono ?_; rintro e w3 ⟨t, ok, rfl, hR, hg3⟩; have hz2 : w.heap.size < w2.heap.size := (by have := hb2.size; simp at this; omega); have x0 := (hg3.cell_far (⟨w.heap.size, 0, none⟩ : Addr) hz2 (by intro e; have e2 : w.heap.size = D := (by injection e); omega)).trans c0; have xf := (hg3.frozen_far (⟨w.heap.size, 0, none⟩ : Addr) hz2 (by intro e; have e2 : w.heap.size = D := (by injection e); omega)).trans cf))
  all_goals
    have HFR := Lib.hid (fr_two (bl_step HB1.out (bl_step (Below.refl _ _).drew hb2)) hg3)
    have HFB := Lib.hid (fun x => fr_box w3 w.heap.size x (.cells #[] 122))
    have HRF := Lib.hid hR
    clear hb2 hg3 hR c0 cf
    have HCE := Lib.hid (fun v => box_cell (v := v) (o := .cells #[] 122) x0)
    cases ok with
    | true =>
      go_wp2
      refine leaves_cons (f := 84) (args := #[.pointer (some ⟨w.heap.size, 0, none⟩)]) (by simp) (by simp [go_sem]) ?_
      refine (answerCatch_idle ⟨w.heap.size, 0, none⟩ _).mono ?_
      rintro e u' w'' ⟨rfl, rfl, rfl⟩
      simp [Leaves, settle, results, Tryz.results43, go_sem]
      refine ⟨.string t, by rw [HCE.out], t, .inr ⟨rfl, w3, HRF.out, HFR.out, HFB.out _⟩⟩
    | false =>
      go_wp2
      refine leaves_cons (f := 84) (args := #[.pointer (some ⟨w.heap.size, 0, none⟩)]) (by simp) (by simp [go_sem]) ?_
      refine (answerCatch_idle ⟨w.heap.size, 0, none⟩ _).mono ?_
      rintro e u' w'' ⟨rfl, rfl, rfl⟩
      simp [Leaves, settle, results, Tryz.results43, go_sem]
      refine ⟨.string ⟨#[110, 111]⟩, by rw [HCE.out], t, .inl ⟨rfl, w3, HRF.out, HFR.out, HFB.out _⟩⟩
end Go.Proofs.YtaelkgpebhdlhaaGreatDoor
