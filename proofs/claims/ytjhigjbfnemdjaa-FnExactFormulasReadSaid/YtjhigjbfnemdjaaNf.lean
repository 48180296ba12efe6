/-
  The finder, as it is made.
-/
import Derived.Test.YtjhigjbfnemdjaaFn
import Derived.Test.YtjhigjbfnemdjaaRw
namespace Go.Proofs.Ytjhigjbfnemdjaa
open Go.RowKit Go.Maps
set_option maxRecDepth 100000
set_option linter.unusedVariables false

theorem insert_run {w : World} {ops : Array Oper} {rest : List Oper} {o : Oper} {a : Act} {Q : Exit → Act → World → Prop} (hg : o.guard = none) (m x v : Operand) (t : TypeId) (hop : o.op = Op.insert t m x v)
    (vm vx vv : Value) (e1 : a.eval m = vm) (e2 : a.eval x = vx) (e3 : a.eval v = vv) (w2 : World) (hr : (Instr.mapUpdate t vm vx vv).run Try.prog w = .ok () w2) (h : wpList Try.prog ops Q rest (a.put o.dst undef) w2) : wpList Try.prog ops Q (o :: rest) a w := by
  refine wpList_plain hg (fun K hK => ?_)
  have hk := hK _ _ h
  unfold Oper.wp
  simp [execOp, hop, e1, e2, e3, hr, Result.andThen]
  exact hk
theorem ints_set {w : World} {B o : Nat} {v : Value} {t : TypeId} (h : ∃ cur, w.heap[B]? = some (.cells cur t (0, 0))) (ht : t ≠ 3) : (∃ cur, (w.setCell ⟨B, o, none⟩ v).heap[B]? = some (.cells cur t (0, 0))) ∧
    ∀ (g : Nat) (cur : Array Value), w.heap[g]? = some (.cells cur 3 (0, 0)) → (w.setCell ⟨B, o, none⟩ v).heap[g]? = w.heap[g]? := by
  obtain ⟨c0, h⟩ := h
  refine ⟨⟨c0.setIfInBounds o v, by simp [World.setCell, Array.getElem?_modify, h]⟩, fun g cur hg => Below.heap_setCell _ _ _ _ (fun e => ?_)⟩
  have e2 : B = g := by simp at e; omega
  subst e2
  rw [h] at hg
  injection hg with hg
  injection hg with _ h2
  exact ht h2
theorem FInv.setBox [Lo] {fs : List Fm} {s : List Int} {l : Nat} {w : World} {b B o : Nat} {v : Value} {t : TypeId} (hF : FInv fs s l w b) (h : ∃ cur, w.heap[B]? = some (.cells cur t (0, 0))) (ht : t ≠ 3) (hb : b ≠ B) : FInv fs s l (w.setCell ⟨B, o, none⟩ v) b :=
  hF.keep (Below.heap_setCell _ _ _ _ (fun e => hb (by simp at e; omega))) (ints_set h ht).2

def Finder [Lo] (fs : List Fm) (s : List Int) (v u : Value) (w : World) (e : Ending) (w' : World) : Prop :=
  ((fok fs s = true ∧ ∃ b, e = .returned (.tuple #[.agg #[v, u, .map (some b)], .bool true]) ∧ FInv fs s s.length w' b ∧ w.heap.size ≤ b) ∨
    (fok fs s = false ∧ e = .returned (.tuple #[.agg #[.slice none 0 0, .slice none 0 0, .map none], .bool false]))) ∧ Below w.heap.size w w'

set_option maxHeartbeats 4000000 in
theorem newFinder_any [Lo] (v u : Value) (fs : List Fm) (s : List Int) (w : World) (h : FV w v fs) (k : IV w u s) : Calls Try.prog 41 #[v, u] w (Finder fs s v u w) := by
  have HV := Lib.hid (fun w' (hb : Below w.heap.size w w') => formulasValid_any v fs w' (h.below hb))
  have HS := Lib.hid (fun w' (hb : Below w.heap.size w w') => stepsValid_any u s 23 20 (by omega) (by omega) w' (k.below hb))
  have hfk : fok fs s = (fv fs && stq 23 20 s) := rfl
  obtain ⟨a, c, rfl, _, _, _⟩ := h
  obtain ⟨a', c', rfl, _, _, _⟩ := k
  cases hv : fv fs with
  | false =>
    rw [hv] at HV
    rw [hv, Bool.false_and] at hfk
    have HF := Lib.hid hfk
    clear hfk
    go_enter Try.func41, Try.ntmps41
    go_wp2_with (fail)
    (go_at_call 50; refine (HV.out _ (by (repeat' (first | (with_reducible exact Below.refl _ _) | (with_reducible refine Below.alloc ?_ ?_ _) | (with_reducible refine Below.drew ?_) | (with_reducible refine Below.setCell ?_ ?_ _) | (with_reducible refine bl_step ?_ (by assumption)) | go_size)))).mono ?_; rintro e w1 ⟨rfl, hb1⟩; obtain ⟨hc1, hf1, hz1⟩ := bl hb1; (try simp at hz1); (try (refine got (p := w.heap.size < w1.heap.size) ?_ ?_; (focus (go_size; done)); intro q1_w0)); (try (refine got (p := w1.cell? ⟨w.heap.size, 0, none⟩ = some (.slice none 0 0)) ?_ ?_; (focus (refine (hc1 _ _ ?_).trans ?_; (focus (go_size; done)); go_simp; done)); intro c1_w0_0)); (try (refine got (p := w1.cell? ⟨w.heap.size, 1, none⟩ = some (.slice none 0 0)) ?_ ?_; (focus (refine (hc1 _ _ ?_).trans ?_; (focus (go_size; done)); go_simp; done)); intro c1_w0_1)); (try (refine got (p := w1.cell? ⟨w.heap.size, 2, none⟩ = some (.map none)) ?_ ?_; (focus (refine (hc1 _ _ ?_).trans ?_; (focus (go_size; done)); go_simp; done)); intro c1_w0_2)); (try (refine got (p := ∀ o, w1.frozen? ⟨w.heap.size, o, none⟩ = false) ?_ ?_; (focus (intro o; refine (hf1 _ _ ?_).trans ?_; (focus (go_size; done)); go_simp; done)); intro f1_w0)); clear hc1 hf1)
    go_wp2
    refine bodyPost_ret (v := .tuple #[.agg #[.slice none 0 0, .slice none 0 0, .map none], .bool false]) (by simp only [results, Try.results41]; go_simp) rfl ⟨.inr ⟨HF.out, rfl⟩, ?_⟩
    (repeat' (first | (with_reducible exact Below.refl _ _) | (with_reducible refine Below.alloc ?_ ?_ _) | (with_reducible refine Below.drew ?_) | (with_reducible refine Below.setCell ?_ ?_ _) | (with_reducible refine bl_step ?_ (by assumption)) | go_size))
  | true =>
    rw [hv] at HV
    rw [hv, Bool.true_and] at hfk
    cases hq : stq 23 20 s with
    | false =>
      rw [hq] at HS hfk
      have HF := Lib.hid hfk
      clear hfk
      go_enter Try.func41, Try.ntmps41
      go_wp2_with (fail)
      (go_at_call 50; refine (HV.out _ (by (repeat' (first | (with_reducible exact Below.refl _ _) | (with_reducible refine Below.alloc ?_ ?_ _) | (with_reducible refine Below.drew ?_) | (with_reducible refine Below.setCell ?_ ?_ _) | (with_reducible refine bl_step ?_ (by assumption)) | go_size)))).mono ?_; rintro e w1 ⟨rfl, hb1⟩; obtain ⟨hc1, hf1, hz1⟩ := bl hb1; (try simp at hz1); (try (refine got (p := w.heap.size < w1.heap.size) ?_ ?_; (focus (go_size; done)); intro q1_w0)); (try (refine got (p := w1.cell? ⟨w.heap.size, 0, none⟩ = some (.slice none 0 0)) ?_ ?_; (focus (refine (hc1 _ _ ?_).trans ?_; (focus (go_size; done)); go_simp; done)); intro c1_w0_0)); (try (refine got (p := w1.cell? ⟨w.heap.size, 1, none⟩ = some (.slice none 0 0)) ?_ ?_; (focus (refine (hc1 _ _ ?_).trans ?_; (focus (go_size; done)); go_simp; done)); intro c1_w0_1)); (try (refine got (p := w1.cell? ⟨w.heap.size, 2, none⟩ = some (.map none)) ?_ ?_; (focus (refine (hc1 _ _ ?_).trans ?_; (focus (go_size; done)); go_simp; done)); intro c1_w0_2)); (try (refine got (p := ∀ o, w1.frozen? ⟨w.heap.size, o, none⟩ = false) ?_ ?_; (focus (intro o; refine (hf1 _ _ ?_).trans ?_; (focus (go_size; done)); go_simp; done)); intro f1_w0)); clear hc1 hf1)
      go_wp2_with (fail)
      (go_at_call 67; refine (HS.out _ (by (repeat' (first | (with_reducible exact Below.refl _ _) | (with_reducible refine Below.alloc ?_ ?_ _) | (with_reducible refine Below.drew ?_) | (with_reducible refine Below.setCell ?_ ?_ _) | (with_reducible refine bl_step ?_ (by assumption)) | go_size)))).mono ?_; rintro e wx ⟨rfl, rfl⟩)
      go_wp2
      refine bodyPost_ret (v := .tuple #[.agg #[.slice none 0 0, .slice none 0 0, .map none], .bool false]) (by simp only [results, Try.results41]; go_simp) rfl ⟨.inr ⟨HF.out, rfl⟩, ?_⟩
      (repeat' (first | (with_reducible exact Below.refl _ _) | (with_reducible refine Below.alloc ?_ ?_ _) | (with_reducible refine Below.drew ?_) | (with_reducible refine Below.setCell ?_ ?_ _) | (with_reducible refine bl_step ?_ (by assumption)) | go_size))
    | true =>
      rw [hq] at HS hfk
      have HF := Lib.hid hfk
      clear hfk
      have hsl := (fok_parts HF.out).2
      have hmk := @run_makeMap Try.prog
      go_enter Try.func41, Try.ntmps41
      go_wp2_with (fail)
      (go_at_call 50; refine (HV.out _ (by (repeat' (first | (with_reducible exact Below.refl _ _) | (with_reducible refine Below.alloc ?_ ?_ _) | (with_reducible refine Below.drew ?_) | (with_reducible refine Below.setCell ?_ ?_ _) | (with_reducible refine bl_step ?_ (by assumption)) | go_size)))).mono ?_; rintro e w1 ⟨rfl, hb1⟩; obtain ⟨hc1, hf1, hz1⟩ := bl hb1; (try simp at hz1); (try (refine got (p := w.heap.size < w1.heap.size) ?_ ?_; (focus (go_size; done)); intro q1_w0)); (try (refine got (p := w1.cell? ⟨w.heap.size, 0, none⟩ = some (.slice none 0 0)) ?_ ?_; (focus (refine (hc1 _ _ ?_).trans ?_; (focus (go_size; done)); go_simp; done)); intro c1_w0_0)); (try (refine got (p := w1.cell? ⟨w.heap.size, 1, none⟩ = some (.slice none 0 0)) ?_ ?_; (focus (refine (hc1 _ _ ?_).trans ?_; (focus (go_size; done)); go_simp; done)); intro c1_w0_1)); (try (refine got (p := w1.cell? ⟨w.heap.size, 2, none⟩ = some (.map none)) ?_ ?_; (focus (refine (hc1 _ _ ?_).trans ?_; (focus (go_size; done)); go_simp; done)); intro c1_w0_2)); (try (refine got (p := ∀ o, w1.frozen? ⟨w.heap.size, o, none⟩ = false) ?_ ?_; (focus (intro o; refine (hf1 _ _ ?_).trans ?_; (focus (go_size; done)); go_simp; done)); intro f1_w0)); clear hc1 hf1)
      have hb1' : Below w.heap.size w w1 := by (repeat' (first | (with_reducible exact Below.refl _ _) | (with_reducible refine Below.alloc ?_ ?_ _) | (with_reducible refine Below.drew ?_) | (with_reducible refine Below.setCell ?_ ?_ _) | (with_reducible refine bl_step ?_ (by assumption)) | go_size))
      go_wp2_with (fail)
      (go_at_call 67; refine (HS.out _ (by (repeat' (first | (with_reducible exact Below.refl _ _) | (with_reducible refine Below.alloc ?_ ?_ _) | (with_reducible refine Below.drew ?_) | (with_reducible refine Below.setCell ?_ ?_ _) | (with_reducible refine bl_step ?_ (by assumption)) | go_size)))).mono ?_; rintro e wx ⟨rfl, rfl⟩)
      have hown0 := World.ownsMap_made w1 Try.prog 3 asIs
      obtain ⟨w2, hrun, hown1, hg2⟩ := hown0.update keyedInt Try.underlying61 (by unfold maxLen; omega) (key := .int .i64 (s.length : Int)) (val := rdV Rs.one (.slice none 0 0)) (kq_key (q := s.length) (by omega)) rfl
      have hfi := FInv.made (fs := fs) hown0 hown1
      have hbz : w1.heap.size < (w1.alloc (.map #[] 0)).heap.size := by simp
      have hb2 : Below w1.heap.size w1 w2 := ((Below.refl w1.heap.size w1).alloc (Nat.le_refl _) (.map #[] 0)).grown hg2 (by simp) (fun k hk => by injection hk with hk; omega)
      have HFI := Lib.hid hfi
      have HRUN := Lib.hid hrun
      have HB2 := Lib.hid hb2
      clear hfi hrun hown1 hown0 hg2 hb2
      obtain ⟨hc2, hf2, hz2⟩ := bl HB2.out
      have k0 : w2.cell? ⟨w.heap.size, 0, none⟩ = some (.slice none 0 0) := (hc2 _ _ (by go_size)).trans (by assumption)
      have k1 : w2.cell? ⟨w.heap.size, 1, none⟩ = some (.slice none 0 0) := (hc2 _ _ (by go_size)).trans (by assumption)
      have k2 : w2.cell? ⟨w.heap.size, 2, none⟩ = some (.map none) := (hc2 _ _ (by go_size)).trans (by assumption)
      have kf : ∀ o, w2.frozen? ⟨w.heap.size, o, none⟩ = false := fun o => (hf2 _ _ (by go_size)).trans (by simp [*])
      clear hc2 hf2
      go_wp2_with (refine insert_run rfl _ _ _ _ rfl _ _ _ rfl rfl rfl w2 HRUN.out ?_)
      refine bodyPost_ret (v := .tuple #[.agg #[.slice a fs.length c, .slice a' s.length c', .map (some w1.heap.size)], .bool true]) (by simp only [results, Try.results41]; go_simp) rfl ⟨.inl ⟨HF.out, _, rfl, ?_, ?_⟩, ?_⟩
      · have hne : w1.heap.size ≠ w.heap.size := by have := hb1'.size; have := hz1; omega
        have hk0 : ∃ cur, w2.heap[w.heap.size]? = some (.cells cur 63 (0, 0)) := ⟨_, (HB2.out.block _ (by omega)).trans ((hb1.block _ (by simp)).trans (heap_alloc_new w _))⟩
        have hk1 := (ints_set (o := 0) (v := Value.slice a fs.length c) hk0 (by decide)).1
        have hk2 := (ints_set (o := 1) (v := Value.slice a' s.length c') hk1 (by decide)).1
        exact ((HFI.out.setBox hk0 (by decide) hne).setBox hk1 (by decide) hne).setBox hk2 (by decide) hne
      · have := hb1'.size; omega
      · have hbw := bl_step hb1' HB2.out
        (repeat' (first | (with_reducible exact Below.refl _ _) | (with_reducible refine Below.alloc ?_ ?_ _) | (with_reducible refine Below.drew ?_) | (with_reducible refine Below.setCell ?_ ?_ _) | (with_reducible refine bl_step ?_ (by assumption)) | go_size))
end Go.Proofs.Ytjhigjbfnemdjaa
