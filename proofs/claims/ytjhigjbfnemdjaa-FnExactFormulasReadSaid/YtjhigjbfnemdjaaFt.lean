/-
  A law's formulas made into the program's: a new slice, and a new list for each formula.
-/
import Derived.Test.YtjhigjbfnemdjaaFh
namespace Go.Proofs.Ytjhigjbfnemdjaa
open Go.RowKit
set_option maxRecDepth 100000
set_option linter.unusedVariables false

theorem infoForm : (Try.prog.info? 59).map (fun i => (i.zero, i.size, i.bytes)) = some (some (.agg #[.slice none 0 0, .int .i64 0]), 2, 32) := by kernel_rfl
/-- a list of formulas that a call has built: its memory is its own -/
def FBuilt (w : World) (fs : List Fm) (e : Ending) (w' : World) : Prop :=
  ∃ v us, e = .returned v ∧ FRow w' w.heap.size w'.heap.size v us fs ∧ Sep us ∧ Below w.heap.size w w'

theorem toForm_any (a : Option Addr) (c : Nat) (xs : List Int) (wt : Int) (w : World) (h : ArgI w a xs) (hn : xs.length ≤ 1048576) :
    Calls Try.prog 40 #[.agg #[.slice a xs.length c, .int .i64 wt]] w fun e w' => ∃ v, e = .returned (.agg #[v, .int .i64 wt]) ∧ IRow w' w.heap.size w'.heap.size v xs ∧ Below w.heap.size w w' := by
  have HT := Lib.hid (fun w' (hb : Below w.heap.size w w') => toIntS_any a c xs w' (h.below hb) hn)
  go_enter Try.func40, Try.ntmps40
  go_wp2_with (fail)
  (go_at_call 12; refine (HT.out _ (by (repeat' (first | (with_reducible exact Below.refl _ _) | (with_reducible refine Below.alloc ?_ ?_ _) | (with_reducible refine Below.drew ?_) | (with_reducible refine Below.setCell ?_ ?_ _) | (with_reducible refine bl_step ?_ (by assumption)) | go_size)))).mono ?_; rintro e w1 ⟨v, rfl, hr, hb1⟩; obtain ⟨hc1, hf1, hz1⟩ := bl hb1; (try simp at hz1); (try (refine got (p := w.heap.size < w1.heap.size) ?_ ?_; (focus (go_size; done)); intro q1_w0)); (try (refine got (p := w1.cell? ⟨w.heap.size, 0, none⟩ = some (.slice a xs.length c)) ?_ ?_; (focus (refine (hc1 _ _ ?_).trans ?_; (focus (go_size; done)); go_simp; done)); intro c1_w0_0)); (try (refine got (p := w1.cell? ⟨w.heap.size, 1, none⟩ = some (.int .i64 wt)) ?_ ?_; (focus (refine (hc1 _ _ ?_).trans ?_; (focus (go_size; done)); go_simp; done)); intro c1_w0_1)); (try (refine got (p := ∀ o, w1.frozen? ⟨w.heap.size, o, none⟩ = false) ?_ ?_; (focus (intro o; refine (hf1 _ _ ?_).trans ?_; (focus (go_size; done)); go_simp; done)); intro f1_w0)); (try (refine got (p := w.heap.size + 1 < w1.heap.size) ?_ ?_; (focus (go_size; done)); intro q1_w1)); (try (refine got (p := w1.cell? ⟨w.heap.size + 1, 0, none⟩ = some (.slice none 0 0)) ?_ ?_; (focus (refine (hc1 _ _ ?_).trans ?_; (focus (go_size; done)); go_simp; done)); intro c1_w1_0)); (try (refine got (p := w1.cell? ⟨w.heap.size + 1, 1, none⟩ = some (.int .i64 0)) ?_ ?_; (focus (refine (hc1 _ _ ?_).trans ?_; (focus (go_size; done)); go_simp; done)); intro c1_w1_1)); (try (refine got (p := ∀ o, w1.frozen? ⟨w.heap.size + 1, o, none⟩ = false) ?_ ?_; (focus (intro o; refine (hf1 _ _ ?_).trans ?_; (focus (go_size; done)); go_simp; done)); intro f1_w1)); (try (refine got (p := w.heap.size + 2 < w1.heap.size) ?_ ?_; (focus (go_size; done)); intro q1_w2)); (try (refine got (p := w1.cell? ⟨w.heap.size + 2, 0, none⟩ = some (.slice none 0 0)) ?_ ?_; (focus (refine (hc1 _ _ ?_).trans ?_; (focus (go_size; done)); go_simp; done)); intro c1_w2_0)); (try (refine got (p := w1.cell? ⟨w.heap.size + 2, 1, none⟩ = some (.int .i64 0)) ?_ ?_; (focus (refine (hc1 _ _ ?_).trans ?_; (focus (go_size; done)); go_simp; done)); intro c1_w2_1)); (try (refine got (p := ∀ o, w1.frozen? ⟨w.heap.size + 2, o, none⟩ = false) ?_ ?_; (focus (intro o; refine (hf1 _ _ ?_).trans ?_; (focus (go_size; done)); go_simp; done)); intro f1_w2)); clear hc1 hf1)
  have hr2 : IRow w1 (w.heap.size + 3) w1.heap.size v xs := by simpa using hr
  obtain ⟨b, d, rfl, _, _, _⟩ := hr2.view
  have HR := Lib.hid hr2
  clear hr hr2
  go_wp2
  refine bodyPost_ret (v := .agg #[.slice b xs.length d, .int .i64 wt]) (by simp only [results, Try.results40]; go_simp) rfl ⟨_, rfl, ?_, ?_⟩
  · refine (HR.out.lohi (lo' := w.heap.size + 3) (Nat.le_refl _) (Nat.le_refl _)).keep (fun k _ h1 _ => ?_) |>.lohi (by omega) (by simp [World.setCell])
    repeat rw [Below.heap_setCell _ _ _ _ (by simp; omega)]
  · (repeat' (first | (with_reducible exact Below.refl _ _) | (with_reducible refine Below.alloc ?_ ?_ _) | (with_reducible refine Below.drew ?_) | (with_reducible refine Below.setCell ?_ ?_ _) | (with_reducible refine bl_step ?_ (by assumption)) | go_size))

theorem Sep.snoc {us : List Value} {u : Value} {n : Nat} (h : Sep us) (hlt : ∀ v ∈ us, ∀ g, v.ownBlock = some g → g < n) (hu : ∀ g, u.ownBlock = some g → n ≤ g) : Sep (us ++ [u]) := by
  intro i j x y hx hy hij g hg hg2
  rcases Nat.lt_trichotomy j us.length with hj | hj | hj
  · rw [List.getElem?_append_left hj] at hy
    rw [List.getElem?_append_left (by omega)] at hx
    exact h i j x y hx hy hij g hg hg2
  · subst hj
    rw [List.getElem?_append_left hij] at hx
    have e : y = u := by simpa using hy.symm
    subst e
    have h1 := hlt x (List.mem_of_getElem? hx) g hg
    have h2 := hu g hg2
    omega
  · have : (us ++ [u])[j]? = none := List.getElem?_eq_none (by simp; omega)
    rw [this] at hy; cases hy

/-- k formulas have been stored -/
def FsInv (w wr : World) (n : Nat) (fs : List Fm) (us : List Value) (k : Nat) : Prop :=
  (∃ cur, wr.heap[w.heap.size]? = some (.cells cur 59 (0, 0)) ∧ cur.size = n * 2 ∧ cur.toList.take (k * 2) = fcs us (fs.take k)) ∧ us.length = k ∧
    (∀ (i : Nat) (u : Value) (f : Fm), us[i]? = some u → fs[i]? = some f → IRow wr (w.heap.size + 1) wr.heap.size u f.1) ∧ Sep us ∧ (∀ v ∈ us, ∀ g, v.ownBlock = some g → g < wr.heap.size) ∧ Below w.heap.size w wr
theorem FsInv.next {w wr w2 : World} {n k : Nat} {fs : List Fm} {us : List Value} {xs : List Int} {wt : Int} {u : Value} (h : FsInv w wr n fs us k) (hb : Below wr.heap.size wr w2)
    (hu : IRow w2 wr.heap.size w2.heap.size u xs) (hf : fs[k]? = some (xs, wt)) (hk : k < n) :
    FsInv w ((w2.setCell ⟨w.heap.size, k * 2, none⟩ u).setCell ⟨w.heap.size, k * 2 + 1, none⟩ (.int .i64 wt)) n fs (us ++ [u]) (k + 1) := by
  obtain ⟨⟨cur, hh, hsz, htk⟩, hl, hrow, hsep, hlt, hbw⟩ := h
  have hgs : w.heap.size < wr.heap.size := by
    rcases Nat.lt_or_ge w.heap.size wr.heap.size with h | h
    · exact h
    · rw [Array.getElem?_eq_none h] at hh; cases hh
  have hh2 := (hb.block _ hgs).trans hh
  have hkeep : ∀ q, q ≠ w.heap.size → ((w2.setCell ⟨w.heap.size, k * 2, none⟩ u).setCell ⟨w.heap.size, k * 2 + 1, none⟩ (.int .i64 wt)).heap[q]? = w2.heap[q]? := fun q hq => by
    rw [Below.heap_setCell _ _ _ _ (fun e => hq (by simpa using e)), Below.heap_setCell _ _ _ _ (fun e => hq (by simpa using e))]
  have hsize : ((w2.setCell ⟨w.heap.size, k * 2, none⟩ u).setCell ⟨w.heap.size, k * 2 + 1, none⟩ (.int .i64 wt)).heap.size = w2.heap.size := by simp [World.setCell]
  refine ⟨⟨(cur.setIfInBounds (k * 2) u).setIfInBounds (k * 2 + 1) (.int .i64 wt), ?_, by simp [hsz], ?_⟩, by simp [hl], ?_, hsep.snoc hlt (fun g hg => ?_), ?_, ((bl_step hbw hb).setCell (by simp) _).setCell (by simp) _⟩
  · simp [World.setCell, Array.getElem?_modify, hh2]
  · have hk2 : k * 2 + 1 < cur.toList.length := by simp; omega
    have hx : fs.take (k + 1) = fs.take k ++ [(xs, wt)] := by rw [List.take_add_one, hf]; rfl
    have hfl : us.length = (fs.take k).length := by
      have := (List.getElem?_eq_some_iff.1 hf).1
      simp; omega
    rw [hx, fcs_app hfl, ← htk, Array.toList_setIfInBounds, Array.toList_setIfInBounds]
    generalize cur.toList = l at hk2
    rw [show (k + 1) * 2 = k * 2 + 1 + 1 by omega, List.take_add_one, List.take_add_one, List.take_set_of_le (by omega), List.take_set_of_le (by omega)]
    have a1 : k * 2 < l.length := by omega
    simp [fcs, a1, hk2]
  · intro i x f hx hfi
    have hall : IRow w2 (w.heap.size + 1) w2.heap.size x f.1 := by
      rcases Nat.lt_trichotomy i us.length with hi | hi | hi
      · rw [List.getElem?_append_left hi] at hx
        exact ((hrow i x f hx hfi).below hb (.inl (Nat.le_refl _))).lohi (Nat.le_refl _) hb.size
      · subst hi
        have e : x = u := by simpa using hx.symm
        subst e
        rw [hl, hf] at hfi
        injection hfi with hfi
        subst hfi
        exact hu.lohi hgs (Nat.le_refl _)
      · have : (us ++ [u])[i]? = none := List.getElem?_eq_none (by simp; omega)
        rw [this] at hx; cases hx
    rw [hsize]
    exact hall.keep fun q _ h1 _ => hkeep q (by omega)
  · obtain ⟨ho, hlu⟩ := hu
    obtain ⟨_, h | ⟨g', cap, cur, rfl, hb', _⟩⟩ := ho
    · rw [h.1] at hg; simp [Value.ownBlock] at hg
    · have e : g' = g := by simpa [Value.ownBlock] using hg
      omega
  · intro v hv g hg
    rw [hsize]
    rw [List.mem_append] at hv
    rcases hv with hv | hv
    · exact Nat.lt_of_lt_of_le (hlt v hv g hg) hb.size
    · have e : v = u := by simpa using hv
      subst e
      exact hu.2 g hg
theorem FsInv.built {w wr : World} {fs : List Fm} {us : List Value} (h : FsInv w wr fs.length fs us fs.length) (hm : fs.length ≤ maxLen) : FBuilt w fs (.returned (.slice (some ⟨w.heap.size, 0, none⟩) fs.length fs.length)) wr := by
  obtain ⟨⟨cur, hh, hsz, htk⟩, hl, hrow, hsep, hlt, hbw⟩ := h
  have hgs : w.heap.size < wr.heap.size := by
    rcases Nat.lt_or_ge w.heap.size wr.heap.size with h | h
    · exact h
    · rw [Array.getElem?_eq_none h] at hh; cases hh
  refine ⟨_, us, rfl, ⟨⟨fcs_len hl, .inr ⟨_, _, cur, rfl, Nat.le_refl _, hh, Nat.le_refl _, hm, hsz, by simpa using htk⟩⟩, fun g hg => ?_, hl, fun i u f hu hf => (hrow i u f hu hf).lohi (by omega) (Nat.le_refl _)⟩, hsep, hbw⟩
  have : g = w.heap.size := by simpa [Value.ownBlock] using hg.symm
  omega

set_option maxHeartbeats 4000000 in
theorem toFormS_any (a : Option Addr) (c : Nat) (fs : List Fm) (w : World) (h : ArgF w a fs) (hn : fs.length + szf fs ≤ 1048576) :
    Calls Try.prog 11 #[.slice a fs.length c] w (FBuilt w fs) := by
  obtain ⟨i0, hi, hq0, hq1, hq2⟩ := info_parts infoForm
  have HA := Lib.hid h
  clear h
  go_enter Try.func11, Try.ntmps11
  go_wp2_with (at_make; refine wpList_make_full _ rfl _ _ 26 rfl w.heap.size 59 i0 (.agg #[.slice none 0 0, .int .i64 0]) 2 Try.underlying26 hi hq0 hq1 _ _ _ _ fs.length rfl rfl rfl rfl ?c1 ?c2 ?c3 ?_)
  case c1 => rw [hq2]; omega
  case c2 => unfold maxLen; omega
  case c3 => exact Nat.le_refl _
  intro w1 hown hg
  have h0 : FsInv w w1 fs.length fs [] 0 := by
    obtain ⟨hl, h1 | ⟨g, cap, cur, hv, _, hh, _, _, hsz, _⟩⟩ := hown
    · cases h1.1
    · injection hv with hv1 _ hv2
      injection hv1 with hv1
      injection hv1 with hv1
      subst hv1 hv2
      exact ⟨⟨cur, hh, hsz, by simp [fcs]⟩, rfl, fun i u f hu => by simp at hu, fun i j u v hu => by simp at hu, fun v hv => (by cases hv), ⟨hg.os, hg.tape, hg.output, hg.size, fun i hi => hg.block i hi (fun e => by cases e)⟩⟩
  clear hown hg
  go_wp2
  go_loopw [4] (fun i wr => ∃ k : Nat, k ≤ fs.length ∧ i = .int .i64 k ∧ ∃ us, FsInv w wr fs.length fs us k) (fun i _ => fs.length - (intOf i).toNat)
  case atStart => exact ⟨0, Nat.zero_le _, rfl, [], h0⟩
  case round =>
    obtain ⟨k, hk, rfl, us, hinv⟩ := hrel
    by_cases hlt : k < fs.length
    · obtain ⟨xs, wt, hx⟩ := fs_get hlt
      have hne : fs ≠ [] := by rintro rfl; simp at hlt
      rcases HA.out with h | ⟨A, off, rfl, hA, hc⟩
      · exact absurd h hne
      obtain ⟨p, e1, hu, e2⟩ := hc k _ hx
      have hb : Below w.heap.size w wr := hinv.2.2.2.2.2
      have e1 := (hb.cell (p := ⟨A, off + k * 2, none⟩) hA).trans e1
      have e2 := (hb.cell (p := ⟨A, off + k * 2 + 1, none⟩) hA).trans e2
      have hu := hu.below hb
      obtain ⟨a', c', rfl, hu, _, _⟩ := hu
      have hxl : xs.length ≤ 1048576 := by have := szf_get hx; simp at this; omega
      have hk0 : (0 : Int) ≤ (k : Int) := by omega
      have hk1 : (k : Int) < (fs.length : Int) := by omega
      have hgs : w.heap.size < wr.heap.size := by
        obtain ⟨⟨cur, hh, _⟩, _⟩ := hinv
        rcases Nat.lt_or_ge w.heap.size wr.heap.size with h | h
        · exact h
        · rw [Array.getElem?_eq_none h] at hh; cases hh
      have HI := Lib.hid hinv
      clear hc hne hinv h0
      go_wp2_with (fail)
      (go_at_call 40; refine (toForm_any a' c' xs wt _ (hu.below (by (repeat' (first | (with_reducible exact Below.refl _ _) | (with_reducible refine Below.alloc ?_ ?_ _) | (with_reducible refine Below.drew ?_) | (with_reducible refine Below.setCell ?_ ?_ _) | (with_reducible refine bl_step ?_ (by assumption)) | go_size)))) hxl).mono ?_; rintro e w2 ⟨z, rfl, hz, hb2⟩)
      have hd : ∃ cur, w2.heap[w.heap.size]? = some (.cells cur 59 (0, 0)) ∧ cur.size = fs.length * 2 := by
        obtain ⟨⟨cur, hh, hsz, _⟩, _⟩ := HI.out
        exact ⟨cur, (hb2.block _ hgs).trans hh, hsz⟩
      obtain ⟨cur, hh2, hsz⟩ := hd
      have k0 : k * 2 < cur.size := by omega
      have k1 : k * 2 + 1 < cur.size := by omega
      have d0 : w2.cell? ⟨w.heap.size, k * 2, none⟩ = some cur[k * 2] := by simp [World.cell?, hh2, Array.getElem?_eq_getElem k0]
      have d1 : w2.cell? ⟨w.heap.size, k * 2 + 1, none⟩ = some cur[k * 2 + 1] := by simp [World.cell?, hh2, Array.getElem?_eq_getElem k1]
      have df : ∀ o, w2.frozen? ⟨w.heap.size, o, none⟩ = false := fun o => by simp [World.frozen?, hh2]
      have HX := Lib.hid (FsInv.next HI.out hb2 hz hx hlt)
      obtain ⟨zb, zc, rfl, _, _, _⟩ := hz.view
      clear hsz hz
      go_wp2
      go_roundw
      case rel => exact ⟨k + 1, by omega, by go_num, _, HX.out⟩
      case measure => simp [intOf]; omega
    · have hkn : k = fs.length := by omega
      subst hkn
      have HT := Lib.hid (hinv.built (by unfold maxLen; omega))
      clear hinv h0
      go_wp2
      go_ret
      exact HT.out
end Go.Proofs.Ytjhigjbfnemdjaa
