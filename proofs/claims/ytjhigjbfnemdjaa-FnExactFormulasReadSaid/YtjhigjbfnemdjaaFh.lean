/-
  The exact laws' helpers on lists of formulas: measured, made into the program's, compared, marked and read again.
-/
import Derived.Test.YtjhigjbfnemdjaaFl
namespace Go.Proofs.Ytjhigjbfnemdjaa
open Go.RowKit
set_option maxRecDepth 100000
set_option linter.unusedVariables false

/-- how much a list of formulas holds -/
def szf (fs : List Fm) : Nat := (fs.map fun f => f.1.length).sum
theorem szf_succ {fs : List Fm} {k : Nat} {f : Fm} (h : fs[k]? = some f) : szf (fs.take (k + 1)) = szf (fs.take k) + f.1.length := by
  unfold szf
  rw [List.take_add_one, h]
  simp
theorem sum_take_le (l : List Nat) (k : Nat) : (l.take k).sum ≤ l.sum := by
  induction l generalizing k with
  | nil => simp
  | cons a r ih => cases k with
    | zero => simp
    | succ j => simp; exact ih j
theorem szf_take_le (fs : List Fm) (k : Nat) : szf (fs.take k) ≤ szf fs := by
  unfold szf
  rw [List.map_take]
  exact sum_take_le _ _
theorem szf_get {fs : List Fm} {k : Nat} {f : Fm} (h : fs[k]? = some f) : f.1.length ≤ szf fs := by
  have h1 := szf_succ h
  have h2 := szf_take_le fs (k + 1)
  omega
theorem fs_get {fs : List Fm} {k : Nat} (h : k < fs.length) : ∃ xs wt, fs[k]? = some (xs, wt) := ⟨fs[k].1, fs[k].2, List.getElem?_eq_getElem h⟩

set_option maxHeartbeats 2000000 in
theorem szForm_any (u : Value) (xs : List Int) (wt : Int) (l : Nat) (hl : l ≤ 1048576) (w : World) (h : IV w u xs) :
    Calls Try.prog 36 #[.agg #[u, .int .i64 wt], .int .i64 l] w fun e w' => e = .returned (.int .i64 (if xs.length ≤ l then (l : Int) - (xs.length : Int) else -1)) ∧ Below w.heap.size w w' := by
  have hlen := h.len
  obtain ⟨a, c, rfl, ha, hc1, hc2⟩ := h
  have HS := Lib.hid (fun w => szInt_any a xs.length c hlen l hl w)
  by_cases hx : xs.length ≤ l
  · rw [if_pos hx] at HS ⊢
    have g : decide ((l : Int) - (xs.length : Int) < 0) = false := by simp; omega
    go_enter Try.func36, Try.ntmps36
    go_wp2_with (fail)
    (go_at_call 64; refine (HS.out _).mono ?_; rintro e wx ⟨rfl, rfl⟩)
    go_wp2
    go_ret
    exact ⟨rfl, by (repeat' (first | (with_reducible exact Below.refl _ _) | (with_reducible refine Below.alloc ?_ ?_ _) | (with_reducible refine Below.drew ?_) | (with_reducible refine Below.setCell ?_ ?_ _) | (with_reducible refine bl_step ?_ (by assumption)) | go_size))⟩
  · rw [if_neg hx] at HS ⊢
    go_enter Try.func36, Try.ntmps36
    go_wp2_with (fail)
    (go_at_call 64; refine (HS.out _).mono ?_; rintro e wx ⟨rfl, rfl⟩)
    go_wp2
    go_ret
    exact ⟨rfl, by (repeat' (first | (with_reducible exact Below.refl _ _) | (with_reducible refine Below.alloc ?_ ?_ _) | (with_reducible refine Below.drew ?_) | (with_reducible refine Below.setCell ?_ ?_ _) | (with_reducible refine bl_step ?_ (by assumption)) | go_size))⟩

/-- what the measure says of so many -/
def szAns (n : Nat) : Int := if n ≤ 1048576 then 1048576 - (n : Int) else -1
theorem szAns_yes {n : Nat} (h : n ≤ 1048576) : szAns n = 1048576 - (n : Int) := by unfold szAns; rw [if_pos h]
theorem szAns_no {n : Nat} (h : ¬ n ≤ 1048576) : szAns n = -1 := by unfold szAns; rw [if_neg h]
set_option maxHeartbeats 4000000 in
theorem szFormS_any (a : Option Addr) (c : Nat) (fs : List Fm) (w : World) (h : ArgF w a fs) (hc1 : fs.length ≤ c) (hc2 : c ≤ maxLen) :
    Calls Try.prog 9 #[.slice a fs.length c, .int .i64 1048576] w fun e w' => e = .returned (.int .i64 (szAns (fs.length + szf fs))) ∧ Below w.heap.size w w' := by
  unfold maxLen at hc2
  have hlen : fs.length ≤ 9223372036854775807 := by omega
  by_cases h0 : fs.length ≤ 1048576
  · have g0 : decide ((1048576 : Int) - (fs.length : Int) < 0) = false := by simp; omega
    have HA := Lib.hid h
    clear h
    go_enter Try.func9, Try.ntmps9
    go_wp2
    go_loopw [1, 5] (fun l i wr => ∃ k q : Nat, k ≤ fs.length ∧ i = .int .i64 k ∧ l = .int .i64 q ∧ fs.length + szf (fs.take k) + q = 1048576 ∧ Below w.heap.size w wr) (fun _ i _ => fs.length - (intOf i).toNat)
    case atStart => exact ⟨0, 1048576 - fs.length, Nat.zero_le _, rfl, by go_num, by simp [szf]; omega, by (repeat' (first | (with_reducible exact Below.refl _ _) | (with_reducible refine Below.alloc ?_ ?_ _) | (with_reducible refine Below.drew ?_) | (with_reducible refine Below.setCell ?_ ?_ _) | (with_reducible refine bl_step ?_ (by assumption)) | go_size))⟩
    case round =>
      obtain ⟨k, q, hk, rfl, rfl, hq, hb⟩ := hrel
      by_cases hlt : k < fs.length
      · obtain ⟨xs, wt, hx⟩ := fs_get hlt
        have hne : fs ≠ [] := by rintro rfl; simp at hlt
        rcases HA.out with h | ⟨A, off, rfl, hA, hc⟩
        · exact absurd h hne
        obtain ⟨u, e1, hu, e2⟩ := hc k _ hx
        have e1 := (hb.cell (p := ⟨A, off + k * 2, none⟩) hA).trans e1
        have e2 := (hb.cell (p := ⟨A, off + k * 2 + 1, none⟩) hA).trans e2
        have HU := Lib.hid (fun w' (hb' : Below wr.heap.size wr w') => szForm_any u xs wt q (by omega) w' (hu.below (bl_step hb hb')))
        have hk0 : (0 : Int) ≤ (k : Int) := by omega
        have hk1 : (k : Int) < (fs.length : Int) := by omega
        have h1 : szf (fs.take (k + 1)) = szf (fs.take k) + xs.length := szf_succ hx
        have h2 := szf_take_le fs (k + 1)
        clear hc hu hne
        by_cases hxq : xs.length ≤ q
        · rw [if_pos hxq] at HU
          have g : decide ((q : Int) - (xs.length : Int) < 0) = false := by simp; omega
          go_wp2_with (fail)
          (go_at_call 36; refine (HU.out _ (by (repeat' (first | (with_reducible exact Below.refl _ _) | (with_reducible refine Below.alloc ?_ ?_ _) | (with_reducible refine Below.drew ?_) | (with_reducible refine Below.setCell ?_ ?_ _) | (with_reducible refine bl_step ?_ (by assumption)) | go_size)))).mono ?_; rintro e w1 ⟨rfl, hb1⟩)
          go_wp2
          go_roundw
          case rel => exact ⟨k + 1, q - xs.length, by omega, by go_num, by (congr 1; omega), by omega, by (repeat' (first | (with_reducible exact Below.refl _ _) | (with_reducible refine Below.alloc ?_ ?_ _) | (with_reducible refine Below.drew ?_) | (with_reducible refine Below.setCell ?_ ?_ _) | (with_reducible refine bl_step ?_ (by assumption)) | go_size))⟩
          case measure => simp [intOf]; omega
        · rw [if_neg hxq] at HU
          have hB := Lib.hid (szAns_no (n := fs.length + szf fs) (by omega))
          go_wp2_with (fail)
          (go_at_call 36; refine (HU.out _ (by (repeat' (first | (with_reducible exact Below.refl _ _) | (with_reducible refine Below.alloc ?_ ?_ _) | (with_reducible refine Below.drew ?_) | (with_reducible refine Below.setCell ?_ ?_ _) | (with_reducible refine bl_step ?_ (by assumption)) | go_size)))).mono ?_; rintro e w1 ⟨rfl, hb1⟩)
          go_wp2
          go_ret
          exact ⟨by rw [hB.out]; rfl, by (repeat' (first | (with_reducible exact Below.refl _ _) | (with_reducible refine Below.alloc ?_ ?_ _) | (with_reducible refine Below.drew ?_) | (with_reducible refine Below.setCell ?_ ?_ _) | (with_reducible refine bl_step ?_ (by assumption)) | go_size))⟩
      · have hkn : k = fs.length := by omega
        rw [hkn, List.take_length] at hq
        have hq2 : Hid ((q : Int) = (1048576 : Int) - ((fs.length + szf fs : Nat) : Int)) := (by omega : (q : Int) = (1048576 : Int) - ((fs.length + szf fs : Nat) : Int))
        have hE := Lib.hid (szAns_yes (n := fs.length + szf fs) (by omega))
        clear hq
        go_wp2
        go_ret
        exact ⟨by rw [hE.out, ← hq2.out]; rfl, hb⟩
  · have h1 : ¬ fs.length + szf fs ≤ 1048576 := by omega
    have hB := Lib.hid (szAns_no h1)
    have g : (1048576 : Int) < (fs.length : Int) := by omega
    clear h1
    go_enter Try.func9, Try.ntmps9
    go_wp2
    go_ret
    exact ⟨by rw [hB.out]; rfl, Below.refl _ _⟩

theorem eqForm_any (u v : Value) (xs : List Int) (wt : Int) (w : World) (h : IV w u xs) (k : IV w v xs) :
    Calls Try.prog 44 #[.agg #[u, .int .i64 wt], .agg #[v, .int .i64 wt]] w fun e w' => e = .returned (.bool true) ∧ Below w.heap.size w w' := by
  have HE := Lib.hid (fun w' (hb : Below w.heap.size w w') => eqIntV_any u v xs w' (h.below hb) (k.below hb))
  go_enter Try.func44, Try.ntmps44
  go_wp2_with (go_at_call 14; refine (HE.out _ (by (repeat' (first | (with_reducible exact Below.refl _ _) | (with_reducible refine Below.alloc ?_ ?_ _) | (with_reducible refine Below.drew ?_) | (with_reducible refine Below.setCell ?_ ?_ _) | (with_reducible refine bl_step ?_ (by assumption)) | go_size)))).mono ?_; rintro e w1 ⟨rfl, hb1⟩; obtain ⟨hc1, hf1, hz1⟩ := bl hb1; (try simp at hz1); (try (refine got (p := w.heap.size < w1.heap.size) ?_ ?_; (focus (go_size; done)); intro q1_w0)); (try (refine got (p := w1.cell? ⟨w.heap.size, 0, none⟩ = some (u)) ?_ ?_; (focus (refine (hc1 _ _ ?_).trans ?_; (focus (go_size; done)); go_simp; done)); intro c1_w0_0)); (try (refine got (p := w1.cell? ⟨w.heap.size, 1, none⟩ = some (.int .i64 wt)) ?_ ?_; (focus (refine (hc1 _ _ ?_).trans ?_; (focus (go_size; done)); go_simp; done)); intro c1_w0_1)); (try (refine got (p := ∀ o, w1.frozen? ⟨w.heap.size, o, none⟩ = false) ?_ ?_; (focus (intro o; refine (hf1 _ _ ?_).trans ?_; (focus (go_size; done)); go_simp; done)); intro f1_w0)); (try (refine got (p := w.heap.size + 1 < w1.heap.size) ?_ ?_; (focus (go_size; done)); intro q1_w1)); (try (refine got (p := w1.cell? ⟨w.heap.size + 1, 0, none⟩ = some (v)) ?_ ?_; (focus (refine (hc1 _ _ ?_).trans ?_; (focus (go_size; done)); go_simp; done)); intro c1_w1_0)); (try (refine got (p := w1.cell? ⟨w.heap.size + 1, 1, none⟩ = some (.int .i64 wt)) ?_ ?_; (focus (refine (hc1 _ _ ?_).trans ?_; (focus (go_size; done)); go_simp; done)); intro c1_w1_1)); (try (refine got (p := ∀ o, w1.frozen? ⟨w.heap.size + 1, o, none⟩ = false) ?_ ?_; (focus (intro o; refine (hf1 _ _ ?_).trans ?_; (focus (go_size; done)); go_simp; done)); intro f1_w1)); clear hc1 hf1)
  go_wp2
  go_ret
  exact ⟨rfl, by (repeat' (first | (with_reducible exact Below.refl _ _) | (with_reducible refine Below.alloc ?_ ?_ _) | (with_reducible refine Below.drew ?_) | (with_reducible refine Below.setCell ?_ ?_ _) | (with_reducible refine bl_step ?_ (by assumption)) | go_size))⟩

set_option maxHeartbeats 4000000 in
theorem eqFormS_any (v u : Value) (fs : List Fm) (w : World) (h : FV w v fs) (k : FV w u fs) :
    Calls Try.prog 15 #[v, u] w fun e w' => e = .returned (.bool true) ∧ Below w.heap.size w w' := by
  obtain ⟨a, c, rfl, ha, hc1, hc2⟩ := h
  obtain ⟨a', c', rfl, ha', hc1', hc2'⟩ := k
  unfold maxLen at hc2 hc2'
  have hlen : fs.length ≤ 9223372036854775807 := by omega
  have HA := Lib.hid ha
  have HA' := Lib.hid ha'
  clear ha ha'
  go_enter Try.func15, Try.ntmps15
  go_wp2
  go_loopw [5] (fun i wr => ∃ k : Nat, k ≤ fs.length ∧ i = .int .i64 k ∧ Below w.heap.size w wr) (fun i _ => fs.length - (intOf i).toNat)
  case atStart => exact ⟨0, Nat.zero_le _, rfl, Below.refl _ _⟩
  case round =>
    obtain ⟨k, hk, rfl, hb⟩ := hrel
    by_cases hlt : k < fs.length
    · obtain ⟨xs, wt, hx⟩ := fs_get hlt
      have hne : fs ≠ [] := by rintro rfl; simp at hlt
      rcases HA.out with h | ⟨A, off, rfl, hA, hc⟩
      · exact absurd h hne
      rcases HA'.out with h | ⟨A', off', rfl, hA', hc'⟩
      · exact absurd h hne
      obtain ⟨p, e1, hu, e2⟩ := hc k _ hx
      obtain ⟨q, e3, hu', e4⟩ := hc' k _ hx
      have e1 := (hb.cell (p := ⟨A, off + k * 2, none⟩) hA).trans e1
      have e2 := (hb.cell (p := ⟨A, off + k * 2 + 1, none⟩) hA).trans e2
      have e3 := (hb.cell (p := ⟨A', off' + k * 2, none⟩) hA').trans e3
      have e4 := (hb.cell (p := ⟨A', off' + k * 2 + 1, none⟩) hA').trans e4
      have HE := Lib.hid (fun w' (hb' : Below wr.heap.size wr w') => eqForm_any p q xs wt w' (hu.below (bl_step hb hb')) (hu'.below (bl_step hb hb')))
      have hk0 : (0 : Int) ≤ (k : Int) := by omega
      have hk1 : (k : Int) < (fs.length : Int) := by omega
      clear hc hc' hne hu hu' hx
      go_wp2
      go_region_with (go_at_call 44; refine (HE.out _ (by (repeat' (first | (with_reducible assumption) | (with_reducible exact Below.refl _ _) | (with_reducible refine Below.alloc ?_ ?_ _) | (with_reducible refine Below.drew ?_) | (with_reducible refine bl_drewN ?_ _) | (with_reducible refine Below.setCell ?_ ?_ _) | (with_reducible refine bl_step ?_ (by assumption)) | go_size)))).mono ?_; rintro e w1 ⟨rfl, hb1⟩)
      all_goals
        go_wp2
        go_roundw
        case rel => exact ⟨k + 1, by omega, by go_num, (bl_step hb.drew hb1)⟩
        case measure => simp [intOf]; omega
    · go_wp2
      go_ret
      exact ⟨rfl, hb⟩
end Go.Proofs.Ytjhigjbfnemdjaa
