/-
  Two equal lists of voices compared; a part in a rhythmic mode (mathematics).
-/
import Derived.Test.YthmkjdmjhngpjaaPm
import Derived.Test.YthmkjdmjhngpjaaRq
import Derived.BigQuiet
namespace Go.Proofs.Ythmkjdmjhngpjaa
open Go.RowKit
set_option maxRecDepth 100000
set_option linter.unusedVariables false

set_option maxHeartbeats 2000000 in
theorem sameVoicesV_yes (v u : Value) (xs : List Vc) (w : World) (h : VV w v xs) (k : VV w u xs) :
    Calls Try.prog 23 #[v, u] w fun e w' => e = .returned (.bool true) ∧ Below w.heap.size w w' := by
  obtain ⟨a, c, rfl, ha, hc1, hc2⟩ := h
  obtain ⟨a', c', rfl, ha', hc1', hc2'⟩ := k
  unfold maxLen at hc2 hc2'
  have hlen : xs.length ≤ 9223372036854775807 := by omega
  have HA := Lib.hid ha
  have HA' := Lib.hid ha'
  clear ha ha'
  go_enter Try.func23, Try.ntmps23
  go_wp2
  go_loopw [5] (fun i wr => ∃ k : Nat, k ≤ xs.length ∧ i = .int .i64 k ∧ Below w.heap.size w wr) (fun i _ => xs.length - (intOf i).toNat)
  case atStart => exact ⟨0, Nat.zero_le _, rfl, Below.refl _ _⟩
  case round =>
    obtain ⟨k, hk, rfl, hb⟩ := hrel
    by_cases hlt : k < xs.length
    · have hne : xs ≠ [] := by rintro rfl; simp at hlt
      obtain ⟨⟨⟨s, b⟩, n⟩, hx⟩ : ∃ x, xs[k]? = some x := ⟨xs[k], List.getElem?_eq_getElem hlt⟩
      rcases HA.out with h | ⟨A, off, rfl, hA, hc⟩
      · exact absurd h hne
      rcases HA'.out with h | ⟨A', off', rfl, hA', hc'⟩
      · exact absurd h hne
      obtain ⟨d0, d1, d2⟩ := hc k _ hx
      obtain ⟨d0', d1', d2'⟩ := hc' k _ hx
      have e1 : wr.cell? ⟨A, off + k * 3, none⟩ = some (.int .i64 s) := (hb.cell (p := ⟨A, off + k * 3, none⟩) hA).trans d0
      have e2 : wr.cell? ⟨A, off + k * 3 + 1, none⟩ = some (.bool b) := (hb.cell (p := ⟨A, off + k * 3 + 1, none⟩) hA).trans d1
      have e3 : wr.cell? ⟨A, off + k * 3 + 2, none⟩ = some (.int .i64 n) := (hb.cell (p := ⟨A, off + k * 3 + 2, none⟩) hA).trans d2
      have e4 : wr.cell? ⟨A', off' + k * 3, none⟩ = some (.int .i64 s) := (hb.cell (p := ⟨A', off' + k * 3, none⟩) hA').trans d0'
      have e5 : wr.cell? ⟨A', off' + k * 3 + 1, none⟩ = some (.bool b) := (hb.cell (p := ⟨A', off' + k * 3 + 1, none⟩) hA').trans d1'
      have e6 : wr.cell? ⟨A', off' + k * 3 + 2, none⟩ = some (.int .i64 n) := (hb.cell (p := ⟨A', off' + k * 3 + 2, none⟩) hA').trans d2'
      have hk0 : (0 : Int) ≤ (k : Int) := by omega
      have hk1 : (k : Int) < (xs.length : Int) := by omega
      clear hc hc' hne hx d0 d1 d2 d0' d1' d2'
      go_wp2
      go_quiet (fail)
      go_wp2
      go_roundw
      case rel => exact ⟨k + 1, by omega, by go_num, ⟨hb.os, hb.tape, hb.output, hb.size, hb.block⟩⟩
      case measure => simp [intOf]; omega
    · go_wp2
      go_ret
      exact ⟨rfl, hb⟩

theorem zip_bsm {ts : List (Int × Bool)} {zs : List Int} (h : ts.length = zs.length) : bsm (ts.zip zs) = smL zs := by
  unfold bsm
  congr 1
  induction ts generalizing zs with
  | nil => cases zs with
    | nil => rfl
    | cons _ _ => simp at h
  | cons t r ih => cases zs with
    | nil => simp at h
    | cons z r2 => simp only [List.zip_cons_cons, List.map_cons]; rw [ih (by simpa using h)]
theorem zip_vok {ts : List (Int × Bool)} {zs : List Int} (h : ∀ t ∈ ts, vd t.1 t.2 = true) (hz : ∀ z ∈ zs, 1 ≤ z ∧ z ≤ 3) : (ts.zip zs).all vok = true := by
  rw [List.all_eq_true]
  intro x hx
  have h1 := List.of_mem_zip (a := x.1) (b := x.2) hx
  have h2 := hz _ h1.2
  exact vok_yes (h _ h1.1) h2.1 h2.2
theorem mv_vd {ts : List (Int × Bool)} (h : mv ts = true) : ∀ t ∈ ts, vd t.1 t.2 = true := by
  simp only [mv, Bool.and_eq_true, allv, List.all_eq_true] at h
  exact h.2
/-- a melody of one to six tones in a rhythmic mode is a part -/
theorem ordo_part {ts : List (Int × Bool)} {m : Int} (h : mv ts = true) (hm : 1 ≤ m ∧ m ≤ 6) (hn : 1 ≤ ts.length ∧ ts.length ≤ 6) :
    oOk m ts.length = true ∧ pmOk ts (oLst m ts.length) = true ∧ pbt (pmL ts (oLst m ts.length)) = smL (oLst m ts.length) ∧ 0 ≤ smL (oLst m ts.length) ∧ smL (oLst m ts.length) ≤ 18 := by
  have ho := oOk_yes (m := m) (n := (ts.length : Int)) hm (by omega)
  have hl : (oLst m ts.length).length = ts.length := by rw [(oYes ho).1, cyc_len]; omega
  have hz := fun z (hz : z ∈ oLst m ts.length) => oLst_in hz
  have hs := smL_in (xs := oLst m ts.length) (a := 3) fun z h1 => by have := hz z h1; omega
  have hb := zip_bsm hl.symm
  have hp : pval (ts.zip (oLst m ts.length)) = true := pval_yes (zip_vok (mv_vd h) hz) (by rw [List.length_zip]; omega) (by rw [hb]; omega)
  have hk : pmOk ts (oLst m ts.length) = true := by simp [pmOk, h, hl, hp]
  exact ⟨ho, hk, by rw [pm_yes hk, pbt_yes hp, hb], hs.1, by omega⟩
theorem pm_len {ts : List (Int × Bool)} {zs : List Int} (h : pmOk ts zs = true) : (pmL ts zs).length = ts.length := by
  rw [pm_yes h]
  have : ts.length = zs.length := by simp [pmOk] at h; exact h.2.1
  rw [List.length_zip]; omega
end Go.Proofs.Ythmkjdmjhngpjaa
