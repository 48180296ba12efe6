/-
  Moved parts (mathematics): the part all of whose tones are moved, its beats, and what two parts make of it.
-/
import Derived.Test.YticapinlnlpbpaaDoorVb
import Derived.Test.YticapinlnlpbpaaDoorMma
namespace Go.Proofs.YticapinlnlpbpaaDoor
open Go.RowKit
set_option maxRecDepth 100000
set_option linter.unusedVariables false

/-- a row of tones of a call's own, while it grows -/
structure TbInv (w wr : World) (v : Value) (xs : List (Int × Bool)) : Prop where
  own : wr.ownsRow w.heap.size 41 2 v xs.length (tcs xs)
  bl : Below w.heap.size w wr
theorem TbInv.start (w : World) : TbInv w (w.alloc (.cells #[] 41)) (.slice (some ⟨w.heap.size, 0, none⟩) 0 0) [] :=
  ⟨⟨by simp [tcs], .inr ⟨w.heap.size, 0, #[], rfl, Nat.le_refl _, heap_alloc_new w _, by simp, by simp [maxLen], by simp, by simp [tcs]⟩⟩, (Below.refl _ _).alloc (Nat.le_refl _) _⟩
theorem TbInv.row {w wr : World} {v : Value} {xs : List (Int × Bool)} (h : TbInv w wr v xs) : TRow wr w.heap.size wr.heap.size v xs := ⟨h.own, fun g hg => (own_ltb h.own hg).2⟩
theorem TbInv.below {w wr w1 : World} {v : Value} {xs : List (Int × Bool)} (h : TbInv w wr v xs) (hb : Below wr.heap.size wr w1) : TbInv w w1 v xs :=
  ⟨(h.row.below hb (.inl (Nat.le_refl _))).1, bl_step h.bl hb⟩
theorem TbInv.app {w w1 w2 : World} {v v' : Value} {xs : List (Int × Bool)} {s : Int} {b : Bool} {o : Obj} (h : TbInv w w1 v xs)
    (hown : w2.ownsRow w.heap.size 41 2 v' (xs.length + 1) (tcs xs ++ [.int .i64 s, .bool b])) (hg : (w1.alloc o).grownBy w2 v.ownBlock) : TbInv w w2 v' (xs ++ [(s, b)]) :=
  ⟨by rw [tcs_app, List.length_append]; exact hown, (h.bl.alloc h.bl.size o).grown hg (by have := h.bl.size; simp; omega) (fun k hk => (own_ltb h.own hk).1)⟩

/-- does the move of a part succeed, and the moved part -/
def tns (xs : List Vc) : List (Int × Bool) := xs.map fun x => x.1
def bts8 (xs : List Vc) : List Int := xs.map fun x => x.2
theorem tns_len (xs : List Vc) : (tns xs).length = xs.length := by simp [tns]
theorem bts_len8 (xs : List Vc) : (bts8 xs).length = xs.length := by simp [bts8]
theorem tns_take {xs : List Vc} {k : Nat} {x : Vc} (h : xs[k]? = some x) : tns (xs.take (k + 1)) = tns (xs.take k) ++ [x.1] := by
  rw [List.take_add_one, h]; simp [tns]
theorem bts_take8 {xs : List Vc} {k : Nat} {x : Vc} (h : xs[k]? = some x) : bts8 (xs.take (k + 1)) = bts8 (xs.take k) ++ [x.2] := by
  rw [List.take_add_one, h]; simp [bts8]
def dmOk (k : Int) (xs : List Vc) : Bool := pval xs && mmB k (tns xs)
def dmL (k : Int) (xs : List Vc) : List Vc := if dmOk k xs then (mmL k (tns xs)).zip (bts8 xs) else []
theorem dm_no1 {k : Int} {xs : List Vc} (h : pval xs = false) : dmOk k xs = false := by simp [dmOk, h]
theorem dm_no2 {k : Int} {xs : List Vc} (h : mmB k (tns xs) = false) : dmOk k xs = false := by simp [dmOk, h]
theorem dm_in {k : Int} {xs : List Vc} (h : dmOk k xs = true) : pval xs = true ∧ mmB k (tns xs) = true := by simpa [dmOk] using h
theorem dm_ok {k : Int} {xs : List Vc} (h : pval xs = true) (h2 : mmB k (tns xs) = true) : dmOk k xs = true := by simp [dmOk, h, h2]
theorem dmL_no {k : Int} {xs : List Vc} (h : dmOk k xs = false) : dmL k xs = [] := by simp [dmL, h]
theorem dmL_yes {k : Int} {xs : List Vc} (h : dmOk k xs = true) : dmL k xs = (mmL k (tns xs)).zip (bts8 xs) := by simp [dmL, h]
theorem zip_fst {ts : List (Int × Bool)} {zs : List Int} (h : ts.length = zs.length) : tns (ts.zip zs) = ts := by
  unfold tns; exact List.map_fst_zip (by omega)
theorem zip_snd {ts : List (Int × Bool)} {zs : List Int} (h : ts.length = zs.length) : bts8 (ts.zip zs) = zs := by
  unfold bts8; exact List.map_snd_zip (by omega)
theorem vok_zip {ts : List (Int × Bool)} {zs : List Int} (h : allv ts = true) (h2 : ∀ z ∈ zs, 1 ≤ z ∧ z ≤ 3) : (ts.zip zs).all vok = true := by
  rw [List.all_eq_true]
  rintro ⟨t, z⟩ hx
  obtain ⟨a, b⟩ := List.of_mem_zip hx
  have h3 : vd t.1 t.2 = true := by unfold allv at h; rw [List.all_eq_true] at h; exact h t a
  exact vok_yes (x := (t, z)) h3 (h2 z b).1 (h2 z b).2
theorem bts_in8 {xs : List Vc} (h : xs.all vok = true) : ∀ z ∈ bts8 xs, 1 ≤ z ∧ z ≤ 3 := by
  intro z hz
  obtain ⟨x, hx, rfl⟩ := List.mem_map.1 hz
  rw [List.all_eq_true] at h
  exact (vok_in (h x hx)).2
theorem tns_mv {xs : List Vc} (h : pval xs = true) : mv (tns xs) = true := by
  obtain ⟨a, b, c⟩ := pval_in h
  unfold mv
  rw [Bool.and_eq_true, tns_len]
  refine ⟨decide_eq_true (by omega), ?_⟩
  unfold allv
  rw [List.all_eq_true] at a ⊢
  intro t ht
  obtain ⟨x, hx, rfl⟩ := List.mem_map.1 ht
  exact (vok_in (a x hx)).1
theorem mmL_mv {k : Int} {ts : List (Int × Bool)} (h : mmB k ts = true) : mv (mmL k ts) = true := by
  obtain ⟨z, hz⟩ := mm_mvd h
  exact hz.vy
theorem mv_allv {ts : List (Int × Bool)} (h : mv ts = true) : allv ts = true := by unfold mv at h; rw [Bool.and_eq_true] at h; exact h.2
theorem dm_len {k : Int} {xs : List Vc} (h : mmB k (tns xs) = true) : (mmL k (tns xs)).length = (bts8 xs).length := by rw [mm_len h, tns_len, bts_len8]
/-- the moved part is a part -/
theorem dm_part {k : Int} {xs : List Vc} (h : dmOk k xs = true) : pval (dmL k xs) = true ∧ tns (dmL k xs) = mmL k (tns xs) ∧ bts8 (dmL k xs) = bts8 xs ∧ (dmL k xs).length = xs.length := by
  obtain ⟨h1, h2⟩ := dm_in h
  obtain ⟨a, b, c⟩ := pval_in h1
  have hl := dm_len h2
  rw [dmL_yes h]
  have e2 := zip_snd hl
  refine ⟨?_, zip_fst hl, e2, ?_⟩
  · refine pval_yes (vok_zip (mv_allv (mmL_mv h2)) (bts_in8 a)) ?_ ?_
    · rw [List.length_zip, hl, bts_len8]; omega
    · have e3 : ∀ zs : List Vc, bsm zs = smL (bts8 zs) := fun _ => rfl
      rw [e3] at c ⊢
      rw [e2]
      exact c
  · rw [List.length_zip, hl, bts_len8]; omega
theorem dm_pm {k : Int} {xs : List Vc} (h : dmOk k xs = true) : pmOk (mmL k (tns xs)) (bts8 xs) = true ∧ pmL (mmL k (tns xs)) (bts8 xs) = dmL k xs := by
  obtain ⟨h1, h2⟩ := dm_in h
  have e : pmOk (mmL k (tns xs)) (bts8 xs) = true := by
    have h3 := (dm_part h).1
    rw [dmL_yes h] at h3
    unfold pmOk
    rw [mmL_mv h2, h3, decide_eq_true (dm_len h2)]
    rfl
  exact ⟨e, by rw [pm_yes e, dmL_yes h]⟩
theorem dmL_len (k : Int) (xs : List Vc) : (dmL k xs).length ≤ 24 := by
  unfold dmL
  split
  · rw [List.length_zip]; have := mmL_len k (tns xs); omega
  · simp
end Go.Proofs.YticapinlnlpbpaaDoor
