/-
  A part as a ring of beats: the program's ring in memory, and how it is made.
-/
import Derived.Test.YticapinlnlpbpaaDoorVo
import Derived.Test.YticapinlnlpbpaaDoorIb
import Derived.IntWalk
import Derived.BigQuiet
namespace Go.Proofs.YticapinlnlpbpaaDoor
open Go.RowKit
set_option maxRecDepth 100000
set_option linter.unusedVariables false

set_option maxHeartbeats 1000000 in
theorem voiceValid_any (s : Int) (b : Bool) (m : Int) (w : World) :
    Calls Tryd.prog 89 #[.agg #[.int .i64 s, .bool b, .int .i64 m]] w fun e w' => e = .returned (.bool (vok ((s, b), m))) ∧ Below w.heap.size w w' := by
  by_cases hv : vd s b = true
  case neg =>
    rw [Bool.not_eq_true] at hv
    rw [vok_no1 (x := ((s, b), m)) hv]
    have HV := Lib.hid (valid_any s b)
    rw [hv] at HV
    clear hv
    go_enter Tryd.func89, Tryd.ntmps89
    go_wp2_with (go_at_call 65; refine (HV.out _).mono ?_; rintro e w1 ⟨rfl, hb1⟩; obtain ⟨hc1, hf1, hz1⟩ := bl hb1; (try simp at hz1); (try (refine got (p := w.heap.size < w1.heap.size) ?_ ?_; (focus (go_size; done)); intro q1_w0)); (try (refine got (p := w1.cell? ⟨w.heap.size, 0, none⟩ = some (.int .i64 s)) ?_ ?_; (focus (refine (hc1 _ _ ?_).trans ?_; (focus (go_size; done)); go_simp; done)); intro c1_w0_0)); (try (refine got (p := w1.cell? ⟨w.heap.size, 1, none⟩ = some (.bool b)) ?_ ?_; (focus (refine (hc1 _ _ ?_).trans ?_; (focus (go_size; done)); go_simp; done)); intro c1_w0_1)); (try (refine got (p := w1.cell? ⟨w.heap.size, 2, none⟩ = some (.int .i64 m)) ?_ ?_; (focus (refine (hc1 _ _ ?_).trans ?_; (focus (go_size; done)); go_simp; done)); intro c1_w0_2)); (try (refine got (p := ∀ o, w1.frozen? ⟨w.heap.size, o, none⟩ = false) ?_ ?_; (focus (intro o; refine (hf1 _ _ ?_).trans ?_; (focus (go_size; done)); go_simp; done)); intro f1_w0)); clear hc1 hf1)
    go_ret
    exact ⟨rfl, by (repeat' (first | (with_reducible exact Below.refl _ _) | (with_reducible refine Below.alloc ?_ ?_ _) | (with_reducible refine Below.drew ?_) | (with_reducible refine Below.setCell ?_ ?_ _) | (with_reducible refine bl_step ?_ (by assumption)) | go_size))⟩
  have HV := Lib.hid (valid_any s b)
  rw [hv] at HV
  by_cases h1 : 1 ≤ m
  case neg =>
    rw [vok_no2 (x := ((s, b), m)) (by simp; omega)]
    have g1 : m < 1 := by omega
    clear hv
    go_enter Tryd.func89, Tryd.ntmps89
    go_wp2_with (go_at_call 65; refine (HV.out _).mono ?_; rintro e w1 ⟨rfl, hb1⟩; obtain ⟨hc1, hf1, hz1⟩ := bl hb1; (try simp at hz1); (try (refine got (p := w.heap.size < w1.heap.size) ?_ ?_; (focus (go_size; done)); intro q1_w0)); (try (refine got (p := w1.cell? ⟨w.heap.size, 0, none⟩ = some (.int .i64 s)) ?_ ?_; (focus (refine (hc1 _ _ ?_).trans ?_; (focus (go_size; done)); go_simp; done)); intro c1_w0_0)); (try (refine got (p := w1.cell? ⟨w.heap.size, 1, none⟩ = some (.bool b)) ?_ ?_; (focus (refine (hc1 _ _ ?_).trans ?_; (focus (go_size; done)); go_simp; done)); intro c1_w0_1)); (try (refine got (p := w1.cell? ⟨w.heap.size, 2, none⟩ = some (.int .i64 m)) ?_ ?_; (focus (refine (hc1 _ _ ?_).trans ?_; (focus (go_size; done)); go_simp; done)); intro c1_w0_2)); (try (refine got (p := ∀ o, w1.frozen? ⟨w.heap.size, o, none⟩ = false) ?_ ?_; (focus (intro o; refine (hf1 _ _ ?_).trans ?_; (focus (go_size; done)); go_simp; done)); intro f1_w0)); clear hc1 hf1)
    go_ret
    exact ⟨rfl, by (repeat' (first | (with_reducible exact Below.refl _ _) | (with_reducible refine Below.alloc ?_ ?_ _) | (with_reducible refine Below.drew ?_) | (with_reducible refine Below.setCell ?_ ?_ _) | (with_reducible refine bl_step ?_ (by assumption)) | go_size))⟩
  by_cases h2 : m ≤ 3
  case neg =>
    rw [vok_no2 (x := ((s, b), m)) (by simp; omega)]
    have g1 : decide (m ≤ 3) = false := decide_eq_false h2
    clear hv
    go_enter Tryd.func89, Tryd.ntmps89
    go_wp2_with (go_at_call 65; refine (HV.out _).mono ?_; rintro e w1 ⟨rfl, hb1⟩; obtain ⟨hc1, hf1, hz1⟩ := bl hb1; (try simp at hz1); (try (refine got (p := w.heap.size < w1.heap.size) ?_ ?_; (focus (go_size; done)); intro q1_w0)); (try (refine got (p := w1.cell? ⟨w.heap.size, 0, none⟩ = some (.int .i64 s)) ?_ ?_; (focus (refine (hc1 _ _ ?_).trans ?_; (focus (go_size; done)); go_simp; done)); intro c1_w0_0)); (try (refine got (p := w1.cell? ⟨w.heap.size, 1, none⟩ = some (.bool b)) ?_ ?_; (focus (refine (hc1 _ _ ?_).trans ?_; (focus (go_size; done)); go_simp; done)); intro c1_w0_1)); (try (refine got (p := w1.cell? ⟨w.heap.size, 2, none⟩ = some (.int .i64 m)) ?_ ?_; (focus (refine (hc1 _ _ ?_).trans ?_; (focus (go_size; done)); go_simp; done)); intro c1_w0_2)); (try (refine got (p := ∀ o, w1.frozen? ⟨w.heap.size, o, none⟩ = false) ?_ ?_; (focus (intro o; refine (hf1 _ _ ?_).trans ?_; (focus (go_size; done)); go_simp; done)); intro f1_w0)); clear hc1 hf1)
    go_ret
    exact ⟨rfl, by (repeat' (first | (with_reducible exact Below.refl _ _) | (with_reducible refine Below.alloc ?_ ?_ _) | (with_reducible refine Below.drew ?_) | (with_reducible refine Below.setCell ?_ ?_ _) | (with_reducible refine bl_step ?_ (by assumption)) | go_size))⟩
  rw [vok_yes (x := ((s, b), m)) hv h1 h2]
  clear hv
  go_enter Tryd.func89, Tryd.ntmps89
  go_wp2_with (go_at_call 65; refine (HV.out _).mono ?_; rintro e w1 ⟨rfl, hb1⟩; obtain ⟨hc1, hf1, hz1⟩ := bl hb1; (try simp at hz1); (try (refine got (p := w.heap.size < w1.heap.size) ?_ ?_; (focus (go_size; done)); intro q1_w0)); (try (refine got (p := w1.cell? ⟨w.heap.size, 0, none⟩ = some (.int .i64 s)) ?_ ?_; (focus (refine (hc1 _ _ ?_).trans ?_; (focus (go_size; done)); go_simp; done)); intro c1_w0_0)); (try (refine got (p := w1.cell? ⟨w.heap.size, 1, none⟩ = some (.bool b)) ?_ ?_; (focus (refine (hc1 _ _ ?_).trans ?_; (focus (go_size; done)); go_simp; done)); intro c1_w0_1)); (try (refine got (p := w1.cell? ⟨w.heap.size, 2, none⟩ = some (.int .i64 m)) ?_ ?_; (focus (refine (hc1 _ _ ?_).trans ?_; (focus (go_size; done)); go_simp; done)); intro c1_w0_2)); (try (refine got (p := ∀ o, w1.frozen? ⟨w.heap.size, o, none⟩ = false) ?_ ?_; (focus (intro o; refine (hf1 _ _ ?_).trans ?_; (focus (go_size; done)); go_simp; done)); intro f1_w0)); clear hc1 hf1)
  go_ret
  exact ⟨rfl, by (repeat' (first | (with_reducible exact Below.refl _ _) | (with_reducible refine Below.alloc ?_ ?_ _) | (with_reducible refine Below.drew ?_) | (with_reducible refine Below.setCell ?_ ?_ _) | (with_reducible refine bl_step ?_ (by assumption)) | go_size))⟩

theorem blk_lt {w : World} {g : Nat} {o : Obj} (h : w.heap[g]? = some o) : g < w.heap.size := by
  rcases Nat.lt_or_ge g w.heap.size with h1 | h1
  · exact h1
  · rw [Array.getElem?_eq_none h1] at h; cases h
theorem kind_no {w : World} {g k : Nat} {c d : Array Value} {e f : TypeId} {m n : Nat × Nat} (h : w.heap[g]? = some (.cells c e m)) (k' : w.heap[k]? = some (.cells d f n)) (hef : e ≠ f) : g ≠ k := by
  rintro rfl
  rw [h] at k'
  injection k' with k'
  injection k' with _ k' _
  exact hef k'

/-- the beat behind the k-th one of n -/
def nxt (n k : Nat) : Nat := if k + 1 = n then 0 else k + 1
theorem nxt_lt {n k : Nat} (h : k < n) : nxt n k < n := by unfold nxt; split <;> omega
theorem nxt_in {n k : Nat} (h : k + 1 < n) : nxt n k = k + 1 := by unfold nxt; rw [if_neg (by omega)]
/-- the block of the last beat -/
def lstP (P : Nat → Nat) (n : Nat) : Value := if n = 0 then .pointer none else .pointer (some ⟨P (n - 1), 0, none⟩)

structure RingI (B : Nat) (w : World) (R : Nat) (P : Nat → Nat) (ts : List (Int × Bool)) : Prop where
  hR : B ≤ R
  blk : w.heap[R]? = some (.cells #[lstP P ts.length, .int .i64 (ts.length : Int)] 83 (0, 0))
  nod : ∀ k, k < ts.length → B ≤ P k ∧ w.heap[P k]? = some (.cells #[.int .i64 (tnA ts k).1, .bool (tnA ts k).2, .pointer (some ⟨P (nxt ts.length k), 0, none⟩)] 86 (0, 0))
  asc : ∀ i j, i < j → j < ts.length → P i < P j

theorem RingI.below {B : Nat} {w w' : World} {R : Nat} {P : Nat → Nat} {ts : List (Int × Bool)} (h : RingI B w R P ts) (hb : Below w.heap.size w w') : RingI B w' R P ts :=
  ⟨h.hR, (hb.block _ (blk_lt h.blk)).trans h.blk, fun k hk => ⟨(h.nod k hk).1, (hb.block _ (blk_lt (h.nod k hk).2)).trans (h.nod k hk).2⟩, h.asc⟩
theorem RingI.lower {B B' : Nat} {w : World} {R : Nat} {P : Nat → Nat} {ts : List (Int × Bool)} (h : RingI B w R P ts) (hb : B' ≤ B) : RingI B' w R P ts :=
  ⟨Nat.le_trans hb h.hR, h.blk, fun k hk => ⟨Nat.le_trans hb (h.nod k hk).1, (h.nod k hk).2⟩, h.asc⟩

theorem RingI.push {B : Nat} {w W : World} {R : Nat} {P : Nat → Nat} {ts : List (Int × Bool)} {t : Int × Bool} (h : RingI B w R P ts) (hB : B ≤ w.heap.size)
    (hq : W.heap[w.heap.size]? = some (.cells #[.int .i64 t.1, .bool t.2, .pointer (some ⟨if ts.length = 0 then w.heap.size else P 0, 0, none⟩)] 86 (0, 0)))
    (hR : W.heap[R]? = some (.cells #[.pointer (some ⟨w.heap.size, 0, none⟩), .int .i64 ((ts.length : Int) + 1)] 83 (0, 0)))
    (hk : ∀ k, k + 1 < ts.length → W.heap[P k]? = w.heap[P k]?)
    (hl : ∀ n, ts.length = n + 1 → W.heap[P n]? = some (.cells #[.int .i64 (tnA ts n).1, .bool (tnA ts n).2, .pointer (some ⟨w.heap.size, 0, none⟩)] 86 (0, 0))) :
    RingI B W R (fun k => if k = ts.length then w.heap.size else P k) (ts ++ [t]) := by
  have hlen : (ts ++ [t]).length = ts.length + 1 := by simp
  have old : ∀ k, k < ts.length → tnA (ts ++ [t]) k = tnA ts k := fun k hk => by
    unfold tnA; rw [List.getD_eq_getElem?_getD, List.getElem?_append_left hk, List.getD_eq_getElem?_getD]
  have new : tnA (ts ++ [t]) ts.length = t := by
    unfold tnA; rw [List.getD_eq_getElem?_getD, List.getElem?_append_right (Nat.le_refl _)]; simp
  refine ⟨h.hR, ?_, fun k hkl => ?_, fun i j hij hj => ?_⟩
  · rw [hlen, hR]
    unfold lstP
    simp
  · rw [hlen] at hkl ⊢
    by_cases e : k = ts.length
    · subst e
      rw [if_pos rfl, new]
      refine ⟨hB, ?_⟩
      rw [hq]
      unfold nxt
      rw [if_pos rfl]
      by_cases e0 : ts.length = 0
      · rw [if_pos e0, if_pos e0.symm]
      · rw [if_neg e0, if_neg (Ne.symm e0)]
    · have hkt : k < ts.length := by omega
      rw [if_neg e, old k hkt]
      refine ⟨(h.nod k hkt).1, ?_⟩
      by_cases el : k + 1 = ts.length
      · rw [hl k el.symm]
        have e2 : nxt (ts.length + 1) k = k + 1 := nxt_in (by omega)
        rw [e2, if_pos el]
      · rw [hk k (by omega), (h.nod k hkt).2, nxt_in (by omega), nxt_in (by omega), if_neg el]
  · rw [hlen] at hj
    show (if i = ts.length then w.heap.size else P i) < (if j = ts.length then w.heap.size else P j)
    rw [if_neg (by omega : ¬ i = ts.length)]
    by_cases e : j = ts.length
    · rw [if_pos e]
      exact blk_lt (h.nod i (by omega)).2
    · rw [if_neg e]
      exact h.asc i j hij (by omega)

/-- what is kept while beats are added -/
structure AddI (B : Nat) (w wr : World) (R bx : Nat) (cs : Array Value) (ts : List (Int × Bool)) : Prop where
  ring : ∃ P, RingI B wr R P ts
  box : wr.heap[bx]? = some (.cells cs 49 (0, 0))
  bl : Below B w wr


theorem heap_set_ne {w : World} {p : Addr} {v : Value} {g : Nat} (h : g ≠ p.block) : (w.setCell p v).heap[g]? = w.heap[g]? := by
  simp only [World.setCell, Array.getElem?_modify]
  rw [if_neg (Ne.symm h)]
theorem heap_set_eq {w : World} {g o : Nat} {v : Value} {cs : Array Value} {e : TypeId} {m : Nat × Nat} (h : w.heap[g]? = some (.cells cs e m)) : (w.setCell ⟨g, o, none⟩ v).heap[g]? = some (.cells (cs.setIfInBounds o v) e m) := by
  simp only [World.setCell, Array.getElem?_modify]
  simp [h]
theorem size_set (w : World) (p : Addr) (v : Value) : (w.setCell p v).heap.size = w.heap.size := by simp [World.setCell]
theorem new_at8 {w : World} {o : Obj} {n : Nat} (h : w.heap.size = n) : (w.alloc o).heap[n]? = some o := by
  subst h; exact heap_alloc_new w o

theorem AddI.one {B : Nat} {w wr : World} {R bx : Nat} {cs : Array Value} {us : List (Int × Bool)} {P : Nat → Nat} {s : Int} {b : Bool} (hP : RingI B wr R P us) (hbx : wr.heap[bx]? = some (.cells cs 49 (0, 0)))
    (hbl : Below B w wr) (hB : B ≤ w.heap.size) (h0 : us.length = 0) :
    AddI B w (((wr.setCell ⟨R, 0, none⟩ (.pointer (some ⟨wr.heap.size, 0, none⟩))).setCell ⟨R, 1, none⟩ (.int .i64 1)).alloc (.cells #[.int .i64 s, .bool b, .pointer (some ⟨wr.heap.size, 0, none⟩)] 86)) R bx cs (us ++ [(s, b)]) := by
  have hs := hbl.size
  have hR := blk_lt hP.blk
  have hbxl := blk_lt hbx
  have hne : bx ≠ R := kind_no hbx hP.blk (by decide)
  have sz : ((wr.setCell ⟨R, 0, none⟩ (.pointer (some ⟨wr.heap.size, 0, none⟩))).setCell ⟨R, 1, none⟩ (.int .i64 1)).heap.size = wr.heap.size := by rw [size_set, size_set]
  refine ⟨⟨_, hP.push (by omega) ?_ ?_ (fun k hk => by omega) (fun n hn => by omega)⟩, ?_, ?_⟩
  · rw [new_at8 sz, if_pos h0]
  · rw [Below.heap_alloc _ _ _ (by rw [sz]; exact hR), heap_set_eq (heap_set_eq hP.blk)]
    simp [h0]
  · rw [Below.heap_alloc _ _ _ (by rw [sz]; exact hbxl), heap_set_ne hne, heap_set_ne hne]
    exact hbx
  · exact ((hbl.setCell hP.hR _).setCell hP.hR _).alloc (by rw [sz]; omega) _
theorem AddI.more {B : Nat} {w wr : World} {R bx : Nat} {cs : Array Value} {us : List (Int × Bool)} {P : Nat → Nat} {s : Int} {b : Bool} {n : Nat} (hP : RingI B wr R P us) (hbx : wr.heap[bx]? = some (.cells cs 49 (0, 0)))
    (hbl : Below B w wr) (hB : B ≤ w.heap.size) (h0 : us.length = n + 1) :
    AddI B w ((((wr.setCell ⟨P n, 2, none⟩ (.pointer (some ⟨wr.heap.size, 0, none⟩))).setCell ⟨R, 0, none⟩ (.pointer (some ⟨wr.heap.size, 0, none⟩))).setCell ⟨R, 1, none⟩ (.int .i64 ((n : Int) + 1 + 1))).alloc (.cells #[.int .i64 s, .bool b, .pointer (some ⟨P 0, 0, none⟩)] 86)) R bx cs (us ++ [(s, b)]) := by
  have hs := hbl.size
  have hR := blk_lt hP.blk
  have hbxl := blk_lt hbx
  have hne : bx ≠ R := kind_no hbx hP.blk (by decide)
  have hno := hP.nod n (by omega)
  have hnl := blk_lt hno.2
  have hnR : P n ≠ R := kind_no hno.2 hP.blk (by decide)
  have hnb : bx ≠ P n := kind_no hbx hno.2 (by decide)
  have sz : (((wr.setCell ⟨P n, 2, none⟩ (.pointer (some ⟨wr.heap.size, 0, none⟩))).setCell ⟨R, 0, none⟩ (.pointer (some ⟨wr.heap.size, 0, none⟩))).setCell ⟨R, 1, none⟩ (.int .i64 ((n : Int) + 1 + 1))).heap.size = wr.heap.size := by rw [size_set, size_set, size_set]
  have e1 : ((us.length : Nat) : Int) + 1 = (n : Int) + 1 + 1 := by omega
  refine ⟨⟨_, hP.push (by omega) ?_ ?_ (fun k hk => ?_) (fun j hj => ?_)⟩, ?_, ?_⟩
  · rw [new_at8 sz, if_neg (by omega)]
  · rw [Below.heap_alloc _ _ _ (by rw [sz]; exact hR), heap_set_eq (heap_set_eq ((heap_set_ne (Ne.symm hnR)).trans hP.blk)), e1]
    simp
  · have hkb := (hP.nod k (by omega)).2
    have hkl := blk_lt hkb
    have hkR : P k ≠ R := kind_no hkb hP.blk (by decide)
    have hkn : P k ≠ P n := by have := hP.asc k n (by omega) (by omega); omega
    rw [Below.heap_alloc _ _ _ (by rw [sz]; exact hkl), heap_set_ne hkR, heap_set_ne hkR, heap_set_ne hkn]
  · obtain rfl : j = n := by omega
    rw [Below.heap_alloc _ _ _ (by rw [sz]; exact hnl), heap_set_ne hnR, heap_set_ne hnR, heap_set_eq hno.2]
    simp
  · rw [Below.heap_alloc _ _ _ (by rw [sz]; exact hbxl), heap_set_ne hne, heap_set_ne hne, heap_set_ne hnb]
    exact hbx
  · exact (((hbl.setCell hno.1 _).setCell hP.hR _).setCell hP.hR _).alloc (by rw [sz]; omega) _

set_option maxHeartbeats 4000000 in
theorem ringAdd_any (B R : Nat) (P : Nat → Nat) (ts : List (Int × Bool)) (s : Int) (b : Bool) (m : Nat) (hm : m ≤ 3) (hl : ts.length ≤ 1000) (w : World) (h : RingI B w R P ts) (hB : B ≤ w.heap.size) :
    Calls Tryd.prog 90 #[.pointer (some ⟨R, 0, none⟩), .agg #[.int .i64 s, .bool b, .int .i64 m]] w fun e w' => e = .returned (.tuple #[]) ∧ (∃ P', RingI B w' R P' (ts ++ List.replicate m (s, b))) ∧ Below B w w' := by
  have H0 : AddI B w (w.alloc (.cells #[.int .i64 s, .bool b, .int .i64 m] 49)) R w.heap.size #[.int .i64 s, .bool b, .int .i64 m] (ts ++ List.replicate 0 (s, b)) :=
    ⟨⟨P, by simpa using h.below ((Below.refl _ _).alloc (Nat.le_refl _) _)⟩, heap_alloc_new w _, ((Below.refl _ _).alloc (Nat.le_refl _) _).mono hB⟩
  clear h
  go_enter Tryd.func90, Tryd.ntmps90
  go_wp2
  go_loopw [7] (fun i wr => ∃ k : Nat, k ≤ m ∧ i = .int .i64 (k : Int) ∧ AddI B w wr R w.heap.size #[.int .i64 s, .bool b, .int .i64 m] (ts ++ List.replicate k (s, b))) (fun i _ => m - (intOf i).toNat)
  case atStart => exact ⟨0, by omega, rfl, H0⟩
  case round =>
    obtain ⟨k, hk, rfl, ⟨P1, hP⟩, hbx, hbl⟩ := hrel
    clear H0
    by_cases hlt : k < m
    · have hn : (ts ++ List.replicate k (s, b)).length = ts.length + k := by simp
      have hx : ts ++ List.replicate (k + 1) (s, b) = (ts ++ List.replicate k (s, b)) ++ [(s, b)] := by rw [List.append_assoc, List.replicate_succ']
      have HX := Lib.hid hx
      have hnl : (ts ++ List.replicate k (s, b)).length ≤ 2000 := by omega
      clear hx hn
      generalize ts ++ List.replicate k (s, b) = us at hP HX hnl
      have hbs : wr.cell? ⟨w.heap.size, 0, none⟩ = some (.int .i64 s) := by simp [World.cell?, hbx]
      have hbb : wr.cell? ⟨w.heap.size, 1, none⟩ = some (.bool b) := by simp [World.cell?, hbx]
      have hr0 : wr.cell? ⟨R, 0, none⟩ = some (lstP P1 us.length) := by simp [World.cell?, hP.blk]
      have hr1 : wr.cell? ⟨R, 1, none⟩ = some (.int .i64 (us.length : Int)) := by simp [World.cell?, hP.blk]
      have hrf : ∀ o, wr.frozen? ⟨R, o, none⟩ = false := fun o => by simp [World.frozen?, hP.blk]
      have hRs := blk_lt hP.blk
      have hbxs := blk_lt hbx
      have HP := Lib.hid hP
      have HBX := Lib.hid hbx
      have HBL := Lib.hid hbl
      have wq : IntKind.i64.wrap ((us.length : Int) + 1) = (us.length : Int) + 1 := IntWalk.i64_in _ (by omega)
      clear hP hbx hbl
      by_cases h0 : us.length = 0
      · unfold lstP at hr0
        rw [if_pos h0] at hr0
        rw [h0] at hr1 wq
        have HA := Lib.hid (AddI.one (s := s) (b := b) HP.out HBX.out HBL.out hB h0)
        rw [← HX.out] at HA
        clear h0
        go_wp2
        go_roundw
        case rel => exact ⟨k + 1, by omega, by go_num, HA.out⟩
        case measure => simp [intOf]; omega
      · unfold lstP at hr0
        rw [if_neg h0] at hr0
        obtain ⟨n, hn⟩ : ∃ n, us.length = n + 1 := ⟨us.length - 1, by omega⟩
        have e1 : us.length - 1 = n := by omega
        rw [e1] at hr0
        have hno := HP.out.nod n (by omega)
        have hn2 : wr.cell? ⟨P1 n, 2, none⟩ = some (.pointer (some ⟨P1 0, 0, none⟩)) := by
          rw [show nxt us.length n = 0 by unfold nxt; rw [if_pos hn.symm]] at hno
          simp [World.cell?, hno.2]
        have hnf : ∀ o, wr.frozen? ⟨P1 n, o, none⟩ = false := fun o => by simp [World.frozen?, hno.2]
        have hns := blk_lt hno.2
        have hne : P1 n ≠ R := kind_no hno.2 HP.out.blk (by decide)
        have hne2 : R ≠ P1 n := Ne.symm hne
        have HA := Lib.hid (AddI.more (s := s) (b := b) HP.out HBX.out HBL.out hB hn)
        rw [← HX.out] at HA
        generalize hun : us.length = un at *
        clear e1 hno
        go_wp2
        go_roundw
        case rel => exact ⟨k + 1, by omega, by go_num, HA.out⟩
        case measure => simp [intOf]; omega
    · have hkm : k = m := by omega
      subst hkm
      have HZ : Hid (Below B w wr) := hbl
      have HP := Lib.hid hP
      clear hP hbx hbl
      go_wp2
      go_end0
      exact ⟨rfl, ⟨P1, HP.out⟩, HZ.out⟩
end Go.Proofs.YticapinlnlpbpaaDoor
