/-
  Two parts that are together: the program's pair of rings in memory.
-/
import Derived.Test.YticapinlnlpbpaaDoorRp
import Derived.Deep.RegionHeld3
import Derived.Deep.RegionWith
import Derived.BigRegion
namespace Go.Proofs.YticapinlnlpbpaaDoor
open Go.RowKit
set_option maxRecDepth 100000
set_option linter.unusedVariables false

/-- where the k-th of n beats lies: behind the last one comes the first one -/
def curP (P : Nat → Nat) (n k : Nat) : Value := if n = 0 then .pointer none else .pointer (some ⟨P (if k = n then 0 else k), 0, none⟩)
theorem curP_lt (P : Nat → Nat) {n k : Nat} (h : k < n) : curP P n k = .pointer (some ⟨P k, 0, none⟩) := by unfold curP; rw [if_neg (by omega), if_neg (by omega)]
theorem curP_next (P : Nat → Nat) {n k : Nat} (h : k < n) : curP P n (k + 1) = .pointer (some ⟨P (nxt n k), 0, none⟩) := by unfold curP nxt; rw [if_neg (by omega)]
theorem curP_first (P : Nat → Nat) (n : Nat) : curP P n 0 = fstP P n := by
  unfold curP fstP
  by_cases h : n = 0
  · rw [if_pos h, if_pos h]
  · rw [if_neg h, if_neg h, if_neg (Ne.symm h)]

theorem fstP_ptr (P : Nat → Nat) (n : Nat) : ∃ p, fstP P n = .pointer p := by
  unfold fstP
  split
  · exact ⟨_, rfl⟩
  · exact ⟨_, rfl⟩

def NodI (B : Nat) (w : World) (P : Nat → Nat) (ts : List (Int × Bool)) : Prop :=
  ∀ k, k < ts.length → B ≤ P k ∧ w.heap[P k]? = some (.cells #[.int .i64 (tnA ts k).1, .bool (tnA ts k).2, .pointer (some ⟨P (nxt ts.length k), 0, none⟩)] 86 (0, 0))
theorem NodI.below {B : Nat} {w w' : World} {P : Nat → Nat} {ts : List (Int × Bool)} (h : NodI B w P ts) (hb : Below w.heap.size w w') : NodI B w' P ts :=
  fun k hk => ⟨(h k hk).1, (hb.block _ (blk_lt (h k hk).2)).trans (h k hk).2⟩
theorem NodI.cells {B : Nat} {w : World} {P : Nat → Nat} {ts : List (Int × Bool)} (h : NodI B w P ts) {k : Nat} (hk : k < ts.length) :
    w.cell? ⟨P k, 0, none⟩ = some (.int .i64 (tnA ts k).1) ∧ w.cell? ⟨P k, 1, none⟩ = some (.bool (tnA ts k).2) ∧ w.cell? ⟨P k, 2, none⟩ = some (.pointer (some ⟨P (nxt ts.length k), 0, none⟩)) := by
  have hn := (h k hk).2
  exact ⟨by simp [World.cell?, hn], by simp [World.cell?, hn], by simp [World.cell?, hn]⟩

/-- a pair of parts of n beats each, at the k-th beat -/
structure DisI (B : Nat) (w : World) (D : Nat) (P Q : Nat → Nat) (ts us : List (Int × Bool)) (n k : Nat) : Prop where
  hD : B ≤ D
  lt : ts.length = n
  lu : us.length = n
  blk : w.heap[D]? = some (.cells #[curP P n k, curP Q n k, .int .i64 (n : Int)] 67 (0, 0))
  na : NodI B w P ts
  nb : NodI B w Q us
  va : ∀ t ∈ ts, vd t.1 t.2 = true
  vb : ∀ t ∈ us, vd t.1 t.2 = true
theorem DisI.below {B : Nat} {w w' : World} {D : Nat} {P Q : Nat → Nat} {ts us : List (Int × Bool)} {n k : Nat} (h : DisI B w D P Q ts us n k) (hb : Below w.heap.size w w') : DisI B w' D P Q ts us n k :=
  ⟨h.hD, h.lt, h.lu, (hb.block _ (blk_lt h.blk)).trans h.blk, h.na.below hb, h.nb.below hb, h.va, h.vb⟩
theorem step_in {ts : List (Int × Bool)} (h : ∀ t ∈ ts, vd t.1 t.2 = true) {k : Nat} (hk : k < ts.length) : 0 ≤ (tnA ts k).1 ∧ (tnA ts k).1 ≤ 20 :=
  vd_in (h _ (List.mem_of_getElem? (tnA_get hk)))

/-- what newDiscant answers -/
def NewDis (w : World) (xs ys : List Vc) (e : Ending) (w' : World) : Prop :=
  ∃ D, e = .returned (.tuple #[.pointer (some ⟨D, 0, none⟩), .bool (tog xs ys)]) ∧ Below w.heap.size w w' ∧
    (tog xs ys = true → ∃ P Q, DisI w.heap.size w' D P Q (snd8 xs) (snd8 ys) (snd8 xs).length 0) ∧
    (tog xs ys = false → w'.heap[D]? = some (.cells #[.pointer none, .pointer none, .int .i64 0] 67 (0, 0)))
theorem NewDis.no {w w' : World} {xs ys : List Vc} (h : tog xs ys = false) (hb : Below w.heap.size w w') :
    NewDis w xs ys (.returned (.tuple #[.pointer (some ⟨w'.heap.size, 0, none⟩), .bool false])) (w'.alloc (.cells #[.pointer none, .pointer none, .int .i64 0] 67)) :=
  ⟨_, by rw [h], hb.alloc hb.size _, (fun e => by rw [h] at e; cases e), fun _ => heap_alloc_new w' _⟩
theorem bl_dn8 (W : World) (m : Nat) : Below W.heap.size W (W.drewN m) := ⟨rfl, rfl, rfl, Nat.le_refl _, fun _ _ => rfl⟩

set_option maxHeartbeats 1500000 in
theorem newDiscant_any (v u : Value) (xs ys : List Vc) (w : World) (h : VV w v xs) (k : VV w u ys) : Calls Tryd.prog 50 #[v, u] w (NewDis w xs ys) := by
  have H1 := Lib.hid (newRing_any v xs w h)
  have H2 := Lib.hid (fun w' (hb : Below w.heap.size w w') => newRing_any u ys w' (k.below (w' := w') hb))
  unfold NewRing at H1 H2
  clear h k
  cases hp : pval xs with
  | false =>
    have HN := Lib.hid (fun w' hb => NewDis.no (w := w) (w' := w') (tog_no1 (ys := ys) hp) hb)
    rw [hp] at H1
    clear hp
    generalize pval ys = q at H2
    go_enter Tryd.func50, Tryd.ntmps50
    go_wp2_with (fail)
    (go_at_call 63; refine (H1.out).mono ?_; rintro e w1 ⟨R, P, ts, rfl, hr, _, hb1⟩)
    have HB1 := Lib.hid hb1
    clear hr hb1
    go_wp2_with (fail)
    (go_at_call 63; refine (H2.out _ HB1.out).mono ?_; rintro e w2 ⟨R2, P2, ts2, rfl, hr2, _, hb2⟩)
    have HB2 := Lib.hid (bl_step HB1.out hb2)
    clear hr2 hb2
    go_wp2
    go_quiet (fail)
    have HX := Lib.hid (fun nq => HN.out (w2.drewN nq) (bl_step HB2.out (bl_dn8 _ _)))
    clear HN
    go_wp2
    go_ret2
    exact HX.out _
  | true =>
    cases hq : pval ys with
    | false =>
      have HN := Lib.hid (fun w' hb => NewDis.no (w := w) (w' := w') (tog_no2 (xs := xs) hq) hb)
      rw [hp] at H1
      rw [hq] at H2
      clear hp hq
      go_enter Tryd.func50, Tryd.ntmps50
      go_wp2_with (fail)
      (go_at_call 63; refine (H1.out).mono ?_; rintro e w1 ⟨R, P, ts, rfl, hr, _, hb1⟩)
      have HB1 := Lib.hid hb1
      clear hr hb1
      go_wp2_with (fail)
      (go_at_call 63; refine (H2.out _ HB1.out).mono ?_; rintro e w2 ⟨R2, P2, ts2, rfl, hr2, _, hb2⟩)
      have HB2 := Lib.hid (bl_step HB1.out hb2)
      clear hr2 hb2
      go_wp2
      go_quiet (fail)
      have HX := Lib.hid (fun nq => HN.out (w2.drewN nq) (bl_step HB2.out (bl_dn8 _ _)))
      clear HN
      go_wp2
      go_ret2
      exact HX.out _
    | true =>
      have hsx := snd_len (pval_in hp).1
      have hsy := snd_len (pval_in hq).1
      by_cases hb : bsm xs = bsm ys
      case neg =>
        have HN := Lib.hid (fun w' hbw => NewDis.no (w := w) (w' := w') (tog_no3 hb) hbw)
        rw [hp] at H1
        rw [hq] at H2
        clear hp hq
        have g1 : ((bsm xs) != (bsm ys)) = true := by simp; exact hb
        go_enter Tryd.func50, Tryd.ntmps50
        go_wp2_with (fail)
        (go_at_call 63; refine (H1.out).mono ?_; rintro e w1 ⟨R, P, ts, rfl, hr, hts, hb1⟩)
        obtain rfl := hts (by first | rfl | trivial)
        have HB1 := Lib.hid hb1
        have HR1 := Lib.hid hr
        clear hr hb1 hts
        go_wp2_with (fail)
        (go_at_call 63; refine (H2.out _ HB1.out).mono ?_; rintro e w2 ⟨R2, P2, ts2, rfl, hr2, hts2, hb2⟩)
        obtain rfl := hts2 (by first | rfl | trivial)
        have c1 : w2.cell? ⟨R, 1, none⟩ = some (.int .i64 (bsm xs)) := by rw [← hsx]; simp [World.cell?, (HR1.out.below hb2).blk]
        have c2 : w2.cell? ⟨R2, 1, none⟩ = some (.int .i64 (bsm ys)) := by rw [← hsy]; simp [World.cell?, hr2.blk]
        have HB2 := Lib.hid (bl_step HB1.out hb2)
        clear hr2 hb2 hts2 hb hsx hsy
        generalize bsm xs = bx at c1 g1
        generalize bsm ys = by8 at c2 g1
        go_wp2
        go_quiet (fail)
        have HX := Lib.hid (fun nq => HN.out (w2.drewN nq) (bl_step HB2.out (bl_dn8 _ _)))
        clear HN
        go_wp2
        go_ret2
        exact HX.out _
      case pos =>
        have ht := tog_yes hp hq hb
        have hvx := (pval_in hp).1
        have hvy := (pval_in hq).1
        obtain ⟨n, hn⟩ : ∃ n, (snd8 xs).length = n := ⟨_, rfl⟩
        have hn2 : (snd8 ys).length = n := by omega
        have hbn : bsm xs = (n : Int) := by omega
        have HE : Hid (∀ w1 w' R P Q, Below w.heap.size w w1 → Below w1.heap.size w1 w' → RingI w.heap.size w1 R P (snd8 xs) → NodI w.heap.size w' Q (snd8 ys) → NewDis w xs ys (.returned (.tuple #[.pointer (some ⟨w'.heap.size, 0, none⟩), .bool true])) (w'.alloc (.cells #[fstP P n, fstP Q n, .int .i64 (n : Int)] 67))) := by
          intro w1 w' R P Q hb1 hb2 hR hQ
          have hb3 := bl_step hb1 hb2
          refine ⟨_, by rw [ht], hb3.alloc hb3.size _, fun _ => ⟨P, Q, ?_⟩, fun e => absurd (ht.symm.trans e) (by decide)⟩
          have hbn := (Below.refl w'.heap.size w').alloc (Nat.le_refl _) (.cells #[fstP P n, fstP Q n, .int .i64 (n : Int)] 67)
          have hNa : NodI w.heap.size w1 P (snd8 xs) := hR.nod
          refine ⟨hb3.size, rfl, by rw [hn2, hn], ?_, (hNa.below hb2).below hbn, hQ.below hbn, fun t ht => snd_valid hvx ht, fun t ht => snd_valid hvy ht⟩
          rw [heap_alloc_new, hn, curP_first, curP_first]
        rw [hp] at H1
        rw [hq] at H2
        clear hp hq ht hvx hvy
        go_enter Tryd.func50, Tryd.ntmps50
        go_wp2_with (fail)
        (go_at_call 63; refine (H1.out).mono ?_; rintro e w1 ⟨R, P, ts, rfl, hr, hts, hb1⟩)
        obtain rfl := hts (by first | rfl | trivial)
        have HB1 := Lib.hid hb1
        have HR1 := Lib.hid hr
        clear hr hb1 hts
        go_wp2_with (fail)
        (go_at_call 63; refine (H2.out _ HB1.out).mono ?_; rintro e w2 ⟨R2, P2, ts2, rfl, hr2, hts2, hb2⟩)
        obtain rfl := hts2 (by first | rfl | trivial)
        have hr1 := HR1.out.below hb2
        have c1 : w2.cell? ⟨R, 1, none⟩ = some (.int .i64 (n : Int)) := by rw [← hn]; simp [World.cell?, hr1.blk]
        have c2 : w2.cell? ⟨R2, 1, none⟩ = some (.int .i64 (n : Int)) := by rw [← hn2]; simp [World.cell?, hr2.blk]
        have HG : Hid (∀ m, ∃ W, w2.drewN m = W ∧ W.cell? ⟨R, 1, none⟩ = some (.int .i64 (n : Int)) ∧ NewDis w xs ys (.returned (.tuple #[.pointer (some ⟨W.heap.size, 0, none⟩), .bool true])) (W.drew.alloc (.cells #[fstP P n, fstP P2 n, .int .i64 (n : Int)] 67)) ∧ RingI w.heap.size W.drew R P (snd8 xs) ∧ RingI w1.heap.size W.drew R2 P2 (snd8 ys)) := fun m => by
          refine ⟨_, rfl, c1, ?_, hr1.below (bl_dn8 _ (m + 1)), hr2.below (bl_dn8 _ (m + 1))⟩
          have hnb : NodI w.heap.size (w2.drewN (m + 1)) P2 (snd8 ys) := fun k hk => ⟨Nat.le_trans HB1.out.size (hr2.nod k hk).1, (hr2.nod k hk).2⟩
          exact HE.out w1 (w2.drewN (m + 1)) R P P2 HB1.out (bl_step hb2 (bl_dn8 _ _)) HR1.out hnb
        clear hr2 hb2 hts2 hr1 HE hsx hsy hbn hb
        go_wp2
        go_quiet (fail)
        obtain ⟨W, hW, c3, hX, hA, hB⟩ := HG.out nq
        rw [hW]
        have HX := Lib.hid hX
        have HF1 := Lib.hid (ringFirst_any _ R P (snd8 xs) _ hA)
        have HF2 := Lib.hid (ringFirst_any _ R2 P2 (snd8 ys) _ hB)
        rw [hn] at HF1
        rw [hn2] at HF2
        clear hn hn2 HG hA hB hX hW c1 c2
        obtain ⟨p1, hp1⟩ := fstP_ptr P n
        obtain ⟨p2, hp2⟩ := fstP_ptr P2 n
        rw [hp1] at HF1 HX
        rw [hp2] at HF2 HX
        clear hp1 hp2
        go_wp2
        refine wp_region_any (by kernel_rfl) ?_
        (try (change wpAny _ _ _ _ _ _ _ (World.drew _)))
        first | (refine wpAny_take (i := 0) (v := ?_) rfl (by kernel_rfl) (by kernel_rfl) (by kernel_rfl) (fun _ _ _ h => h) (Or.inl ⟨by rfl, ?_⟩) ?_; rotate_left; (focus (intro wz; go_simp; done)); (try simp only [Act.put, List.getElem_toArray, List.getElem_cons_zero, List.setIfInBounds_toArray, List.set_cons_zero, List.set_cons_succ])) | (refine wpAny_take (i := 0) (v := ?_) rfl (by kernel_rfl) (by kernel_rfl) (by kernel_rfl) (fun _ _ _ h => h) (Or.inl ⟨by rfl, ?_⟩) ?_; rotate_left; (focus (intro wz; go_simp; with_reducible rfl)); (try simp only [Act.put, List.getElem_toArray, List.getElem_cons_zero, List.setIfInBounds_toArray, List.set_cons_zero, List.set_cons_succ])) | (refine wpAny_take (i := 0) (v := undef) rfl (by kernel_rfl) (by kernel_rfl) (by kernel_rfl) (fun _ _ _ h => h) (Or.inr ⟨by rfl, rfl⟩) ?_; (try simp only [Act.put, List.getElem_toArray, List.getElem_cons_zero, List.setIfInBounds_toArray, List.set_cons_zero, List.set_cons_succ])) | fail "op 0"
        first | (refine wpAny_take (i := 2) (v := ?_) rfl (by kernel_rfl) (by kernel_rfl) (by kernel_rfl) (fun _ _ _ h => h) (Or.inl ⟨by rfl, ?_⟩) ?_; rotate_left; (focus (intro wz; go_simp; done)); (try simp only [Act.put, List.getElem_toArray, List.getElem_cons_succ, List.getElem_cons_zero, List.setIfInBounds_toArray, List.set_cons_zero, List.set_cons_succ])) | (refine wpAny_take (i := 2) (v := ?_) rfl (by kernel_rfl) (by kernel_rfl) (by kernel_rfl) (fun _ _ _ h => h) (Or.inl ⟨by rfl, ?_⟩) ?_; rotate_left; (focus (intro wz; go_simp; with_reducible rfl)); (try simp only [Act.put, List.getElem_toArray, List.getElem_cons_succ, List.getElem_cons_zero, List.setIfInBounds_toArray, List.set_cons_zero, List.set_cons_succ])) | (refine wpAny_take (i := 2) (v := undef) rfl (by kernel_rfl) (by kernel_rfl) (by kernel_rfl) (fun _ _ _ h => h) (Or.inr ⟨by rfl, rfl⟩) ?_; (try simp only [Act.put, List.getElem_toArray, List.getElem_cons_succ, List.getElem_cons_zero, List.setIfInBounds_toArray, List.set_cons_zero, List.set_cons_succ])) | fail "op 2"
        first | (refine wpAny_take (i := 4) (v := ?_) rfl (by kernel_rfl) (by kernel_rfl) (by kernel_rfl) (fun _ _ _ h => h) (Or.inl ⟨by rfl, ?_⟩) ?_; rotate_left; (focus (intro wz; go_simp; done)); (try simp only [Act.put, List.getElem_toArray, List.getElem_cons_succ, List.getElem_cons_zero, List.setIfInBounds_toArray, List.set_cons_zero, List.set_cons_succ])) | (refine wpAny_take (i := 4) (v := ?_) rfl (by kernel_rfl) (by kernel_rfl) (by kernel_rfl) (fun _ _ _ h => h) (Or.inl ⟨by rfl, ?_⟩) ?_; rotate_left; (focus (intro wz; go_simp; with_reducible rfl)); (try simp only [Act.put, List.getElem_toArray, List.getElem_cons_succ, List.getElem_cons_zero, List.setIfInBounds_toArray, List.set_cons_zero, List.set_cons_succ])) | (refine wpAny_take (i := 4) (v := undef) rfl (by kernel_rfl) (by kernel_rfl) (by kernel_rfl) (fun _ _ _ h => h) (Or.inr ⟨by rfl, rfl⟩) ?_; (try simp only [Act.put, List.getElem_toArray, List.getElem_cons_succ, List.getElem_cons_zero, List.setIfInBounds_toArray, List.set_cons_zero, List.set_cons_succ])) | fail "op 4"
        first | (refine wpAny_take (i := 5) (v := ?_) rfl (by kernel_rfl) (by kernel_rfl) (by kernel_rfl) (fun _ _ _ h => h) (Or.inl ⟨by rfl, ?_⟩) ?_; rotate_left; (focus (intro wz; go_simp; done)); (try simp only [Act.put, List.getElem_toArray, List.getElem_cons_succ, List.getElem_cons_zero, List.setIfInBounds_toArray, List.set_cons_zero, List.set_cons_succ])) | (refine wpAny_take (i := 5) (v := ?_) rfl (by kernel_rfl) (by kernel_rfl) (by kernel_rfl) (fun _ _ _ h => h) (Or.inl ⟨by rfl, ?_⟩) ?_; rotate_left; (focus (intro wz; go_simp; with_reducible rfl)); (try simp only [Act.put, List.getElem_toArray, List.getElem_cons_succ, List.getElem_cons_zero, List.setIfInBounds_toArray, List.set_cons_zero, List.set_cons_succ])) | (refine wpAny_take (i := 5) (v := undef) rfl (by kernel_rfl) (by kernel_rfl) (by kernel_rfl) (fun _ _ _ h => h) (Or.inr ⟨by rfl, rfl⟩) ?_; (try simp only [Act.put, List.getElem_toArray, List.getElem_cons_succ, List.getElem_cons_zero, List.setIfInBounds_toArray, List.set_cons_zero, List.set_cons_succ])) | fail "op 5"
        first | (refine wpAny_take (i := 6) (v := ?_) rfl (by kernel_rfl) (by kernel_rfl) (by kernel_rfl) (fun _ _ _ h => h) (Or.inl ⟨by rfl, ?_⟩) ?_; rotate_left; (focus (intro wz; go_simp; done)); (try simp only [Act.put, List.getElem_toArray, List.getElem_cons_succ, List.getElem_cons_zero, List.setIfInBounds_toArray, List.set_cons_zero, List.set_cons_succ])) | (refine wpAny_take (i := 6) (v := ?_) rfl (by kernel_rfl) (by kernel_rfl) (by kernel_rfl) (fun _ _ _ h => h) (Or.inl ⟨by rfl, ?_⟩) ?_; rotate_left; (focus (intro wz; go_simp; with_reducible rfl)); (try simp only [Act.put, List.getElem_toArray, List.getElem_cons_succ, List.getElem_cons_zero, List.setIfInBounds_toArray, List.set_cons_zero, List.set_cons_succ])) | (refine wpAny_take (i := 6) (v := undef) rfl (by kernel_rfl) (by kernel_rfl) (by kernel_rfl) (fun _ _ _ h => h) (Or.inr ⟨by rfl, rfl⟩) ?_; (try simp only [Act.put, List.getElem_toArray, List.getElem_cons_succ, List.getElem_cons_zero, List.setIfInBounds_toArray, List.set_cons_zero, List.set_cons_succ])) | fail "op 6"
        refine wpAny_ready (rs := [1, 7]) (by kernel_rfl) (by simp) ?_
        refine AllReady.cons rfl (fun K hK => ?_) (AllReady.cons rfl (fun K hK => ?_) AllReady.nil)
        · go_simp
          go_wp2_with (fail)
          (go_at_call 64; refine (HF1.out).mono ?_; rintro e wx ⟨rfl, rfl⟩)
          (try go_wp2_with (fail))
          (try (refine hK _ _ ?_))
          (try clear hK K)
          (try simp only [Act.put, List.getElem_toArray, List.getElem_cons_succ, List.getElem_cons_zero, List.setIfInBounds_toArray, List.set_cons_zero, List.set_cons_succ])
          refine wpAny_ready (rs := [3, 7]) (by kernel_rfl) (by simp) ?_
          refine AllReady.cons rfl (fun K hK => ?_) (AllReady.cons rfl (fun K hK => ?_) AllReady.nil)
          · go_simp
            go_wp2_with (fail)
            (go_at_call 64; refine (HF2.out).mono ?_; rintro e wx ⟨rfl, rfl⟩)
            (try go_wp2_with (fail))
            (try (refine hK _ _ ?_))
            (try clear hK K)
            (try simp only [Act.put, List.getElem_toArray, List.getElem_cons_succ, List.getElem_cons_zero, List.setIfInBounds_toArray, List.set_cons_zero, List.set_cons_succ])
            refine wpAny_ready (rs := [7]) (by kernel_rfl) (by simp) ?_
            refine AllReady.cons rfl (fun K hK => ?_) AllReady.nil
            · go_simp
              (try (refine hK _ _ ?_))
              (try clear hK K)
              (try simp only [Act.put, List.getElem_toArray, List.getElem_cons_succ, List.getElem_cons_zero, List.setIfInBounds_toArray, List.set_cons_zero, List.set_cons_succ])
              first | (refine wpAny_take (i := 8) (v := ?_) rfl (by kernel_rfl) (by kernel_rfl) (by kernel_rfl) (fun _ _ _ h => h) (Or.inl ⟨by rfl, ?_⟩) ?_; rotate_left; (focus (intro wz; go_simp; done)); (try simp only [Act.put, List.getElem_toArray, List.getElem_cons_succ, List.getElem_cons_zero, List.setIfInBounds_toArray, List.set_cons_zero, List.set_cons_succ])) | (refine wpAny_take (i := 8) (v := ?_) rfl (by kernel_rfl) (by kernel_rfl) (by kernel_rfl) (fun _ _ _ h => h) (Or.inl ⟨by rfl, ?_⟩) ?_; rotate_left; (focus (intro wz; go_simp; with_reducible rfl)); (try simp only [Act.put, List.getElem_toArray, List.getElem_cons_succ, List.getElem_cons_zero, List.setIfInBounds_toArray, List.set_cons_zero, List.set_cons_succ])) | (refine wpAny_take (i := 8) (v := undef) rfl (by kernel_rfl) (by kernel_rfl) (by kernel_rfl) (fun _ _ _ h => h) (Or.inr ⟨by rfl, rfl⟩) ?_; (try simp only [Act.put, List.getElem_toArray, List.getElem_cons_succ, List.getElem_cons_zero, List.setIfInBounds_toArray, List.set_cons_zero, List.set_cons_succ])) | fail "op 8"
              refine wpAny_ready (rs := [9]) (by kernel_rfl) (by simp) ?_
              refine AllReady.cons rfl (fun K hK => ?_) AllReady.nil
              go_simp
              (try (refine hK _ _ ?_))
              (try clear hK K)
              (try simp only [Act.put, List.getElem_toArray, List.getElem_cons_succ, List.getElem_cons_zero, List.setIfInBounds_toArray, List.set_cons_zero, List.set_cons_succ])
              first | (refine wpAny_take (i := 10) (v := ?_) rfl (by kernel_rfl) (by kernel_rfl) (by kernel_rfl) (fun _ _ _ h => h) (Or.inl ⟨by rfl, ?_⟩) ?_; rotate_left; (focus (intro wz; go_simp; done)); (try simp only [Act.put, List.getElem_toArray, List.getElem_cons_succ, List.getElem_cons_zero, List.setIfInBounds_toArray, List.set_cons_zero, List.set_cons_succ])) | (refine wpAny_take (i := 10) (v := ?_) rfl (by kernel_rfl) (by kernel_rfl) (by kernel_rfl) (fun _ _ _ h => h) (Or.inl ⟨by rfl, ?_⟩) ?_; rotate_left; (focus (intro wz; go_simp; with_reducible rfl)); (try simp only [Act.put, List.getElem_toArray, List.getElem_cons_succ, List.getElem_cons_zero, List.setIfInBounds_toArray, List.set_cons_zero, List.set_cons_succ])) | (refine wpAny_take (i := 10) (v := undef) rfl (by kernel_rfl) (by kernel_rfl) (by kernel_rfl) (fun _ _ _ h => h) (Or.inr ⟨by rfl, rfl⟩) ?_; (try simp only [Act.put, List.getElem_toArray, List.getElem_cons_succ, List.getElem_cons_zero, List.setIfInBounds_toArray, List.set_cons_zero, List.set_cons_succ])) | fail "op 10"
              first | (refine wpAny_take (i := 11) (v := ?_) rfl (by kernel_rfl) (by kernel_rfl) (by kernel_rfl) (fun _ _ _ h => h) (Or.inl ⟨by rfl, ?_⟩) ?_; rotate_left; (focus (intro wz; go_simp; done)); (try simp only [Act.put, List.getElem_toArray, List.getElem_cons_succ, List.getElem_cons_zero, List.setIfInBounds_toArray, List.set_cons_zero, List.set_cons_succ])) | (refine wpAny_take (i := 11) (v := ?_) rfl (by kernel_rfl) (by kernel_rfl) (by kernel_rfl) (fun _ _ _ h => h) (Or.inl ⟨by rfl, ?_⟩) ?_; rotate_left; (focus (intro wz; go_simp; with_reducible rfl)); (try simp only [Act.put, List.getElem_toArray, List.getElem_cons_succ, List.getElem_cons_zero, List.setIfInBounds_toArray, List.set_cons_zero, List.set_cons_succ])) | (refine wpAny_take (i := 11) (v := undef) rfl (by kernel_rfl) (by kernel_rfl) (by kernel_rfl) (fun _ _ _ h => h) (Or.inr ⟨by rfl, rfl⟩) ?_; (try simp only [Act.put, List.getElem_toArray, List.getElem_cons_succ, List.getElem_cons_zero, List.setIfInBounds_toArray, List.set_cons_zero, List.set_cons_succ])) | fail "op 11"
              refine wpAny_done (by kernel_rfl) ?_ _
              go_wp2
              go_ret2
              exact HX.out
          · go_simp
            (try (refine hK _ _ ?_))
            (try clear hK K)
            (try simp only [Act.put, List.getElem_toArray, List.getElem_cons_succ, List.getElem_cons_zero, List.setIfInBounds_toArray, List.set_cons_zero, List.set_cons_succ])
            refine wpAny_ready (rs := [3]) (by kernel_rfl) (by simp) ?_
            refine AllReady.cons rfl (fun K hK => ?_) AllReady.nil
            · go_simp
              go_wp2_with (fail)
              (go_at_call 64; refine (HF2.out).mono ?_; rintro e wx ⟨rfl, rfl⟩)
              (try go_wp2_with (fail))
              (try (refine hK _ _ ?_))
              (try clear hK K)
              (try simp only [Act.put, List.getElem_toArray, List.getElem_cons_succ, List.getElem_cons_zero, List.setIfInBounds_toArray, List.set_cons_zero, List.set_cons_succ])
              first | (refine wpAny_take (i := 8) (v := ?_) rfl (by kernel_rfl) (by kernel_rfl) (by kernel_rfl) (fun _ _ _ h => h) (Or.inl ⟨by rfl, ?_⟩) ?_; rotate_left; (focus (intro wz; go_simp; done)); (try simp only [Act.put, List.getElem_toArray, List.getElem_cons_succ, List.getElem_cons_zero, List.setIfInBounds_toArray, List.set_cons_zero, List.set_cons_succ])) | (refine wpAny_take (i := 8) (v := ?_) rfl (by kernel_rfl) (by kernel_rfl) (by kernel_rfl) (fun _ _ _ h => h) (Or.inl ⟨by rfl, ?_⟩) ?_; rotate_left; (focus (intro wz; go_simp; with_reducible rfl)); (try simp only [Act.put, List.getElem_toArray, List.getElem_cons_succ, List.getElem_cons_zero, List.setIfInBounds_toArray, List.set_cons_zero, List.set_cons_succ])) | (refine wpAny_take (i := 8) (v := undef) rfl (by kernel_rfl) (by kernel_rfl) (by kernel_rfl) (fun _ _ _ h => h) (Or.inr ⟨by rfl, rfl⟩) ?_; (try simp only [Act.put, List.getElem_toArray, List.getElem_cons_succ, List.getElem_cons_zero, List.setIfInBounds_toArray, List.set_cons_zero, List.set_cons_succ])) | fail "op 8"
              refine wpAny_ready (rs := [9]) (by kernel_rfl) (by simp) ?_
              refine AllReady.cons rfl (fun K hK => ?_) AllReady.nil
              go_simp
              (try (refine hK _ _ ?_))
              (try clear hK K)
              (try simp only [Act.put, List.getElem_toArray, List.getElem_cons_succ, List.getElem_cons_zero, List.setIfInBounds_toArray, List.set_cons_zero, List.set_cons_succ])
              first | (refine wpAny_take (i := 10) (v := ?_) rfl (by kernel_rfl) (by kernel_rfl) (by kernel_rfl) (fun _ _ _ h => h) (Or.inl ⟨by rfl, ?_⟩) ?_; rotate_left; (focus (intro wz; go_simp; done)); (try simp only [Act.put, List.getElem_toArray, List.getElem_cons_succ, List.getElem_cons_zero, List.setIfInBounds_toArray, List.set_cons_zero, List.set_cons_succ])) | (refine wpAny_take (i := 10) (v := ?_) rfl (by kernel_rfl) (by kernel_rfl) (by kernel_rfl) (fun _ _ _ h => h) (Or.inl ⟨by rfl, ?_⟩) ?_; rotate_left; (focus (intro wz; go_simp; with_reducible rfl)); (try simp only [Act.put, List.getElem_toArray, List.getElem_cons_succ, List.getElem_cons_zero, List.setIfInBounds_toArray, List.set_cons_zero, List.set_cons_succ])) | (refine wpAny_take (i := 10) (v := undef) rfl (by kernel_rfl) (by kernel_rfl) (by kernel_rfl) (fun _ _ _ h => h) (Or.inr ⟨by rfl, rfl⟩) ?_; (try simp only [Act.put, List.getElem_toArray, List.getElem_cons_succ, List.getElem_cons_zero, List.setIfInBounds_toArray, List.set_cons_zero, List.set_cons_succ])) | fail "op 10"
              first | (refine wpAny_take (i := 11) (v := ?_) rfl (by kernel_rfl) (by kernel_rfl) (by kernel_rfl) (fun _ _ _ h => h) (Or.inl ⟨by rfl, ?_⟩) ?_; rotate_left; (focus (intro wz; go_simp; done)); (try simp only [Act.put, List.getElem_toArray, List.getElem_cons_succ, List.getElem_cons_zero, List.setIfInBounds_toArray, List.set_cons_zero, List.set_cons_succ])) | (refine wpAny_take (i := 11) (v := ?_) rfl (by kernel_rfl) (by kernel_rfl) (by kernel_rfl) (fun _ _ _ h => h) (Or.inl ⟨by rfl, ?_⟩) ?_; rotate_left; (focus (intro wz; go_simp; with_reducible rfl)); (try simp only [Act.put, List.getElem_toArray, List.getElem_cons_succ, List.getElem_cons_zero, List.setIfInBounds_toArray, List.set_cons_zero, List.set_cons_succ])) | (refine wpAny_take (i := 11) (v := undef) rfl (by kernel_rfl) (by kernel_rfl) (by kernel_rfl) (fun _ _ _ h => h) (Or.inr ⟨by rfl, rfl⟩) ?_; (try simp only [Act.put, List.getElem_toArray, List.getElem_cons_succ, List.getElem_cons_zero, List.setIfInBounds_toArray, List.set_cons_zero, List.set_cons_succ])) | fail "op 11"
              refine wpAny_done (by kernel_rfl) ?_ _
              go_wp2
              go_ret2
              exact HX.out
        · go_simp
          (try (refine hK _ _ ?_))
          (try clear hK K)
          (try simp only [Act.put, List.getElem_toArray, List.getElem_cons_succ, List.getElem_cons_zero, List.setIfInBounds_toArray, List.set_cons_zero, List.set_cons_succ])
          refine wpAny_ready (rs := [1]) (by kernel_rfl) (by simp) ?_
          refine AllReady.cons rfl (fun K hK => ?_) AllReady.nil
          · go_simp
            go_wp2_with (fail)
            (go_at_call 64; refine (HF1.out).mono ?_; rintro e wx ⟨rfl, rfl⟩)
            (try go_wp2_with (fail))
            (try (refine hK _ _ ?_))
            (try clear hK K)
            (try simp only [Act.put, List.getElem_toArray, List.getElem_cons_succ, List.getElem_cons_zero, List.setIfInBounds_toArray, List.set_cons_zero, List.set_cons_succ])
            refine wpAny_ready (rs := [3]) (by kernel_rfl) (by simp) ?_
            refine AllReady.cons rfl (fun K hK => ?_) AllReady.nil
            · go_simp
              go_wp2_with (fail)
              (go_at_call 64; refine (HF2.out).mono ?_; rintro e wx ⟨rfl, rfl⟩)
              (try go_wp2_with (fail))
              (try (refine hK _ _ ?_))
              (try clear hK K)
              (try simp only [Act.put, List.getElem_toArray, List.getElem_cons_succ, List.getElem_cons_zero, List.setIfInBounds_toArray, List.set_cons_zero, List.set_cons_succ])
              first | (refine wpAny_take (i := 8) (v := ?_) rfl (by kernel_rfl) (by kernel_rfl) (by kernel_rfl) (fun _ _ _ h => h) (Or.inl ⟨by rfl, ?_⟩) ?_; rotate_left; (focus (intro wz; go_simp; done)); (try simp only [Act.put, List.getElem_toArray, List.getElem_cons_succ, List.getElem_cons_zero, List.setIfInBounds_toArray, List.set_cons_zero, List.set_cons_succ])) | (refine wpAny_take (i := 8) (v := ?_) rfl (by kernel_rfl) (by kernel_rfl) (by kernel_rfl) (fun _ _ _ h => h) (Or.inl ⟨by rfl, ?_⟩) ?_; rotate_left; (focus (intro wz; go_simp; with_reducible rfl)); (try simp only [Act.put, List.getElem_toArray, List.getElem_cons_succ, List.getElem_cons_zero, List.setIfInBounds_toArray, List.set_cons_zero, List.set_cons_succ])) | (refine wpAny_take (i := 8) (v := undef) rfl (by kernel_rfl) (by kernel_rfl) (by kernel_rfl) (fun _ _ _ h => h) (Or.inr ⟨by rfl, rfl⟩) ?_; (try simp only [Act.put, List.getElem_toArray, List.getElem_cons_succ, List.getElem_cons_zero, List.setIfInBounds_toArray, List.set_cons_zero, List.set_cons_succ])) | fail "op 8"
              refine wpAny_ready (rs := [9]) (by kernel_rfl) (by simp) ?_
              refine AllReady.cons rfl (fun K hK => ?_) AllReady.nil
              go_simp
              (try (refine hK _ _ ?_))
              (try clear hK K)
              (try simp only [Act.put, List.getElem_toArray, List.getElem_cons_succ, List.getElem_cons_zero, List.setIfInBounds_toArray, List.set_cons_zero, List.set_cons_succ])
              first | (refine wpAny_take (i := 10) (v := ?_) rfl (by kernel_rfl) (by kernel_rfl) (by kernel_rfl) (fun _ _ _ h => h) (Or.inl ⟨by rfl, ?_⟩) ?_; rotate_left; (focus (intro wz; go_simp; done)); (try simp only [Act.put, List.getElem_toArray, List.getElem_cons_succ, List.getElem_cons_zero, List.setIfInBounds_toArray, List.set_cons_zero, List.set_cons_succ])) | (refine wpAny_take (i := 10) (v := ?_) rfl (by kernel_rfl) (by kernel_rfl) (by kernel_rfl) (fun _ _ _ h => h) (Or.inl ⟨by rfl, ?_⟩) ?_; rotate_left; (focus (intro wz; go_simp; with_reducible rfl)); (try simp only [Act.put, List.getElem_toArray, List.getElem_cons_succ, List.getElem_cons_zero, List.setIfInBounds_toArray, List.set_cons_zero, List.set_cons_succ])) | (refine wpAny_take (i := 10) (v := undef) rfl (by kernel_rfl) (by kernel_rfl) (by kernel_rfl) (fun _ _ _ h => h) (Or.inr ⟨by rfl, rfl⟩) ?_; (try simp only [Act.put, List.getElem_toArray, List.getElem_cons_succ, List.getElem_cons_zero, List.setIfInBounds_toArray, List.set_cons_zero, List.set_cons_succ])) | fail "op 10"
              first | (refine wpAny_take (i := 11) (v := ?_) rfl (by kernel_rfl) (by kernel_rfl) (by kernel_rfl) (fun _ _ _ h => h) (Or.inl ⟨by rfl, ?_⟩) ?_; rotate_left; (focus (intro wz; go_simp; done)); (try simp only [Act.put, List.getElem_toArray, List.getElem_cons_succ, List.getElem_cons_zero, List.setIfInBounds_toArray, List.set_cons_zero, List.set_cons_succ])) | (refine wpAny_take (i := 11) (v := ?_) rfl (by kernel_rfl) (by kernel_rfl) (by kernel_rfl) (fun _ _ _ h => h) (Or.inl ⟨by rfl, ?_⟩) ?_; rotate_left; (focus (intro wz; go_simp; with_reducible rfl)); (try simp only [Act.put, List.getElem_toArray, List.getElem_cons_succ, List.getElem_cons_zero, List.setIfInBounds_toArray, List.set_cons_zero, List.set_cons_succ])) | (refine wpAny_take (i := 11) (v := undef) rfl (by kernel_rfl) (by kernel_rfl) (by kernel_rfl) (fun _ _ _ h => h) (Or.inr ⟨by rfl, rfl⟩) ?_; (try simp only [Act.put, List.getElem_toArray, List.getElem_cons_succ, List.getElem_cons_zero, List.setIfInBounds_toArray, List.set_cons_zero, List.set_cons_succ])) | fail "op 11"
              refine wpAny_done (by kernel_rfl) ?_ _
              go_wp2
              go_ret2
              exact HX.out
end Go.Proofs.YticapinlnlpbpaaDoor
