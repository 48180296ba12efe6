/-
  The draw of manuscripts and a stem of them.
-/
import Derived.Test.YtbeiedaldinhaaaDoorDbf
import Derived.Test.YtbeiedaldinhaaaDoorStb
namespace Go.Proofs.YtbeiedaldinhaaaDoor
open Go.RowKit
set_option maxRecDepth 100000
set_option linter.unusedVariables false

theorem own_kindS {w : World} {B n g : Nat} {e : TypeId} {v : Value} {xs : List Value} (h : w.ownsRow B e 1 v n xs) (hg : v.ownBlock = some g) : ∃ cur, w.heap[g]? = some (.cells cur e (0, 0)) := by
  obtain ⟨_, h | ⟨g', cap, cur, rfl, hb, hh, _⟩⟩ := h
  · rw [h.1] at hg; simp [Value.ownBlock] at hg
  · have e : g' = g := by simpa [Value.ownBlock] using hg
    subst e
    exact ⟨cur, hh⟩
theorem kind_neS {w : World} {g k : Nat} {c d : Array Value} {e f : TypeId} {m n : Nat × Nat} (h : w.heap[g]? = some (.cells c e m)) (k' : w.heap[k]? = some (.cells d f n)) (hef : e ≠ f) : g ≠ k := by
  rintro rfl
  rw [h] at k'
  injection k' with k'
  injection k' with _ k' _
  exact hef k'

/-- texts and numbers that have been drawn so far -/
structure StI (B A q : Nat) (w wr : World) (v : Value) (ss : List ByteArray) (u : Value) (zs : List Int) : Prop where
  bk : BkI B A q w wr v ss
  own : wr.ownsRow w.heap.size 3 1 u zs.length (zs.map (Value.int .i64))

theorem StI.start {B A q : Nat} {w wr : World} {v : Value} {ss : List ByteArray} (h : BkI B A q w wr v ss) (hB : B < w.heap.size) : StI B A q w (wr.alloc (.cells #[] 3)) v ss (.slice (some ⟨wr.heap.size, 0, none⟩) 0 0) [] :=
  ⟨h.below hB ((Below.refl _ _).alloc (Nat.le_refl _) _), ⟨by simp, .inr ⟨wr.heap.size, 0, #[], rfl, h.gr.size, heap_alloc_new wr _, by simp, by simp [maxLen], by simp, by simp⟩⟩⟩
theorem StI.pick {B A q q' : Nat} {w wr w' : World} {v u : Value} {ss : List ByteArray} {zs : List Int} (h : StI B A q w wr v ss u zs) (hB : B < w.heap.size) (hr : Rd w' B A q') (hg : wr.grownBy w' (some B)) : StI B A q' w w' v ss u zs := by
  refine ⟨h.bk.pick hB hr hg, own_keeps h.own fun g hg1 hgs => hg.block g hgs (fun e => ?_)⟩
  have := (own_lts h.own hg1).1
  have := Option.some.inj e
  omega
theorem StI.below {B A q : Nat} {w wr w' : World} {v u : Value} {ss : List ByteArray} {zs : List Int} (h : StI B A q w wr v ss u zs) (hB : B < w.heap.size) (hb : Below wr.heap.size wr w') : StI B A q w w' v ss u zs :=
  h.pick hB (h.bk.rd.below hb) ⟨hb.os, hb.tape, hb.output, hb.size, fun k hk _ => hb.block k hk⟩
theorem StI.more {B A q q' : Nat} {w wr : World} {v u : Value} {ss : List ByteArray} {zs : List Int} (h : StI B A q w wr v ss u zs) (hq : q ≤ q') : StI B A q' w wr v ss u zs := ⟨h.bk.more hq, h.own⟩
theorem StI.app {B A q : Nat} {w w1 w2 : World} {v u u' : Value} {ss : List ByteArray} {zs : List Int} {z : Int} {o : Obj} (h : StI B A q w w1 v ss u zs) (hB : B < w.heap.size) (hA : A < w.heap.size)
    (hown : w2.ownsRow w.heap.size 3 1 u' (zs.length + 1) (zs.map (Value.int .i64) ++ [.int .i64 z])) (hg : (w1.alloc o).grownBy w2 u.ownBlock) : StI B A q w w2 v ss u' (zs ++ [z]) := by
  have hz := h.bk.gr.size
  have k1 : ∀ k, k < w1.heap.size → (w1.alloc o).heap[k]? = w1.heap[k]? := fun k hk => ((Below.refl w1.heap.size w1).alloc (Nat.le_refl _) o).block k hk
  have hs : (w1.alloc o).heap.size = w1.heap.size + 1 := World.size_alloc _ _
  have hne : ∀ k, k < w.heap.size → some k ≠ u.ownBlock := fun k hk e => by have := (own_lts h.own e.symm).1; omega
  refine ⟨⟨own_keeps h.bk.own fun g hg1 hgs => (hg.block g (by omega) (fun e => ?_)).trans (k1 g hgs), ⟨hg.os.trans h.bk.gr.os, hg.tape.trans h.bk.gr.tape, hg.output.trans h.bk.gr.output, by have := hg.size; omega, fun k hk hk2 => (hg.block k (by omega) (hne k hk)).trans ((k1 k (by omega)).trans (h.bk.gr.block k hk hk2))⟩, (h.bk.rd.alloc o).grownS hg (fun e => hne B hB e.symm) (fun e => hne A hA e.symm)⟩, by simpa using hown⟩
  obtain ⟨c1, hc1⟩ := own_kindS h.bk.own hg1
  obtain ⟨c2, hc2⟩ := own_kindS h.own e.symm
  exact kind_neS hc1 hc2 (by decide) rfl
theorem StI.form {B A q : Nat} {w wr : World} {v u : Value} {ss : List ByteArray} {zs : List Int} (h : StI B A q w wr v ss u zs) (hn : 1 ≤ zs.length) :
    ∃ g cap, u = .slice (some ⟨g, 0, none⟩) zs.length cap ∧ zs.length ≤ cap ∧ cap ≤ maxLen := by
  obtain ⟨_, h0 | ⟨g, cap, cur, rfl, _, _, h1, h2, _⟩⟩ := h.own
  · omega
  · exact ⟨g, cap, rfl, h1, h2⟩
theorem StI.set {B A q : Nat} {w wr : World} {v u : Value} {ss : List ByteArray} {zs : List Int} {i : Nat} (h : StI B A q w wr v ss u zs) (hB : B < w.heap.size) (hA : A < w.heap.size) (hi : i < zs.length) :
    ∃ g cap, u = .slice (some ⟨g, 0, none⟩) zs.length cap ∧ zs.length ≤ cap ∧ cap ≤ maxLen ∧ (∃ x, wr.cell? ⟨g, i, none⟩ = some x) ∧ (∀ o, wr.frozen? ⟨g, o, none⟩ = false) ∧ ∀ z, StI B A q w (wr.setCell ⟨g, i, none⟩ (.int .i64 z)) v ss u (zs.set i z) := by
  obtain ⟨hl, h0 | ⟨g, cap, cur, rfl, hg, hh, hc, hm, hz, ht⟩⟩ := h.own
  · omega
  · rw [Nat.mul_one] at hz ht
    refine ⟨g, cap, rfl, hc, hm, ⟨cur[i]'(by omega), by simp [World.cell?, hh, Array.getElem?_eq_getElem (by omega : i < cur.size)]⟩, fun o => by simp [World.frozen?, hh], fun z => ⟨⟨own_keeps h.bk.own fun k hk1 hks => ?_, ?_, ?_⟩, ⟨by simp, .inr ⟨g, cap, cur.setIfInBounds i (.int .i64 z), by rw [List.length_set], hg, by simp [World.setCell, Array.getElem?_modify, hh], by rw [List.length_set]; exact hc, hm, by simp [hz], ?_⟩⟩⟩⟩
    · obtain ⟨c1, hc1⟩ := own_kindS h.bk.own hk1
      rw [Below.heap_setCell _ _ _ _ (kind_neS hc1 hh (by decide))]
    · refine ⟨h.bk.gr.os, h.bk.gr.tape, h.bk.gr.output, by simpa [World.setCell] using h.bk.gr.size, fun k hk hne => ?_⟩
      rw [Below.heap_setCell _ _ _ _ (fun e => by have e : k = g := e; omega)]
      exact h.bk.gr.block k hk hne
    · exact h.bk.rd.set_ (fun e => by have e : g = B := e; omega) (fun e => by have e : g = A := e; omega) _
    · rw [List.length_set, Nat.mul_one, Array.toList_setIfInBounds, List.take_set, ht, List.map_set]
theorem StI.iview {B A q : Nat} {w wr : World} {v u : Value} {ss : List ByteArray} {zs : List Int} (h : StI B A q w wr v ss u zs) : IV wr u zs :=
  IRow.view (lo := w.heap.size) (hi := wr.heap.size) ⟨h.own, fun g hg => (own_lts h.own hg).2⟩

theorem StI.iviewG {B A q : Nat} {w wr W : World} {v u : Value} {ss : List ByteArray} {zs : List Int} (h : StI B A q w wr v ss u zs) (hB : B < w.heap.size) (hg : wr.grownBy W (some B)) : IV W u zs := by
  have k := own_keeps h.own fun g hg1 hgs => hg.block g hgs (fun e => by have := (own_lts h.own hg1).1; have e : g = B := Option.some.inj e; omega)
  exact IRow.view (lo := w.heap.size) (hi := W.heap.size) ⟨k, fun g hg => (own_lts k hg).2⟩

/-- manuscripts and a stem that were drawn -/
def StmPicked (B A q : Nat) (w : World) (e : Ending) (w' : World) : Prop :=
  ∃ v u ss zs, e = .returned (.tuple #[v, u]) ∧ BkI B A (q + 80) w w' v ss ∧ (∀ W, w'.grownBy W (some B) → IV W u zs) ∧ ss.length ≤ 5 ∧ ∀ s ∈ ss, s.size ≤ 8

theorem IV.tail1 {w : World} {g cap : Nat} {zs : List Int} (h : IV w (.slice (some ⟨g, 0, none⟩) zs.length cap) zs) (h1 : 1 ≤ zs.length) : IV w (.slice (some ⟨g, 1, none⟩) (zs.length - 1) (cap - 1)) (zs.drop 1) := by
  obtain ⟨a, c, e, ha, h2, h3⟩ := h
  injection e with e1 e2 e3
  subst e1 e3
  have := ArgI.from_ ha 1
  rw [Nat.zero_add] at this
  refine ⟨some ⟨g, 1, none⟩, cap - 1, by rw [List.length_drop], this, ?_, ?_⟩
  · rw [List.length_drop]; omega
  · unfold maxLen at h3 ⊢; omega

set_option maxHeartbeats 12000000 in
theorem l92Stem_any (B A q : Nat) (lost : Bool) (hq : q ≤ 10000) (w : World) (h : Rd w B A q) :
    Calls Tryd.prog 33 #[.pointer (some ⟨B, 0, none⟩), .bool lost] w (StmPicked B A q w) := by
  obtain ⟨i0, hi, hq0, hq1, hq2⟩ := info_parts infoIb
  have hB := h.lt
  have hA := h.ltA
  go_enter Tryd.func33, Tryd.ntmps33
  go_wp2_with (fail)
  (go_at_call 49; refine (l92Books_any B A q lost (by omega) _ h).mono ?_; rintro e w1 ⟨v, ss, rfl, hI, hl5, hs8⟩)
  have HS8 := Lib.hid hs8
  have HT := Lib.hid (StI.start hI hB)
  obtain ⟨ad, c, hv, _, _, _⟩ := hI.view
  subst hv
  clear hI hs8
  go_wp2_with (fail)
  go_loopw [7, 8] (fun u i wr => ∃ zs : List Int, zs.length ≤ ss.length ∧ i = .int .i64 (zs.length : Int) ∧ StI B A (q + 60 + zs.length) w wr (.slice ad ss.length c) ss u zs) (fun _ i _ => ss.length - (intOf i).toNat)
  case atStart => exact ⟨[], Nat.zero_le _, rfl, HT.out⟩
  case round =>
    obtain ⟨zs, hzl, rfl, hI⟩ := hrel
    have HI := Lib.hid hI
    have hrI := hI.bk.rd
    by_cases hlt : zs.length < ss.length
    · have l0 : (zs.length : Int) < (ss.length : Int) := by omega
      by_cases hz0 : zs.length = 0
      · have t0 : ((zs.length : Int) == 0) = true := by simp [hz0]
        have hown := hI.own
        have hzz := hI.bk.gr.size
        clear hI hz0 hrI
        go_wp2_with (at_builtin; refine wpList_append_own _ rfl _ _ 24 rfl w.heap.size 3 i0 (.int .i64 0) 1 8 Tryd.underlying24 hi hq0 hq1 hq2 rfl (by decide) _ _ _ rfl (hown.alloc _) ⟨wr.heap.size, 0, none⟩ 1 1 [.int .i64 (-1)] rfl rfl inews inews_one (by unfold maxLen; omega) (by omega) (by simp; omega) ?_)
        intro u' w3 hown' hgrow _
        have HN := Lib.hid ((HI.out.app hB hA hown' hgrow).more (q' := q + 60 + (zs.length + 1)) (by omega))
        clear hown hown' hgrow
        go_wp2
        go_roundw
        case rel => exact ⟨zs ++ [-1], by simp only [List.length_append, List.length_cons, List.length_nil]; omega, by simp only [List.length_append, List.length_cons, List.length_nil]; go_num, by rw [List.length_append]; exact HN.out⟩
        case measure => simp [intOf]; omega
      · have t0 : ((zs.length : Int) == 0) = false := by rw [beq_eq_false_iff_ne]; omega
        have hz1 : 1 ≤ (zs.length : Int) := by omega
        clear hI hz0
        go_wp2_with (fail)
        (go_at_call 50; refine (pick_any (zs.length : Int) B A _ hz1 (by omega) (by omega) _ hrI).mono ?_; rintro e w4 ⟨k3, rfl, h30, h31, hr4, hg4⟩)
        have hI4 := HI.out.pick hB hr4 hg4
        have HI4 := Lib.hid hI4
        have hown := hI4.own
        have hzz := hI4.bk.gr.size
        clear hI4 hr4 hg4 hrI
        go_wp2_with (at_builtin; refine wpList_append_own _ rfl _ _ 24 rfl w.heap.size 3 i0 (.int .i64 0) 1 8 Tryd.underlying24 hi hq0 hq1 hq2 rfl (by decide) _ _ _ rfl (hown.alloc _) ⟨w4.heap.size, 0, none⟩ 1 1 [.int .i64 k3] rfl rfl inews inews_one (by unfold maxLen; omega) (by omega) (by simp; omega) ?_)
        intro u' w3 hown' hgrow _
        have HN := Lib.hid ((HI4.out.app hB hA hown' hgrow).more (q' := q + 60 + (zs.length + 1)) (by omega))
        clear hown hown' hgrow
        go_wp2
        go_roundw
        case rel => exact ⟨zs ++ [k3], by simp only [List.length_append, List.length_cons, List.length_nil]; omega, by simp only [List.length_append, List.length_cons, List.length_nil]; go_num, by rw [List.length_append]; exact HN.out⟩
        case measure => simp [intOf]; omega
    · by_cases hz0 : zs.length = 0
      · have t0 : decide ((0 : Int) < (zs.length : Int)) = false := decide_eq_false (by omega)
        have t1 : decide (0 < zs.length) = false := decide_eq_false (by omega)
        have HX := Lib.hid (show StmPicked B A q w (.returned (.tuple #[.slice ad ss.length c, u7])) wr from ⟨_, _, ss, zs, rfl, HI.out.bk.more (by omega), fun W hW => HI.out.iviewG hB hW, hl5, HS8.out⟩)
        obtain ⟨au, cu, hu, _, _, _⟩ := hI.iview
        subst hu
        clear hI hz0 hrI
        go_wp2
        go_ret2
        exact HX.out
      have hz1 : 1 ≤ zs.length := by omega
      have hz5 : zs.length ≤ 5 := by omega
      obtain ⟨g, cap, hu, hgc, hgm⟩ := hI.form hz1
      subst hu
      have t0 : decide ((0 : Int) < (zs.length : Int)) = true := decide_eq_true (by omega)
      have t1 : decide (0 < zs.length) = true := decide_eq_true (by omega)
      clear hI hzl
      go_wp2_with (fail)
      (go_at_call 50; refine (pick_any 30 B A _ (by omega) (by omega) (by omega) _ hrI).mono ?_; rintro e w4 ⟨k3, rfl, h30, h31, hr4, hg4⟩)
      have hI4 := HI.out.pick hB hr4 hg4
      have HI4 := Lib.hid (hI4.more (q' := q + 70) (by omega))
      clear hI4 hr4 hg4 hrI
      by_cases g0 : k3 = 0
      · subst g0
        have hI5 := HI4.out.below hB ((Below.refl w4.heap.size w4).alloc (Nat.le_refl _) (.cells #[.int .i64 (-2), .int .i64 (zs.length : Int), .int .i64 (-1)] 3))
        have HI5 := Lib.hid hI5
        have hr5 := hI5.bk.rd
        have hz4 := HI4.out.bk.gr.size
        have hlist : ∀ j : Nat, j < 3 → ∃ z : Int, (w4.alloc (.cells #[.int .i64 (-2), .int .i64 (zs.length : Int), .int .i64 (-1)] 3)).cell? ⟨w4.heap.size, j, none⟩ = some (.int .i64 z) := fun j hj => by
          have : j = 0 ∨ j = 1 ∨ j = 2 := by omega
          rcases this with rfl | rfl | rfl
          · exact ⟨_, by rw [World.cell?_alloc_new]; rfl⟩
          · exact ⟨_, by rw [World.cell?_alloc_new]; rfl⟩
          · exact ⟨_, by rw [World.cell?_alloc_new]; rfl⟩
        have HLI := Lib.hid hlist
        have hsa : w4.heap.size < (w4.alloc (.cells #[.int .i64 (-2), .int .i64 (zs.length : Int), .int .i64 (-1)] 3)).heap.size := by simp
        have HP := Lib.hid (pick_any 3 B A _ (by omega) (by omega) (by omega) _ hr5)
        clear hI5 hlist hr5
        go_wp2_with (fail)
        (go_at_call 50; refine (HP.out).mono ?_; rintro e w5 ⟨k5, rfl, h50, h51, hr6, hg6⟩)
        have HI6 := Lib.hid ((HI5.out.pick hB hr6 hg6).more (q' := q + 80) (by omega))
        obtain ⟨j5, rfl⟩ : ∃ j5 : Nat, k5 = (j5 : Int) := ⟨k5.toNat, by omega⟩
        obtain ⟨z5, hz5c⟩ := HLI.out j5 (by omega)
        have c5 : w5.cell? ⟨w4.heap.size, j5, none⟩ = some (.int .i64 z5) := by
          rw [← hz5c]
          exact World.cell?_of_block (a := ⟨w4.heap.size, j5, none⟩) (hg6.block _ hsa (fun e => by have e : w4.heap.size = B := Option.some.inj e; omega))
        obtain ⟨j, hj⟩ : ∃ j : Nat, (zs.length : Int) - 1 = (j : Int) := ⟨zs.length - 1, by omega⟩
        obtain ⟨g', cap', hv', hc', hm', ⟨x5, hx5⟩, hf5, hset⟩ := HI6.out.set (i := j) hB hA (by omega)
        injection hv' with e1 _ e3
        injection e1 with e1
        injection e1 with e1
        subst e1 e3
        have HS := Lib.hid (hset z5)
        have f5 := hf5 j
        have wj : IntKind.i64.wrap ((zs.length : Int) - 1) = (j : Int) := by rw [hj]; exact IntWalk.i64_in _ (by omega)
        have j0 : (0 : Int) ≤ (j : Int) := by omega
        have j1 : (j : Int) < (zs.length : Int) := by omega
        have HX : Hid (StmPicked B A q w (.returned (.tuple #[.slice ad ss.length c, .slice (some ⟨g, 0, none⟩) zs.length cap])) (w5.setCell ⟨g, j, none⟩ (.int .i64 z5))) :=
          ⟨_, _, ss, zs.set j z5, rfl, HS.out.bk, fun W hW => HS.out.iviewG hB hW, hl5, HS8.out⟩
        unfold maxLen at hgm
        clear hset hf5 hr6 hg6 hz5c hsa hm'
        go_wp2
        go_ret2
        exact HX.out
      by_cases g1 : k3 = 1
      · subst g1
        by_cases hc1 : cap = 1
        · have hz11 : zs.length = 1 := by omega
          have HX : Hid (∀ w', Below w4.heap.size w4 w' → StmPicked B A q w (.returned (.tuple #[.slice ad ss.length c, .slice (some ⟨g, 0, none⟩) 0 0])) w') := fun w' hb =>
            ⟨_, _, ss, [], rfl, (HI4.out.bk.below hB hb).more (by omega), fun W hW => ⟨_, 0, rfl, .inl rfl, Nat.le_refl _, Nat.zero_le _⟩, hl5, HS8.out⟩
          subst hc1
          rw [hz11]
          clear hz11 t0 t1 g0 hgm hgc
          go_wp2_with (fail)
          go_quiet (fail)
          go_wp2
          go_ret2
          exact HX.out _ (bl_drewN (Below.refl _ _) _)
        · have HX : Hid (∀ w', Below w4.heap.size w4 w' → StmPicked B A q w (.returned (.tuple #[.slice ad ss.length c, .slice (some ⟨g, 1, none⟩) (zs.length - 1) (cap - 1)])) w') := fun w' hb =>
            ⟨_, _, ss, zs.drop 1, rfl, (HI4.out.bk.below hB hb).more (by omega), fun W hW => ((HI4.out.below hB hb).iviewG hB hW).tail1 hz1, hl5, HS8.out⟩
          have m1 : (1 : Int) ≤ (zs.length : Int) := by omega
          have m3 : (zs.length : Int) ≤ (cap : Int) := by omega
          have m5 : (1 : Int) ≤ (cap : Int) := by omega
          unfold maxLen at hgm
          clear g0
          go_wp2_with (fail)
          go_quiet (fail)
          go_wp2
          go_ret2
          exact HX.out _ (bl_drewN (Below.refl _ _) _)
      have s0 : (k3 == 0) = false := by simpa using g0
      have s1 : (k3 == 1) = false := by simpa using g1
      have HX := Lib.hid (show StmPicked B A q w (.returned (.tuple #[.slice ad ss.length c, .slice (some ⟨g, 0, none⟩) zs.length cap])) w4 from ⟨_, _, ss, zs, rfl, HI4.out.bk.more (by omega), fun W hW => HI4.out.iviewG hB hW, hl5, HS8.out⟩)
      clear g0 g1
      go_wp2
      go_ret2
      exact HX.out
end Go.Proofs.YtbeiedaldinhaaaDoor
