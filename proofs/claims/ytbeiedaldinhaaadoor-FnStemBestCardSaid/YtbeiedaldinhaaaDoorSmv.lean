/-
  What is a stem, how deep a manuscript lies in it, and a manuscript moved, in both programs.
-/
import Derived.Test.YtbeiedaldinhaaaDoorTn
import Derived.Test.YtbeiedaldinhaaaDoorStb
namespace Go.Proofs.YtbeiedaldinhaaaDoor
open Go.RowKit
set_option maxRecDepth 100000
set_option linter.unusedVariables false

set_option maxHeartbeats 8000000 in
theorem sStemValid_any (v u : Value) (ss : List ByteArray) (st : List Int) (w : World) (h : SV w v ss) (k : IV w u st) (hsz : ∀ s ∈ ss, s.size ≤ 4611686018427387904) :
    Calls Tryd.prog 38 #[v, u] w fun e w' => e = .returned (.bool (svl ss st)) ∧ ∃ m, w' = w.drewN m := by
  have KB := Lib.hid (l7Books_any v ss w h hsz)
  obtain ⟨a, c, rfl, ha, hc1, hc2⟩ := h
  obtain ⟨a', c', rfl, ha', hc1', hc2'⟩ := k
  unfold maxLen at hc2 hc2'
  have HA' := Lib.hid ha'
  clear ha ha' hsz
  cases hok : bkOk ss with
  | false =>
    rw [svl_no1 hok]
    rw [hok] at KB
    clear hok
    go_enter Tryd.func38, Tryd.ntmps38
    go_wp2_with (fail)
    (go_at_call 52; refine (KB.out).mono ?_; rintro e w1 ⟨rfl, m, rfl⟩)
    go_wp2
    go_ret
    exact ⟨rfl, m, rfl⟩
  | true =>
  rw [hok] at KB
  by_cases h2 : bkL ss = ss.length
  · rw [svl_no2 h2]
    have t1 : ((bkL ss : Int) == (ss.length : Int)) = true := by rw [h2]; simp
    clear hok h2
    generalize (bkL ss : Int) = n at KB t1
    go_enter Tryd.func38, Tryd.ntmps38
    go_wp2_with (fail)
    (go_at_call 52; refine (KB.out).mono ?_; rintro e w1 ⟨rfl, m, rfl⟩)
    go_wp2
    go_ret
    exact ⟨rfl, m, rfl⟩
  have t1 : ((bkL ss : Int) == (ss.length : Int)) = false := by rw [beq_eq_false_iff_ne]; omega
  by_cases h3 : st.length = ss.length
  case neg =>
    rw [svl_no3 h3]
    have t2 : ((st.length : Int) != (ss.length : Int)) = true := by rw [bne_iff_ne]; omega
    clear hok h2 h3
    generalize (bkL ss : Int) = n at KB t1
    go_enter Tryd.func38, Tryd.ntmps38
    go_wp2_with (fail)
    (go_at_call 52; refine (KB.out).mono ?_; rintro e w1 ⟨rfl, m, rfl⟩)
    go_wp2
    go_ret
    exact ⟨rfl, m, rfl⟩
  have t2 : ((st.length : Int) != (ss.length : Int)) = false := by rw [bne_eq_false_iff_eq]; omega
  obtain ⟨hin, hall⟩ := bkOk_in hok
  obtain ⟨n1, n6, p1, p8⟩ := bkIn_parts hin
  have hne' : st ≠ [] := by rintro rfl; simp at h3; omega
  rcases HA'.out with hh | ⟨A', off', rfl, hA', hc'⟩
  · exact absurd hh hne'
  have HC' := Lib.hid hc'
  have sn : st.length ≤ 6 := by omega
  have s1 : 1 ≤ st.length := by omega
  have j0 : (0 : Int) < (st.length : Int) := by omega
  have e0 := HC'.out 0 s1
  rw [Nat.add_zero] at e0
  have HOK := Lib.hid hok
  have H2 := Lib.hid h2
  have H3 := Lib.hid h3
  clear hok h2 h3 hin hall hne' hc' HA'
  by_cases h4 : st.getD 0 0 = -1
  case neg =>
    rw [svl_no4 h4]
    have t3 : (st.getD 0 0 != -1) = true := by rw [bne_iff_ne]; exact h4
    clear h4
    generalize st.getD 0 0 = z at e0 t3
    generalize (bkL ss : Int) = n at KB t1
    go_enter Tryd.func38, Tryd.ntmps38
    go_wp2_with (fail)
    (go_at_call 52; refine (KB.out).mono ?_; rintro e w1 ⟨rfl, m, hw1⟩)
    have e1 : w1.cell? ⟨A', off', none⟩ = some (.int .i64 z) := by rw [hw1]; exact e0
    have HW := Lib.hid hw1
    clear hw1 e0
    go_wp2
    go_ret
    exact ⟨rfl, m, HW.out⟩
  rw [h4] at e0
  have H4 := Lib.hid h4
  clear h4
  generalize (bkL ss : Int) = nl at KB t1
  go_enter Tryd.func38, Tryd.ntmps38
  go_wp2_with (fail)
  (go_at_call 52; refine (KB.out).mono ?_; rintro e w1 ⟨rfl, m, hw1⟩)
  have e1 : w1.cell? ⟨A', off', none⟩ = some (.int .i64 (-1)) := by rw [hw1]; exact e0
  have HW := Lib.hid hw1
  clear hw1 e0
  go_wp2
  go_loop [7] (fun i => ∃ k : Nat, 1 ≤ k ∧ k ≤ st.length ∧ i = .int .i64 (k : Int) ∧ Hid (StTo st k)) (fun i => st.length - (intOf i).toNat)
  case atStart => exact ⟨1, Nat.le_refl _, s1, rfl, StTo.one st⟩
  case round =>
    obtain ⟨k, hk1, hk2, rfl, hto⟩ := hrel
    by_cases hlt : k < st.length
    · have f1 : w1.cell? ⟨A', off' + k, none⟩ = some (.int .i64 (st.getD k 0)) := by rw [HW.out]; exact HC'.out _ hlt
      have b0 : (0 : Int) ≤ (k : Int) := by omega
      have b1 : (k : Int) < (st.length : Int) := by omega
      have wl : IntKind.i64.wrap ((k : Int) - 1) = (k : Int) - 1 := IntWalk.i64_in _ (by omega)
      have HL := Lib.hid (l6InB_any (st.getD k 0) 0 ((k : Int) - 1))
      by_cases hz : 0 ≤ st.getD k 0 ∧ st.getD k 0 < (k : Int)
      · have HN : Hid (StTo st (k + 1)) := hto.out.next hz.1 hz.2
        have e2 : (decide (0 ≤ st.getD k 0) && decide (st.getD k 0 ≤ (k : Int) - 1)) = true := by rw [decide_eq_true (by omega), decide_eq_true (by omega)]; rfl
        rw [e2] at HL
        clear hz e2
        generalize st.getD k 0 = z at f1 HL
        go_wp2_with (fail)
        (go_at_call 48; refine (HL.out _).mono ?_; rintro e wx ⟨rfl, rfl⟩)
        go_wp2
        go_round
        case rel => exact ⟨k + 1, by omega, by omega, by go_num, HN⟩
        case measure => simp [intOf]; omega
      · have HN := Lib.hid (svl_no5 (ss := ss) (st := st) hlt (by omega) hz)
        have e2 : (decide (0 ≤ st.getD k 0) && decide (st.getD k 0 ≤ (k : Int) - 1)) = false := by
          rw [Bool.and_eq_false_iff]
          by_cases h : 0 ≤ st.getD k 0
          · exact .inr (decide_eq_false (by omega))
          · exact .inl (decide_eq_false h)
        rw [e2] at HL
        clear hz e2
        generalize st.getD k 0 = z at f1 HL
        go_wp2_with (fail)
        (go_at_call 48; refine (HL.out _).mono ?_; rintro e wx ⟨rfl, rfl⟩)
        go_wp2
        go_ret
        exact ⟨by rw [HN.out]; rfl, m, HW.out⟩
    · have hke : k = st.length := by omega
      subst hke
      have HV : Hid (svl ss st = true) := svl_yes HOK.out H2.out H3.out H4.out hto.out
      go_wp2
      go_ret
      exact ⟨by rw [HV.out]; rfl, m, HW.out⟩

set_option maxHeartbeats 2000000 in
theorem stemValid_any (v u : Value) (ss : List ByteArray) (st : List Int) (w : World) (h : SV w v ss) (k : IV w u st) (hsz : ∀ s ∈ ss, s.size ≤ 4611686018427387904) :
    Calls Tryd.prog 27 #[v, u] w fun e w' => e = .returned (.bool (svl ss st)) ∧ Below w.heap.size w w' := by
  have KB := Lib.hid (newStemTree_any v u ss st w h k hsz)
  unfold Treed at KB
  generalize svl ss st = b at KB ⊢
  clear h k
  go_enter Tryd.func27, Tryd.ntmps27
  go_wp2_with (fail)
  (go_at_call 35; refine (KB.out).mono ?_; rintro e w1 ⟨tv, rfl, _, _, hb1⟩)
  go_wp2
  go_ret
  exact ⟨rfl, hb1⟩

theorem run_eql_slice_nilS (w : World) (t e : TypeId) (a : Option Addr) (l c : Nat) (h : Tryd.prog.underlying t = some (.slice e)) : (binOp .eql t (.slice a l c) (.slice none 0 0)).run Tryd.prog w = .ok (.bool a.isNone) w := Lib.run_eql_slice_nil w t e a l c 0 0 h

theorem own_set {w wr : World} {v : Value} {xs : List Int} {i : Nat} (h : IbInv w wr v xs) (hi : i < xs.length) :
    ∃ g cap, v = .slice (some ⟨g, 0, none⟩) xs.length cap ∧ (∃ u, wr.cell? ⟨g, i, none⟩ = some u) ∧ wr.frozen? ⟨g, i, none⟩ = false ∧ ∀ z : Int, IbInv w (wr.setCell ⟨g, i, none⟩ (.int .i64 z)) v (xs.set i z) := by
  obtain ⟨hl, h0 | ⟨g, cap, cur, rfl, hg, hh, hc, hm, hz, ht⟩⟩ := h.own
  · omega
  · rw [Nat.mul_one] at hz ht
    refine ⟨g, cap, rfl, ⟨cur[i]'(by omega), by simp [World.cell?, hh, Array.getElem?_eq_getElem (by omega : i < cur.size)]⟩, by simp [World.frozen?, hh], fun z => ⟨⟨by simp, .inr ⟨g, cap, cur.setIfInBounds i (.int .i64 z), by rw [List.length_set], hg, by simp [World.setCell, Array.getElem?_modify, hh], by rw [List.length_set]; exact hc, hm, by simp [hz], ?_⟩⟩, h.bl.setCell hg _⟩⟩
    rw [List.length_set, Nat.mul_one, Array.toList_setIfInBounds, List.take_set, ht, List.map_set]

theorem int_news {w : World} {A off : Nat} {xs : List Int} (hc : ∀ i, i < xs.length → w.cell? ⟨A, off + i, none⟩ = some (.int .i64 (xs.getD i 0))) : ∀ j u, (xs.map (Value.int .i64))[j]? = some u → w.cell? ((⟨A, off, none⟩ : Addr).add j) = some u := by
  intro j u hj
  rw [List.getElem?_map] at hj
  obtain ⟨z, hz, rfl⟩ := Option.map_eq_some_iff.1 hj
  obtain ⟨hl, hz⟩ := List.getElem?_eq_some_iff.1 hz
  rw [Go.WideShapes.add_plain, hc j hl]
  simp [List.getD_eq_getElem?_getD, List.getElem?_eq_getElem hl, hz]

theorem int_one (xs : List Int) : ∀ u ∈ xs.map (Value.int .i64), u.oneCell' = true := by
  intro u hu
  rw [List.mem_map] at hu
  obtain ⟨z, _, rfl⟩ := hu
  rfl

theorem IbInv.empty {w w1 : World} (h : Below w.heap.size w w1) : IbInv w (w1.alloc (.cells #[] 3)) (.slice (some ⟨w1.heap.size, 0, none⟩) 0 0) [] :=
  ⟨⟨by simp, .inr ⟨w1.heap.size, 0, #[], rfl, h.size, heap_alloc_new w1 _, by simp, by simp [maxLen], by simp, by simp⟩⟩, h.alloc h.size _⟩

theorem IbInv.apps {w w1 w2 : World} {v v' : Value} {xs ys : List Int} (h : IbInv w w1 v xs)
    (hown : w2.ownsRow w.heap.size 3 1 v' (xs.length + ys.length) (xs.map (Value.int .i64) ++ ys.map (Value.int .i64))) (hg : w1.grownBy w2 v.ownBlock) : IbInv w w2 v' (xs ++ ys) :=
  ⟨by rw [List.map_append, List.length_append]; exact hown, h.bl.grown hg (by have := h.bl.size; omega) (fun k hk => (own_ltb h.own hk).1)⟩

set_option maxHeartbeats 4000000 in
theorem clone_any (a : Addr) (c : Nat) (st : List Int) (w : World) (h : ArgI w (some a) st) (hl : st.length ≤ 1000) (h1 : 1 ≤ st.length) (hc : st.length ≤ c) (hc2 : c ≤ maxLen) :
    Calls Tryd.prog 47 #[.slice (some a) st.length c] w fun e w' => ∃ v, e = .returned v ∧ IbInv w w' v st := by
  obtain ⟨i0, hi, hq0, hq1, hq2⟩ := info_parts infoIb
  have hne : st ≠ [] := by rintro rfl; simp at h1
  rcases h with h | ⟨A, off, ha, hA, hcl⟩
  · exact absurd h hne
  have ha : a = ⟨A, off, none⟩ := Option.some.inj ha
  subst ha
  have heq : ∀ W : World, (binOp .eql 24 (.slice (some ⟨A, off, none⟩) st.length c) (.slice none 0 0)).run Tryd.prog W = .ok (.bool false) W := fun W => run_eql_slice_nilS W 24 3 (some ⟨A, off, none⟩) st.length c Tryd.underlying24
  have HI := Lib.hid (IbInv.empty (Below.refl w.heap.size w))
  have hal : Below w.heap.size w (w.alloc (.cells #[] 3)) := (Below.refl _ _).alloc (Nat.le_refl _) _
  have HN := Lib.hid (int_news (w := w.alloc (.cells #[] 3)) (A := A) (off := off) (xs := st) (fun i hi => (hal.cell (p := ⟨A, off + i, none⟩) hA).trans (hcl i hi)))
  have hown := HI.out.own
  clear hcl hal hne
  unfold maxLen at hc2
  go_enter Tryd.func47, Tryd.ntmps47
  go_wp2_with (at_builtin; refine wpList_append_own _ rfl _ _ 24 rfl w.heap.size 3 i0 (.int .i64 0) 1 8 Tryd.underlying24 hi hq0 hq1 hq2 rfl (by decide) _ _ _ rfl hown ⟨A, off, none⟩ st.length c (st.map (Value.int .i64)) rfl (by simp) HN.out (int_one st) (by simp [maxLen]; omega) (by simp; omega) (by simp) ?_)
  intro v' w3 hown' hgrow _
  have HX : Hid (IbInv w w3 v' st) := HI.out.apps (by simpa using hown') hgrow
  clear hown hown' hgrow
  go_wp2
  go_ret
  exact ⟨v', rfl, HX.out⟩

theorem own_lo {w : World} {B B' n : Nat} {e : TypeId} {v : Value} {xs : List Value} (h : w.ownsRow B e 1 v n xs) (hb : B' ≤ B) : w.ownsRow B' e 1 v n xs := by
  obtain ⟨hl, h | ⟨g, cap, cur, rfl, hg, hr⟩⟩ := h
  · exact ⟨hl, .inl h⟩
  · exact ⟨hl, .inr ⟨g, cap, cur, rfl, Nat.le_trans hb hg, hr⟩⟩

set_option maxHeartbeats 8000000 in
theorem sStemMove_any (v u : Value) (ss : List ByteArray) (st : List Int) (i dd : Int) (hi0 : (Lit.int .i64 i).wf = true) (ht0 : (Lit.int .i64 dd).wf = true) (w : World) (h : SV w v ss) (k : IV w u st) (hsz : ∀ s ∈ ss, s.size ≤ 4611686018427387904) :
    Calls Tryd.prog 25 #[v, u, .int .i64 i, .int .i64 dd] w (SB2 w (smv ss st i dd) (mvOk ss st i dd)) := by
  obtain ⟨i0, hi, hq0, hq1, hq2⟩ := info_parts infoIb
  have KB := Lib.hid (sStemValid_any v u ss st w h k hsz)
  have hsl : svl ss st = true → 1 ≤ st.length ∧ st.length ≤ 6 := fun hv => by
    obtain ⟨h1, _, h3, _, _⟩ := svl_in hv
    have := bkIn_parts (bkOk_in h1).1
    omega
  obtain ⟨a, c, rfl, ha, hc1, hc2⟩ := k
  clear h hsz
  by_cases hv : svl ss st = false
  case pos =>
    obtain ⟨m1, m2⟩ := mv_no (ss := ss) (st := st) (i := i) (dd := dd) (by first | omega | (rintro ⟨q1, q2, q3, q4⟩; omega) | (rintro ⟨q1, q2, q3, q4⟩; rw [q1] at hv; cases hv))
    rw [m1, m2]
    rw [hv] at KB
    clear hv
    clear m1 m2 ha hsl
    go_enter Tryd.func25, Tryd.ntmps25
    go_wp2_with (fail)
    (go_at_call 38; refine (KB.out).mono ?_; rintro e w1 ⟨rfl, hn1⟩)
    have hb1 := bl_ofN hn1
    clear hn1
    have HN := Lib.hid (SB2.none hb1)
    clear hb1
    go_wp2
    go_ret2
    exact HN.out
  rw [Bool.not_eq_false] at hv
  obtain ⟨n1, n6⟩ := hsl hv
  rw [hv] at KB
  have HV := Lib.hid hv
  clear hv
  have wl : IntKind.i64.wrap ((st.length : Int) - 1) = (st.length : Int) - 1 := IntWalk.i64_in _ (by omega)
  have HI := Lib.hid (l6InB_any i 1 ((st.length : Int) - 1))
  have HT := Lib.hid (l6InB_any dd 0 (i - 1))
  by_cases g1 : ¬ (1 ≤ i ∧ i < st.length)
  case pos =>
    obtain ⟨m1, m2⟩ := mv_no (ss := ss) (st := st) (i := i) (dd := dd) (by first | omega | (rintro ⟨q1, q2, q3, q4⟩; omega) | (rintro ⟨q1, q2, q3, q4⟩; rw [q1] at g1; cases g1))
    rw [m1, m2]
    have e1 : (decide (1 ≤ i) && decide (i ≤ (st.length : Int) - 1)) = false := by
      rw [Bool.and_eq_false_iff]
      by_cases h : 1 ≤ i
      · exact .inr (decide_eq_false (by omega))
      · exact .inl (decide_eq_false h)
    rw [e1] at HI
    clear e1 g1
    clear m1 m2 ha hsl
    go_enter Tryd.func25, Tryd.ntmps25
    go_wp2_with (fail)
    (go_at_call 38; refine (KB.out).mono ?_; rintro e w1 ⟨rfl, hn1⟩)
    have hb1 := bl_ofN hn1
    clear hn1
    have HN := Lib.hid (SB2.none hb1)
    clear hb1
    go_wp2_with (fail)
    (go_at_call 48; refine (HI.out _).mono ?_; rintro e wx ⟨rfl, rfl⟩)
    go_wp2
    go_ret2
    exact HN.out
  have e1 : (decide (1 ≤ i) && decide (i ≤ (st.length : Int) - 1)) = true := by rw [decide_eq_true (by omega), decide_eq_true (by omega)]; rfl
  rw [e1] at HI
  clear e1
  have wi : IntKind.i64.wrap (i - 1) = i - 1 := IntWalk.i64_in _ (by omega)
  by_cases g2 : ¬ (0 ≤ dd ∧ dd < i)
  case pos =>
    obtain ⟨m1, m2⟩ := mv_no (ss := ss) (st := st) (i := i) (dd := dd) (by first | omega | (rintro ⟨q1, q2, q3, q4⟩; omega) | (rintro ⟨q1, q2, q3, q4⟩; rw [q1] at g2; cases g2))
    rw [m1, m2]
    have e1 : (decide (0 ≤ dd) && decide (dd ≤ i - 1)) = false := by
      rw [Bool.and_eq_false_iff]
      by_cases h : 0 ≤ dd
      · exact .inr (decide_eq_false (by omega))
      · exact .inl (decide_eq_false h)
    rw [e1] at HT
    clear e1 g2
    clear m1 m2 ha hsl
    go_enter Tryd.func25, Tryd.ntmps25
    go_wp2_with (fail)
    (go_at_call 38; refine (KB.out).mono ?_; rintro e w1 ⟨rfl, hn1⟩)
    have hb1 := bl_ofN hn1
    clear hn1
    have HN := Lib.hid (SB2.none hb1)
    clear hb1
    go_wp2_with (fail)
    (go_at_call 48; refine (HI.out _).mono ?_; rintro e wx ⟨rfl, rfl⟩)
    go_wp2_with (fail)
    (go_at_call 48; refine (HT.out _).mono ?_; rintro e wx ⟨rfl, rfl⟩)
    go_wp2
    go_ret2
    exact HN.out
  have e1 : (decide (0 ≤ dd) && decide (dd ≤ i - 1)) = true := by rw [decide_eq_true (by omega), decide_eq_true (by omega)]; rfl
  rw [e1] at HT
  clear e1
  obtain ⟨x, rfl⟩ : ∃ x : Nat, i = (x : Int) := ⟨i.toNat, by omega⟩
  obtain ⟨y, rfl⟩ : ∃ y : Nat, dd = (y : Int) := ⟨dd.toNat, by omega⟩
  have hx : x < st.length := by omega
  obtain ⟨m1, m2⟩ := mv_yes (ss := ss) HV.out hx (by omega : y < x)
  rw [m1, m2]
  have x0 : (0 : Int) ≤ (x : Int) := by omega
  have x1 : (x : Int) < (st.length : Int) := by omega
  have hne : st ≠ [] := by rintro rfl; simp at hx
  obtain ⟨ad, rfl⟩ : ∃ ad, a = some ad := by
    rcases ha with hh | ⟨A, off, e, _⟩
    · exact absurd hh hne
    · exact ⟨_, e⟩
  have HA := Lib.hid ha
  clear m1 m2 hsl ha
  go_enter Tryd.func25, Tryd.ntmps25
  go_wp2_with (fail)
  (go_at_call 38; refine (KB.out).mono ?_; rintro e w1 ⟨rfl, hn1⟩)
  have hb1 := bl_ofN hn1
  clear hn1
  have hz1 := hb1.size
  have HB1 := Lib.hid hb1
  clear hb1
  go_wp2_with (fail)
  (go_at_call 48; refine (HI.out _).mono ?_; rintro e wx ⟨rfl, rfl⟩)
  go_wp2_with (fail)
  (go_at_call 48; refine (HT.out _).mono ?_; rintro e wx ⟨rfl, rfl⟩)
  rcases HA.out with hh | ⟨A, off, e, hA, hcl⟩
  · exact absurd hh hne
  have e : ad = ⟨A, off, none⟩ := Option.some.inj e
  subst e
  have HE := Lib.hid (IbInv.empty HB1.out)
  have hal : Below w.heap.size w (w1.alloc (.cells #[] 3)) := HB1.out.alloc hz1 _
  have HN := Lib.hid (int_news (w := w1.alloc (.cells #[] 3)) (A := A) (off := off) (xs := st) (fun i hi => (hal.cell (p := ⟨A, off + i, none⟩) hA).trans (hcl i hi)))
  have hown := HE.out.own
  clear hcl hal hne
  unfold maxLen at hc2
  go_wp2_with (at_builtin; refine wpList_append_own _ rfl _ _ 24 rfl w.heap.size 3 i0 (.int .i64 0) 1 8 Tryd.underlying24 hi hq0 hq1 hq2 rfl (by decide) _ _ _ rfl hown ⟨A, off, none⟩ st.length c (st.map (Value.int .i64)) rfl (by simp) HN.out (int_one st) (by simp [maxLen]; omega) (by simp; omega) (by simp; omega) ?_)
  intro v' w3 hown' hgrow _
  have hI : IbInv w w3 v' st := HE.out.apps (by simpa using hown') hgrow
  clear hown hown' hgrow
  obtain ⟨g, cap, hv, ⟨u0, hu⟩, hf, hset⟩ := own_set hI hx
  have HS := Lib.hid (hset (y : Int)).two
  rw [hv] at HS ⊢
  clear hset hI hv
  go_wp2
  go_ret2
  exact HS.out

set_option maxHeartbeats 8000000 in
theorem stemMove_any (v u : Value) (ss : List ByteArray) (st : List Int) (i dd : Int) (hi0 : (Lit.int .i64 i).wf = true) (ht0 : (Lit.int .i64 dd).wf = true) (w : World) (h : SV w v ss) (k : IV w u st) (hsz : ∀ s ∈ ss, s.size ≤ 4611686018427387904) :
    Calls Tryd.prog 24 #[v, u, .int .i64 i, .int .i64 dd] w (SB2 w (smv ss st i dd) (mvOk ss st i dd)) := by
  obtain ⟨i0, hi, hq0, hq1, hq2⟩ := info_parts infoIb
  have KB := Lib.hid (stemValid_any v u ss st w h k hsz)
  have hsl : svl ss st = true → 1 ≤ st.length ∧ st.length ≤ 6 := fun hv => by
    obtain ⟨h1, _, h3, _, _⟩ := svl_in hv
    have := bkIn_parts (bkOk_in h1).1
    omega
  obtain ⟨a, c, rfl, ha, hc1, hc2⟩ := k
  clear h hsz
  by_cases hv : svl ss st = false
  case pos =>
    obtain ⟨m1, m2⟩ := mv_no (ss := ss) (st := st) (i := i) (dd := dd) (by first | omega | (rintro ⟨q1, q2, q3, q4⟩; omega) | (rintro ⟨q1, q2, q3, q4⟩; rw [q1] at hv; cases hv))
    rw [m1, m2]
    rw [hv] at KB
    clear hv
    clear m1 m2 ha hsl
    go_enter Tryd.func24, Tryd.ntmps24
    go_wp2_with (fail)
    (go_at_call 27; refine (KB.out).mono ?_; rintro e w1 ⟨rfl, hb1⟩)
    have HN := Lib.hid (SB2.none hb1)
    clear hb1
    go_wp2
    go_ret2
    exact HN.out
  rw [Bool.not_eq_false] at hv
  obtain ⟨n1, n6⟩ := hsl hv
  rw [hv] at KB
  have HV := Lib.hid hv
  clear hv
  by_cases g1 : i < 0
  case pos =>
    obtain ⟨m1, m2⟩ := mv_no (ss := ss) (st := st) (i := i) (dd := dd) (by first | omega | (rintro ⟨q1, q2, q3, q4⟩; omega) | (rintro ⟨q1, q2, q3, q4⟩; rw [q1] at g1; cases g1))
    rw [m1, m2]
    have t1 : decide (i < 0) = true := decide_eq_true g1
    clear m1 m2 ha hsl
    go_enter Tryd.func24, Tryd.ntmps24
    go_wp2_with (fail)
    (go_at_call 27; refine (KB.out).mono ?_; rintro e w1 ⟨rfl, hb1⟩)
    have HN := Lib.hid (SB2.none hb1)
    clear hb1
    go_wp2
    go_ret2
    exact HN.out
  have t1 : decide (i < 0) = false := decide_eq_false g1
  by_cases g2 : (st.length : Int) ≤ i
  case pos =>
    obtain ⟨m1, m2⟩ := mv_no (ss := ss) (st := st) (i := i) (dd := dd) (by first | omega | (rintro ⟨q1, q2, q3, q4⟩; omega) | (rintro ⟨q1, q2, q3, q4⟩; rw [q1] at g2; cases g2))
    rw [m1, m2]
    have t2 : decide ((st.length : Int) ≤ i) = true := decide_eq_true g2
    clear m1 m2 ha hsl
    go_enter Tryd.func24, Tryd.ntmps24
    go_wp2_with (fail)
    (go_at_call 27; refine (KB.out).mono ?_; rintro e w1 ⟨rfl, hb1⟩)
    have HN := Lib.hid (SB2.none hb1)
    clear hb1
    go_wp2
    go_ret2
    exact HN.out
  have t2 : decide ((st.length : Int) ≤ i) = false := decide_eq_false g2
  by_cases g3 : dd < 0
  case pos =>
    obtain ⟨m1, m2⟩ := mv_no (ss := ss) (st := st) (i := i) (dd := dd) (by first | omega | (rintro ⟨q1, q2, q3, q4⟩; omega) | (rintro ⟨q1, q2, q3, q4⟩; rw [q1] at g3; cases g3))
    rw [m1, m2]
    have t3 : decide (dd < 0) = true := decide_eq_true g3
    clear m1 m2 ha hsl
    go_enter Tryd.func24, Tryd.ntmps24
    go_wp2_with (fail)
    (go_at_call 27; refine (KB.out).mono ?_; rintro e w1 ⟨rfl, hb1⟩)
    have HN := Lib.hid (SB2.none hb1)
    clear hb1
    go_wp2
    go_ret2
    exact HN.out
  have t3 : decide (dd < 0) = false := decide_eq_false g3
  by_cases g4 : i ≤ dd
  case pos =>
    obtain ⟨m1, m2⟩ := mv_no (ss := ss) (st := st) (i := i) (dd := dd) (by first | omega | (rintro ⟨q1, q2, q3, q4⟩; omega) | (rintro ⟨q1, q2, q3, q4⟩; rw [q1] at g4; cases g4))
    rw [m1, m2]
    have t4 : decide (i ≤ dd) = true := decide_eq_true g4
    clear m1 m2 ha hsl
    go_enter Tryd.func24, Tryd.ntmps24
    go_wp2_with (fail)
    (go_at_call 27; refine (KB.out).mono ?_; rintro e w1 ⟨rfl, hb1⟩)
    have HN := Lib.hid (SB2.none hb1)
    clear hb1
    go_wp2
    go_ret2
    exact HN.out
  have t4 : decide (i ≤ dd) = false := decide_eq_false g4
  obtain ⟨x, rfl⟩ : ∃ x : Nat, i = (x : Int) := ⟨i.toNat, by omega⟩
  obtain ⟨y, rfl⟩ : ∃ y : Nat, dd = (y : Int) := ⟨dd.toNat, by omega⟩
  have hx : x < st.length := by omega
  obtain ⟨m1, m2⟩ := mv_yes (ss := ss) HV.out hx (by omega : y < x)
  rw [m1, m2]
  have x0 : (0 : Int) ≤ (x : Int) := by omega
  have x1 : (x : Int) < (st.length : Int) := by omega
  have hne : st ≠ [] := by rintro rfl; simp at hx
  obtain ⟨ad, rfl⟩ : ∃ ad, a = some ad := by
    rcases ha with hh | ⟨A, off, e, _⟩
    · exact absurd hh hne
    · exact ⟨_, e⟩
  have HA := Lib.hid ha
  clear m1 m2 hsl ha
  go_enter Tryd.func24, Tryd.ntmps24
  go_wp2_with (fail)
  (go_at_call 27; refine (KB.out).mono ?_; rintro e w1 ⟨rfl, hb1⟩)
  have hz1 := hb1.size
  have HB1 := Lib.hid hb1
  clear hb1
  have HC := Lib.hid (clone_any ad c st w1 (HA.out.below HB1.out) (by omega) n1 hc1 hc2)
  go_wp2_with (fail)
  (go_at_call 47; refine (HC.out).mono ?_; rintro e w3 ⟨v', rfl, hI0⟩)
  have hI : IbInv w w3 v' st := ⟨own_lo hI0.own hz1, bl_step HB1.out hI0.bl⟩
  clear hI0 hne
  obtain ⟨g, cap, hv, ⟨u0, hu⟩, hf, hset⟩ := own_set hI hx
  have HS := Lib.hid (hset (y : Int)).two
  rw [hv] at HS ⊢
  clear hset hI hv
  go_wp2
  go_ret2
  exact HS.out

set_option maxHeartbeats 8000000 in
theorem sStemDepth_any (v u : Value) (ss : List ByteArray) (st : List Int) (i : Int) (hi0 : (Lit.int .i64 i).wf = true) (w : World) (h : SV w v ss) (k : IV w u st) (hsz : ∀ s ∈ ss, s.size ≤ 4611686018427387904) :
    Calls Tryd.prog 32 #[v, u, .int .i64 i] w fun e w' => e = .returned (.int .i64 (sdp ss st i)) ∧ ∃ m, w' = w.drewN m := by
  have KB := Lib.hid (sStemValid_any v u ss st w h k hsz)
  have hsl : svl ss st = true → 1 ≤ st.length ∧ st.length ≤ 6 ∧ st.length = ss.length ∧ StTo st st.length := fun hv => by
    obtain ⟨h1, _, h3, _, h5⟩ := svl_in hv
    have := bkIn_parts (bkOk_in h1).1
    exact ⟨by omega, by omega, h3, h5⟩
  obtain ⟨a, c, rfl, ha, hc1, hc2⟩ := k
  unfold maxLen at hc2
  clear h hsz
  by_cases hv : svl ss st = false
  case pos =>
    rw [sdp_no0 hv]
    rw [hv] at KB
    clear hv
    clear ha hsl
    go_enter Tryd.func32, Tryd.ntmps32
    go_wp2_with (fail)
    (go_at_call 38; refine (KB.out).mono ?_; rintro e w1 ⟨rfl, mm, rfl⟩)
    go_wp2
    go_ret
    exact ⟨rfl, _, rfl⟩
  rw [Bool.not_eq_false] at hv
  obtain ⟨n1, n6, hl, hto⟩ := hsl hv
  have HV := Lib.hid hv
  rw [hv] at KB
  have HL := Lib.hid hl
  have HTO := Lib.hid hto
  have hls : 1 ≤ ss.length := by omega
  clear hv hl hto
  have wl : IntKind.i64.wrap ((st.length : Int) - 1) = (st.length : Int) - 1 := IntWalk.i64_in _ (by omega)
  have HI := Lib.hid (l6InB_any i 0 ((st.length : Int) - 1))
  by_cases g1 : ¬ (0 ≤ i ∧ i < st.length)
  case pos =>
    rw [(show sdp ss st i = -1 by by_cases h : i < 0; exact sdp_no1 h; exact sdp_no2 (by omega))]
    have e1 : (decide (0 ≤ i) && decide (i ≤ (st.length : Int) - 1)) = false := by
      rw [Bool.and_eq_false_iff]
      by_cases h : 0 ≤ i
      · exact .inr (decide_eq_false (by omega))
      · exact .inl (decide_eq_false h)
    rw [e1] at HI
    clear e1 g1
    clear ha hsl
    go_enter Tryd.func32, Tryd.ntmps32
    go_wp2_with (fail)
    (go_at_call 38; refine (KB.out).mono ?_; rintro e w1 ⟨rfl, mm, rfl⟩)
    go_wp2_with (fail)
    (go_at_call 48; refine (HI.out _).mono ?_; rintro e wx ⟨rfl, rfl⟩)
    go_wp2
    go_ret
    exact ⟨rfl, _, rfl⟩
  have e1 : (decide (0 ≤ i) && decide (i ≤ (st.length : Int) - 1)) = true := by rw [decide_eq_true (by omega), decide_eq_true (by omega)]; rfl
  rw [e1] at HI
  clear e1
  obtain ⟨x, rfl⟩ : ∃ x : Nat, i = (x : Int) := ⟨i.toNat, by omega⟩
  have hx : x < st.length := by omega
  rw [sdp_yes HV.out hx]
  have x0 : (0 : Int) ≤ (x : Int) := by omega
  have x1 : (x : Int) < (st.length : Int) := by omega
  have hne : st ≠ [] := by rintro rfl; simp at hx
  rcases ha with hh | ⟨A, off, rfl, hA, hcl⟩
  · exact absurd hh hne
  have HC := Lib.hid hcl
  have hD := dpf_le st x x
  obtain ⟨D, hDD⟩ : ∃ D, dpf st x x = D := ⟨_, rfl⟩
  rw [hDD] at hD ⊢
  have HD := Lib.hid hDD
  clear hDD hcl hne hsl
  go_enter Tryd.func32, Tryd.ntmps32
  go_wp2_with (fail)
  (go_at_call 38; refine (KB.out).mono ?_; rintro e w1 ⟨rfl, mm, rfl⟩)
  go_wp2_with (fail)
  (go_at_call 48; refine (HI.out _).mono ?_; rintro e wx ⟨rfl, rfl⟩)
  have HC1 : Hid (∀ k, k < st.length → (w.drewN mm).cell? ⟨A, off + k, none⟩ = some (.int .i64 (st.getD k 0))) := fun k hk => HC.out k hk
  go_wp2
  go_loop [2, 7] (fun i n => ∃ j m : Nat, j < st.length ∧ i = .int .i64 (j : Int) ∧ n = .int .i64 (m : Int) ∧ Hid (m + dpf st j j = D)) (fun i _ => (intOf i).toNat)
  case atStart => exact ⟨x, 0, hx, rfl, rfl, (by show _ = _; rw [Nat.zero_add]; exact HD.out)⟩
  case round =>
    obtain ⟨j, m, hj, rfl, rfl, hm⟩ := hrel
    by_cases h0 : j = 0
    · have hmD : Hid (m = D) := by have := hm.out; rw [h0, dpf_zero] at this; exact this
      have t1 : decide ((0 : Int) < (j : Int)) = false := decide_eq_false (by omega)
      have t2 : decide (0 < j) = false := decide_eq_false (by omega)
      clear h0
      go_wp2
      go_ret
      exact ⟨by rw [hmD.out]; rfl, mm, rfl⟩
    · have hs := HTO.out j hj (by omega)
      have hst := dpf_step HTO.out hj h0
      obtain ⟨q, hq⟩ : ∃ q : Nat, st.getD j 0 = (q : Int) := ⟨(st.getD j 0).toNat, by omega⟩
      rw [hq] at hs hst
      rw [Int.toNat_natCast] at hst
      have HM : Hid (m + 1 + dpf st q q = D) := by have := hm.out; show _ = _; omega
      have f1 := HC1.out j hj
      rw [hq] at f1
      have t1 : decide ((0 : Int) < (j : Int)) = true := decide_eq_true (by omega)
      have t2 : decide (0 < j) = true := decide_eq_true (by omega)
      have j0 : (0 : Int) ≤ (j : Int) := by omega
      have j1 : (j : Int) < (st.length : Int) := by omega
      have hmD : m ≤ D := by have := hm.out; omega
      have hqj : q < j := by omega
      clear hst hq hm h0 hs
      go_wp2
      go_round
      case rel => exact ⟨q, m + 1, by omega, by go_num, by go_num, HM⟩
      case measure => simp [intOf]; omega

set_option maxHeartbeats 8000000 in
theorem stemDepth_any (v u : Value) (ss : List ByteArray) (st : List Int) (i : Int) (hi0 : (Lit.int .i64 i).wf = true) (w : World) (h : SV w v ss) (k : IV w u st) (hsz : ∀ s ∈ ss, s.size ≤ 4611686018427387904) :
    Calls Tryd.prog 28 #[v, u, .int .i64 i] w fun e w' => e = .returned (.int .i64 (sdp ss st i)) ∧ Below w.heap.size w w' := by
  have KB := Lib.hid (newStemTree_any v u ss st w h k hsz)
  unfold Treed at KB
  have hsl : svl ss st = true → 1 ≤ st.length ∧ st.length ≤ 6 ∧ st.length = ss.length ∧ StTo st st.length := fun hv => by
    obtain ⟨h1, _, h3, _, h5⟩ := svl_in hv
    have := bkIn_parts (bkOk_in h1).1
    exact ⟨by omega, by omega, h3, h5⟩
  obtain ⟨a, c, rfl, ha, hc1, hc2⟩ := k
  unfold maxLen at hc2
  clear h hsz
  by_cases hv : svl ss st = false
  case pos =>
    rw [sdp_no0 hv]
    rw [hv] at KB
    clear hv
    clear ha hsl
    go_enter Tryd.func28, Tryd.ntmps28
    go_wp2_with (fail)
    (go_at_call 35; refine (KB.out).mono ?_; rintro e w1 ⟨tv, rfl, hno, hyes, hb1⟩)
    obtain rfl := hno (by trivial)
    clear hyes
    go_wp2
    go_ret
    exact ⟨rfl, hb1⟩
  rw [Bool.not_eq_false] at hv
  obtain ⟨n1, n6, hl, hto⟩ := hsl hv
  have HV := Lib.hid hv
  rw [hv] at KB
  have HL := Lib.hid hl
  have HTO := Lib.hid hto
  have hls : 1 ≤ ss.length := by omega
  clear hv hl hto
  by_cases g1 : i < 0
  case pos =>
    rw [sdp_no1 g1]
    have t1 : decide (i < 0) = true := decide_eq_true g1
    clear ha hsl
    go_enter Tryd.func28, Tryd.ntmps28
    go_wp2_with (fail)
    (go_at_call 35; refine (KB.out).mono ?_; rintro e w1 ⟨tv, rfl, hno, hyes, hb1⟩)
    obtain ⟨bs, hbl, hT⟩ := hyes (by trivial)
    obtain ⟨g, cap, hv2, _⟩ := hT.row_form (by omega)
    rw [hbl] at hv2
    rw [← HL.out] at hv2
    subst hv2
    clear hno hyes hT hbl
    go_wp2
    go_ret
    exact ⟨rfl, hb1⟩
  have t1 : decide (i < 0) = false := decide_eq_false g1
  by_cases g2 : (st.length : Int) ≤ i
  case pos =>
    rw [sdp_no2 (by omega)]
    have t2 : decide ((st.length : Int) ≤ i) = true := decide_eq_true g2
    clear ha hsl
    go_enter Tryd.func28, Tryd.ntmps28
    go_wp2_with (fail)
    (go_at_call 35; refine (KB.out).mono ?_; rintro e w1 ⟨tv, rfl, hno, hyes, hb1⟩)
    obtain ⟨bs, hbl, hT⟩ := hyes (by trivial)
    obtain ⟨g, cap, hv2, _⟩ := hT.row_form (by omega)
    rw [hbl] at hv2
    rw [← HL.out] at hv2
    subst hv2
    clear hno hyes hT hbl
    go_wp2
    go_ret
    exact ⟨rfl, hb1⟩
  have t2 : decide ((st.length : Int) ≤ i) = false := decide_eq_false g2
  obtain ⟨x, rfl⟩ : ∃ x : Nat, i = (x : Int) := ⟨i.toNat, by omega⟩
  have hx : x < st.length := by omega
  rw [sdp_yes HV.out hx]
  have x0 : (0 : Int) ≤ (x : Int) := by omega
  have x1 : (x : Int) < (st.length : Int) := by omega
  have hne : st ≠ [] := by rintro rfl; simp at hx
  rcases ha with hh | ⟨A, off, rfl, hA, hcl⟩
  · exact absurd hh hne
  have HC := Lib.hid hcl
  have hD := dpf_le st x x
  obtain ⟨D, hDD⟩ : ∃ D, dpf st x x = D := ⟨_, rfl⟩
  rw [hDD] at hD ⊢
  have HD := Lib.hid hDD
  clear hDD hcl hne hsl
  go_enter Tryd.func28, Tryd.ntmps28
  go_wp2_with (fail)
  (go_at_call 35; refine (KB.out).mono ?_; rintro e w1 ⟨tv, rfl, hno, hyes, hb1⟩)
  obtain ⟨bs, hbl, hT⟩ := hyes (by trivial)
  obtain ⟨g, cap, hv2, hg0, hgs, hcap, hmax, hpt⟩ := hT.row_form (by omega)
  have hlb : bs.length = st.length := by rw [hbl]; exact HL.out.symm
  rw [hlb] at hv2 hpt
  subst hv2
  have HT := Lib.hid hT
  have HLB := Lib.hid hlb
  obtain ⟨b0, hb0⟩ : ∃ b, bs[x]? = some b := ⟨bs[x], List.getElem?_eq_getElem (by omega)⟩
  have f0 := hpt x hx
  rw [pv_get hb0] at f0
  have HB0 := Lib.hid hb0
  clear hno hyes hT hbl hlb hpt hb0
  go_wp2
  go_loop [9, 10] (fun n p => ∃ (j m : Nat) (bj : BkR), j < st.length ∧ bs[j]? = some bj ∧ p = .pointer (some ⟨bj.P, 0, none⟩) ∧ n = .int .i64 (m : Int) ∧ Hid (m + dpf st j j = D)) (fun n _ => D - (intOf n).toNat)
  case atStart => exact ⟨x, 0, b0, hx, HB0.out, rfl, rfl, (by show _ = _; rw [Nat.zero_add]; exact HD.out)⟩
  case round =>
    obtain ⟨j, m, bj, hj, hbj, rfl, rfl, hm⟩ := hrel
    have hA := (HT.out.at_ j bj hbj).blk
    have f1 : w1.cell? ⟨bj.P, 1, none⟩ = some (frmV bs st j) := by simp [World.cell?, hA]
    by_cases h0 : j = 0
    · have hmD : Hid (m = D) := by have := hm.out; rw [h0, dpf_zero] at this; exact this
      have hf : frmV bs st j = .pointer none := by unfold frmV; rw [if_pos h0]
      rw [hf] at f1
      clear h0 hf hA hbj
      go_wp2
      go_ret
      exact ⟨by rw [hmD.out]; rfl, hb1⟩
    · have hs := HTO.out j hj (by omega)
      have hst := dpf_step HTO.out hj h0
      obtain ⟨q, hq⟩ : ∃ q : Nat, st.getD j 0 = (q : Int) := ⟨(st.getD j 0).toNat, by omega⟩
      rw [hq] at hs hst
      rw [Int.toNat_natCast] at hst
      have hqj : q < j := by omega
      obtain ⟨bq, hbq⟩ : ∃ b, bs[q]? = some b := ⟨bs[q]'(by have := HLB.out; omega), List.getElem?_eq_getElem (by have := HLB.out; omega)⟩
      have hf : frmV bs st j = .pointer (some ⟨bq.P, 0, none⟩) := by unfold frmV; rw [if_neg h0, hq, Int.toNat_natCast, pv_get hbq]
      rw [hf] at f1
      have HM : Hid (m + 1 + dpf st q q = D) := by have := hm.out; show _ = _; omega
      have hmD : m < D := by have := hm.out; omega
      have HBQ := Lib.hid hbq
      clear hst hq hm h0 hs hf hA hbj hbq
      go_wp2
      go_round
      case rel => exact ⟨q, m + 1, bq, by omega, HBQ.out, rfl, by go_num, HM⟩
      case measure => simp [intOf]; omega
end Go.Proofs.YtbeiedaldinhaaaDoor
