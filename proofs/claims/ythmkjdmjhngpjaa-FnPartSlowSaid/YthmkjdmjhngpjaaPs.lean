/-
  PartSlow in both programs.
-/
import Derived.Test.YthmkjdmjhngpjaaVb
import Derived.Test.YthmkjdmjhngpjaaSp8
import Derived.Deep.AppendLies
import Derived.Deep.RegionHeld3
import Derived.BigRegion
namespace Go.Proofs.Ythmkjdmjhngpjaa
open Go.RowKit
set_option maxRecDepth 100000
set_option linter.unusedVariables false

theorem psL_len (xs : List Vc) : (psL xs).length ≤ 12 := by
  unfold psL
  split
  · rename_i h
    have := slw_len xs xs.length
    rw [List.take_length] at this
    have := (pval_in h).2.1
    omega
  · simp

theorem bl_dn (W : World) (m : Nat) : Below W.heap.size W (W.drewN m) := ⟨rfl, rfl, rfl, Nat.le_refl _, fun _ _ => rfl⟩
theorem news3b {W : World} {s : Int} {b : Bool} {m : Int} {t : TypeId} {g : Nat} (hg : W.heap.size = g) : ∀ j u, ([.int .i64 s, .bool b, .int .i64 m] : List Value)[j]? = some u → (W.alloc (.cells #[.int .i64 s, .bool b, .int .i64 m] t)).cell? ⟨g, j, none⟩ = some u := by
  subst hg
  intro j u hj
  match j, hj with
  | 0, hj => simp at hj; subst hj; simp
  | 1, hj => simp at hj; subst hj; simp
  | 2, hj => simp at hj; subst hj; simp
/-- the last voice's cells -/
theorem VbInv.last {w wr : World} {v : Value} {zs : List Vc} {l : Vc} (h : VbInv w wr v (zs ++ [l])) :
    ∃ g cap, v = .slice (some ⟨g, 0, none⟩) (zs.length + 1) cap ∧ w.heap.size ≤ g ∧ g < wr.heap.size ∧ zs.length + 1 ≤ cap ∧ cap ≤ maxLen ∧
      wr.cell? ⟨g, zs.length * 3, none⟩ = some (.int .i64 l.1.1) ∧ wr.cell? ⟨g, zs.length * 3 + 1, none⟩ = some (.bool l.1.2) ∧ wr.cell? ⟨g, zs.length * 3 + 2, none⟩ = some (.int .i64 l.2) ∧ (∀ o, wr.frozen? ⟨g, o, none⟩ = false) ∧
      ∀ (W : World) (z : Int), VbInv w W v (zs ++ [l]) → VbInv w (W.setCell ⟨g, zs.length * 3 + 2, none⟩ (.int .i64 z)) v (zs ++ [(l.1, z)]) := by
  rcases h.row.form with ⟨rfl, hx⟩ | ⟨g, cap, cur, rfl, hg, hg2, hgs, hcap, hmax, hh, hsz, htk, hc⟩
  · simp at hx
  · have e1 : (zs ++ [l]).length = zs.length + 1 := by simp
    have hl := hc zs.length l (by simp)
    refine ⟨g, cap, by rw [e1], hg, hgs, by omega, hmax, hl.1, hl.2.1, hl.2.2, fun o => by simp [World.frozen?, hh], fun W z hW => ?_⟩
    obtain ⟨⟨hl2, hr⟩, hb2⟩ := hW
    rcases hr with h0 | ⟨g', cap', cur', hv, hg', hh', hn', hm', hs', ht'⟩
    · rw [e1] at h0; omega
    · injection hv with hv1 _ hv3
      injection hv1 with hv1
      injection hv1 with hv1
      subst hv1 hv3
      have e2 : (zs ++ [(l.1, z)]).length = zs.length + 1 := by simp
      refine ⟨⟨by rw [vcs_len], .inr ⟨g, cap, cur'.setIfInBounds (zs.length * 3 + 2) (.int .i64 z), by rw [e1, e2], hg, heap_set_eq hh', by rw [e2]; omega, hmax, by simp [hs'], ?_⟩⟩, hb2.setCell hg _⟩
      rw [e1] at ht'
      rw [e2, vcs_app, Array.toList_setIfInBounds]
      rw [vcs_app] at ht'
      have hlen : (vcs zs).length = zs.length * 3 := vcs_len zs
      have hcl : (zs.length + 1) * 3 ≤ cur'.toList.length := by simp; omega
      generalize cur'.toList = L at ht' hcl
      have h3 : L.take (zs.length * 3 + 2) = vcs zs ++ [.int .i64 l.1.1, .bool l.1.2] := by
        have := congrArg (List.take (zs.length * 3 + 2)) ht'
        rw [List.take_take, Nat.min_eq_left (by omega), List.take_append] at this
        rw [this, List.take_of_length_le (by omega)]
        congr 1
        rw [show zs.length * 3 + 2 - (vcs zs).length = 2 by omega]
        rfl
      rw [show (zs.length + 1) * 3 = zs.length * 3 + 2 + 1 by omega, List.take_add_one, List.take_set_of_le (Nat.le_refl _), h3]
      rw [List.getElem?_set_self (by omega)]
      simp [vcs]

set_option maxHeartbeats 4000000 in
theorem partSlow_any (v : Value) (xs : List Vc) (w : World) (h : VV w v xs) : Calls Try.prog 29 #[v] w (VBuilt2 w (psL xs) (pval xs)) := by
  obtain ⟨i0, hi0, hq0, hq1, hq2⟩ := info_parts infoVb
  have HP := Lib.hid (fun w' (hb : Below w.heap.size w w') => partValid8_any v xs w' (h.below (w' := w') hb))
  obtain ⟨a, c, rfl, ha, hc1, hc2⟩ := h
  unfold maxLen at hc2
  have HA := Lib.hid ha
  have HS := Lib.hid (VbInv.start w)
  clear ha
  unfold psL
  cases hp : pval xs with
  | false =>
    rw [hp] at HP
    clear hp
    go_enter Try.func29, Try.ntmps29
    go_wp2_with (fail)
    (go_at_call 32; refine (HP.out _ ((Below.refl _ _).alloc (Nat.le_refl _) _)).mono ?_; rintro e w1 ⟨rfl, hb1⟩)
    have HE := Lib.hid ((HS.out.below hb1).built2 false)
    clear hb1
    go_wp2
    go_ret2
    exact HE.out
  | true =>
    rw [hp] at HP
    have HV := Lib.hid (pval_in hp)
    rw [if_pos rfl]
    clear hp
    have HW := Lib.hid (slw_ok HV.out.1)
    go_enter Try.func29, Try.ntmps29
    go_wp2_with (fail)
    (go_at_call 32; refine (HP.out _ ((Below.refl _ _).alloc (Nat.le_refl _) _)).mono ?_; rintro e w1 ⟨rfl, hb1⟩)
    have HI0 := Lib.hid (HS.out.below hb1)
    clear hb1
    go_wp2
    go_loopw [4, 15] (fun q i wr => ∃ n : Nat, n ≤ xs.length ∧ i = .int .i64 (n : Int) ∧ VbInv w wr q (slw (xs.take n))) (fun _ i _ => xs.length - (intOf i).toNat)
    case atStart => exact ⟨0, by omega, rfl, HI0.out⟩
    case round =>
      obtain ⟨n, hn, rfl, hinv⟩ := hrel
      clear HI0
      by_cases hlt : n < xs.length
      · obtain ⟨A, off, s, b, m, rfl, hx, c0, c1, c2⟩ := voice_at HA.out hinv.bl hlt
        have HX := Lib.hid (slw_take hx)
        have hxo := vok_in (all_get HV.out.1 hx)
        have hyo := HW.out n
        have hyl := slw_len xs n
        have h12 := HV.out.2.1
        have hk0 : (0 : Int) ≤ (n : Int) := by omega
        have hk1 : (n : Int) < (xs.length : Int) := by omega
        have hA : A < wr.heap.size := World.block_lt_of_cell? wr ⟨A, off + n * 3, none⟩ c0
        have hws := hinv.bl.size
        have m1 : 1 ≤ m := hxo.2.1
        have m3 : m ≤ 3 := hxo.2.2
        clear hx hxo
        generalize slw (xs.take n) = ys at hinv HX hyo hyl
        rcases List.eq_nil_or_concat ys with rfl | ⟨zs, l, rfl⟩
        · have hl0 : ([] : List Vc).length = 0 := rfl
          have HN := Lib.hid hinv
          obtain ⟨aq, cq, rfl⟩ := hinv.row.sl hl0
          have hown := hinv.own
          rw [slow_nil] at HX
          clear hinv hl0 hyo hyl
          go_wp2
          obtain ⟨W, hW⟩ : ∃ W, W = wr.alloc (.cells #[.int .i64 s, .bool b, .int .i64 m] 51) := ⟨_, rfl⟩
          have hbx := heap_alloc_new wr (.cells #[.int .i64 s, .bool b, .int .i64 m] 51)
          rw [← hW] at hbx
          have b0 : W.cell? ⟨wr.heap.size, 0, none⟩ = some (.int .i64 s) := by simp [World.cell?, hbx]
          have b1 : W.cell? ⟨wr.heap.size, 1, none⟩ = some (.bool b) := by simp [World.cell?, hbx]
          have b2 : W.cell? ⟨wr.heap.size, 2, none⟩ = some (.int .i64 m) := by simp [World.cell?, hbx]
          have hbl : Below wr.heap.size wr W := by rw [hW]; exact (Below.refl _ _).alloc (Nat.le_refl _) _
          have fz : wr.heap.size < W.heap.size := by rw [hW]; simp
          rw [← hW]
          clear hW hbx
          have hownW : W.ownsRow w.heap.size 51 3 (.slice aq 0 cq) 0 (vcs []) := (HN.out.below hbl).own
          have HNW : Hid (VbInv w W (.slice aq 0 cq) []) := HN.out.below hbl
          have HWS : Hid (w.heap.size ≤ W.heap.size) := Nat.le_trans hws hbl.size
          clear hown
          go_quiet (fail)
          have hown := hownW.drew
          have hws2 := HWS.out
          go_wp2_with (at_builtin; refine wpList_append_own _ rfl _ _ 38 rfl w.heap.size 51 i0 (.agg #[.int .i64 0, .bool false, .int .i64 0]) 3 24 Try.underlying38 hi0 hq0 hq1 hq2 rfl (by decide) _ _ _ rfl (hown.alloc _) ⟨W.heap.size, 0, none⟩ 1 1 [.int .i64 s, .bool b, .int .i64 m] rfl rfl ?c1 news3_one ?c3 ?c4 ?c5 ?_)
          case c1 => first | exact news3 | exact news3b rfl
          case c3 => unfold maxLen; omega
          case c4 => omega
          case c5 => first | omega | (simp; omega)
          intro v' w4 hown' hgrow _
          have HI := Lib.hid (VbInv.app (s := s) (b := b) (m := m) (HNW.out.below (bl_dn _ _)) hown' hgrow)
          rw [List.nil_append, ← HX.out] at HI
          clear hown' hgrow hown hownW
          go_wp2
          go_roundw
          case rel => exact ⟨n + 1, by omega, by go_num, HI.out⟩
          case measure => simp [intOf]; omega
        · rw [List.concat_eq_append] at hinv HX hyo hyl
          have HN := Lib.hid hinv
          have hown := hinv.own
          obtain ⟨g, cap, rfl, hg, hgs, hcap, hmax, e0, e1, e2, ef, hset⟩ := hinv.last
          have HSET := Lib.hid hset
          have hll : (zs ++ [l]).length = zs.length + 1 := by simp
          rw [hll] at hown hyl
          have hlo := vok_in (all_get (k := zs.length) (x := l) hyo (by simp))
          obtain ⟨⟨ls, lb⟩, lm⟩ := l
          simp only at hlo e0 e1 e2
          have l1 : 1 ≤ lm := hlo.2.1
          have l3 : lm ≤ 3 := hlo.2.2
          have wl : IntKind.i64.wrap (zs.length : Int) = (zs.length : Int) := IntWalk.i64_in _ (by omega)
          have wl2 : IntKind.i64.wrap ((zs.length : Int) + 1 - 1) = (zs.length : Int) := by rw [show (zs.length : Int) + 1 - 1 = (zs.length : Int) by omega]; exact wl
          have ws : IntKind.i64.wrap (lm + m) = lm + m := IntWalk.i64_in _ (by omega)
          clear hinv hset hyo hlo
          generalize hL : zs.length = L at *
          have HLL := Lib.hid hL
          clear hL
          go_wp2
          obtain ⟨W, hW⟩ : ∃ W, W = wr.alloc (.cells #[.int .i64 s, .bool b, .int .i64 m] 51) := ⟨_, rfl⟩
          have hbx := heap_alloc_new wr (.cells #[.int .i64 s, .bool b, .int .i64 m] 51)
          rw [← hW] at hbx
          have b0 : W.cell? ⟨wr.heap.size, 0, none⟩ = some (.int .i64 s) := by simp [World.cell?, hbx]
          have b1 : W.cell? ⟨wr.heap.size, 1, none⟩ = some (.bool b) := by simp [World.cell?, hbx]
          have b2 : W.cell? ⟨wr.heap.size, 2, none⟩ = some (.int .i64 m) := by simp [World.cell?, hbx]
          have hbl : Below wr.heap.size wr W := by rw [hW]; exact (Below.refl _ _).alloc (Nat.le_refl _) _
          have fz : wr.heap.size < W.heap.size := by rw [hW]; simp
          rw [← hW]
          clear hW hbx
          have d0 : W.cell? ⟨g, L * 3, none⟩ = some (.int .i64 ls) := (hbl.cell (p := ⟨g, L * 3, none⟩) hgs).trans e0
          have d1 : W.cell? ⟨g, L * 3 + 1, none⟩ = some (.bool lb) := (hbl.cell (p := ⟨g, L * 3 + 1, none⟩) hgs).trans e1
          have d2 : W.cell? ⟨g, L * 3 + 2, none⟩ = some (.int .i64 lm) := (hbl.cell (p := ⟨g, L * 3 + 2, none⟩) hgs).trans e2
          have df : ∀ o, W.frozen? ⟨g, o, none⟩ = false := fun o => (hbl.frozen (p := ⟨g, o, none⟩) hgs).trans (ef o)
          have HNW : Hid (VbInv w W (.slice (some ⟨g, 0, none⟩) (L + 1) cap) (zs ++ [((ls, lb), lm)])) := HN.out.below hbl
          have HWS : Hid (w.heap.size ≤ W.heap.size) := Nat.le_trans hws hbl.size
          by_cases ht : ls = s ∧ lb = b
          case pos =>
            obtain ⟨rfl, rfl⟩ := ht
            by_cases hsum : lm + m ≤ 3
            case pos =>
              rw [slow_yes (l := ((ls, lb), lm)) (x := ((ls, lb), m)) rfl hsum] at HX
              go_quiet (fail)
              go_wp2
              go_region
              have HI := Lib.hid (HSET.out (World.drewN W (nq + 1)) (lm + m) (HNW.out.below (bl_dn _ _)))
              rw [← HX.out] at HI
              go_wp2
              go_roundw
              case rel => exact ⟨n + 1, by omega, by go_num, HI.out⟩
              case measure => simp [intOf]; omega
            case neg =>
              have g3 : decide (lm + m ≤ 3) = false := decide_eq_false hsum
              rw [slow_no (l := ((ls, lb), lm)) (x := ((ls, lb), m)) (fun e => hsum e.2)] at HX
              have hownW := HNW.out.own
              rw [List.length_append, show zs.length + [((ls, lb), lm)].length = L + 1 by simp [HLL.out]] at hownW
              have hws2 := HWS.out
              clear hown
              go_quiet (fail)
              have hown := hownW.drew
              go_wp2_with (at_builtin; refine wpList_append_own _ rfl _ _ 38 rfl w.heap.size 51 i0 (.agg #[.int .i64 0, .bool false, .int .i64 0]) 3 24 Try.underlying38 hi0 hq0 hq1 hq2 rfl (by decide) _ _ _ rfl (hown.alloc _) ⟨W.heap.size, 0, none⟩ 1 1 [.int .i64 ls, .bool lb, .int .i64 m] rfl rfl ?c1 news3_one ?c3 ?c4 ?c5 ?_)
              case c1 => first | exact news3 | exact news3b rfl
              case c3 => unfold maxLen; omega
              case c4 => omega
              case c5 => first | omega | (simp; omega)
              intro v' w4 hown' hgrow _
              have HI := Lib.hid (VbInv.app (s := ls) (b := lb) (m := m) (HNW.out.below (bl_dn _ _)) (by rw [List.length_append, show zs.length + [((ls, lb), lm)].length = L + 1 by simp [HLL.out]]; exact hown') hgrow)
              rw [← HX.out] at HI
              clear hown' hgrow hown hownW
              go_wp2
              go_roundw
              case rel => exact ⟨n + 1, by omega, by go_num, HI.out⟩
              case measure => simp [intOf]; omega
          case neg =>
            rw [slow_no (l := ((ls, lb), lm)) (x := ((s, b), m)) (fun e => ht ⟨congrArg Prod.fst e.1, congrArg Prod.snd e.1⟩)] at HX
            by_cases hs : ls = s
            case pos =>
              subst hs
              have g1 : ¬ lb = b := fun e => ht ⟨rfl, e⟩
              have g2 : (lb == b) = false := beq_eq_false_iff_ne.2 g1
              have g3 : decide (lb = b) = false := decide_eq_false g1
              have hownW := HNW.out.own
              rw [List.length_append, show zs.length + [((ls, lb), lm)].length = L + 1 by simp [HLL.out]] at hownW
              have hws2 := HWS.out
              clear hown
              go_quiet (fail)
              have hown := hownW.drew
              go_wp2_with (at_builtin; refine wpList_append_own _ rfl _ _ 38 rfl w.heap.size 51 i0 (.agg #[.int .i64 0, .bool false, .int .i64 0]) 3 24 Try.underlying38 hi0 hq0 hq1 hq2 rfl (by decide) _ _ _ rfl (hown.alloc _) ⟨W.heap.size, 0, none⟩ 1 1 [.int .i64 ls, .bool b, .int .i64 m] rfl rfl ?c1 news3_one ?c3 ?c4 ?c5 ?_)
              case c1 => first | exact news3 | exact news3b rfl
              case c3 => unfold maxLen; omega
              case c4 => omega
              case c5 => first | omega | (simp; omega)
              intro v' w4 hown' hgrow _
              have HI := Lib.hid (VbInv.app (s := ls) (b := b) (m := m) (HNW.out.below (bl_dn _ _)) (by rw [List.length_append, show zs.length + [((ls, lb), lm)].length = L + 1 by simp [HLL.out]]; exact hown') hgrow)
              rw [← HX.out] at HI
              clear hown' hgrow hown hownW
              go_wp2
              go_roundw
              case rel => exact ⟨n + 1, by omega, by go_num, HI.out⟩
              case measure => simp [intOf]; omega
            case neg =>
              have g2 : (ls == s) = false := beq_eq_false_iff_ne.2 hs
              have g3 : decide (ls = s) = false := decide_eq_false hs
              have hownW := HNW.out.own
              rw [List.length_append, show zs.length + [((ls, lb), lm)].length = L + 1 by simp [HLL.out]] at hownW
              have hws2 := HWS.out
              clear hown
              go_quiet (fail)
              have hown := hownW.drew
              go_wp2_with (at_builtin; refine wpList_append_own _ rfl _ _ 38 rfl w.heap.size 51 i0 (.agg #[.int .i64 0, .bool false, .int .i64 0]) 3 24 Try.underlying38 hi0 hq0 hq1 hq2 rfl (by decide) _ _ _ rfl (hown.alloc _) ⟨W.heap.size, 0, none⟩ 1 1 [.int .i64 s, .bool b, .int .i64 m] rfl rfl ?c1 news3_one ?c3 ?c4 ?c5 ?_)
              case c1 => first | exact news3 | exact news3b rfl
              case c3 => unfold maxLen; omega
              case c4 => omega
              case c5 => first | omega | (simp; omega)
              intro v' w4 hown' hgrow _
              have HI := Lib.hid (VbInv.app (s := s) (b := b) (m := m) (HNW.out.below (bl_dn _ _)) (by rw [List.length_append, show zs.length + [((ls, lb), lm)].length = L + 1 by simp [HLL.out]]; exact hown') hgrow)
              rw [← HX.out] at HI
              clear hown' hgrow hown hownW
              go_wp2
              go_roundw
              case rel => exact ⟨n + 1, by omega, by go_num, HI.out⟩
              case measure => simp [intOf]; omega
      · have hnn : n = xs.length := by omega
        subst hnn
        rw [List.take_length] at hinv
        have HE := Lib.hid (hinv.built2 true)
        clear hinv
        go_wp2
        go_ret2
        exact HE.out

set_option maxHeartbeats 4000000 in
theorem sPartSlow_any (v : Value) (xs : List Vc) (w : World) (h : VV w v xs) : Calls Try.prog 30 #[v] w (VBuilt2 w (psL xs) (pval xs)) := by
  obtain ⟨i0, hi0, hq0, hq1, hq2⟩ := info_parts infoVb
  have HP := Lib.hid (fun w' (hb : Below w.heap.size w w') => sPartValid8_any v xs w' (h.below (w' := w') hb))
  obtain ⟨a, c, rfl, ha, hc1, hc2⟩ := h
  unfold maxLen at hc2
  have HA := Lib.hid ha
  have HS := Lib.hid (VbInv.start w)
  clear ha
  unfold psL
  cases hp : pval xs with
  | false =>
    rw [hp] at HP
    clear hp
    go_enter Try.func30, Try.ntmps30
    go_wp2_with (fail)
    (go_at_call 46; refine (HP.out _ ((Below.refl _ _).alloc (Nat.le_refl _) _)).mono ?_; rintro e w1 ⟨rfl, hb1⟩)
    have HE := Lib.hid ((HS.out.below hb1).built2 false)
    clear hb1
    go_wp2
    go_ret2
    exact HE.out
  | true =>
    rw [hp] at HP
    have HV := Lib.hid (pval_in hp)
    rw [if_pos rfl]
    clear hp
    have HW := Lib.hid (slw_ok HV.out.1)
    go_enter Try.func30, Try.ntmps30
    go_wp2_with (fail)
    (go_at_call 46; refine (HP.out _ ((Below.refl _ _).alloc (Nat.le_refl _) _)).mono ?_; rintro e w1 ⟨rfl, hb1⟩)
    have HI0 := Lib.hid (HS.out.below hb1)
    clear hb1
    go_wp2
    go_loopw [4, 5] (fun q i wr => ∃ n : Nat, n ≤ xs.length ∧ i = .int .i64 (n : Int) ∧ VbInv w wr q (slw (xs.take n))) (fun _ i _ => xs.length - (intOf i).toNat)
    case atStart => exact ⟨0, by omega, rfl, HI0.out⟩
    case round =>
      obtain ⟨n, hn, rfl, hinv⟩ := hrel
      clear HI0
      by_cases hlt : n < xs.length
      · obtain ⟨A, off, s, b, m, rfl, hx, c0, c1, c2⟩ := voice_at HA.out hinv.bl hlt
        have HX := Lib.hid (slw_take hx)
        have hxo := vok_in (all_get HV.out.1 hx)
        have hyo := HW.out n
        have hyl := slw_len xs n
        have h12 := HV.out.2.1
        have hk0 : (0 : Int) ≤ (n : Int) := by omega
        have hk1 : (n : Int) < (xs.length : Int) := by omega
        have hA : A < wr.heap.size := World.block_lt_of_cell? wr ⟨A, off + n * 3, none⟩ c0
        have hws := hinv.bl.size
        have m1 : 1 ≤ m := hxo.2.1
        have m3 : m ≤ 3 := hxo.2.2
        clear hx hxo
        generalize slw (xs.take n) = ys at hinv HX hyo hyl
        rcases List.eq_nil_or_concat ys with rfl | ⟨zs, l, rfl⟩
        · have hl0 : ([] : List Vc).length = 0 := rfl
          have HN := Lib.hid hinv
          obtain ⟨aq, cq, rfl⟩ := hinv.row.sl hl0
          have hown := hinv.own
          rw [slow_nil] at HX
          clear hinv hl0 hyo hyl
          go_wp2
          have hownW : wr.ownsRow w.heap.size 51 3 (.slice aq 0 cq) 0 (vcs []) := hown
          have HNW : Hid (VbInv w wr (.slice aq 0 cq) []) := HN.out
          have HWS : Hid (w.heap.size ≤ wr.heap.size) := hws
          clear hown
          go_quiet (fail)
          have hown := hownW.drew
          have hws2 := HWS.out
          go_wp2_with (at_builtin; refine wpList_append_own _ rfl _ _ 38 rfl w.heap.size 51 i0 (.agg #[.int .i64 0, .bool false, .int .i64 0]) 3 24 Try.underlying38 hi0 hq0 hq1 hq2 rfl (by decide) _ _ _ rfl (hown.alloc _) ⟨wr.heap.size, 0, none⟩ 1 1 [.int .i64 s, .bool b, .int .i64 m] rfl rfl ?c1 news3_one ?c3 ?c4 ?c5 ?_)
          case c1 => first | exact news3 | exact news3b rfl
          case c3 => unfold maxLen; omega
          case c4 => omega
          case c5 => first | omega | (simp; omega)
          intro v' w4 hown' hgrow _
          have HI := Lib.hid (VbInv.app (s := s) (b := b) (m := m) (HNW.out.below (bl_dn _ _)) hown' hgrow)
          rw [List.nil_append, ← HX.out] at HI
          clear hown' hgrow hown hownW
          go_wp2
          go_roundw
          case rel => exact ⟨n + 1, by omega, by go_num, HI.out⟩
          case measure => simp [intOf]; omega
        · rw [List.concat_eq_append] at hinv HX hyo hyl
          have HN := Lib.hid hinv
          have hown := hinv.own
          obtain ⟨g, cap, rfl, hg, hgs, hcap, hmax, e0, e1, e2, ef, hset⟩ := hinv.last
          have HSET := Lib.hid hset
          have hll : (zs ++ [l]).length = zs.length + 1 := by simp
          rw [hll] at hown hyl
          have hlo := vok_in (all_get (k := zs.length) (x := l) hyo (by simp))
          obtain ⟨⟨ls, lb⟩, lm⟩ := l
          simp only at hlo e0 e1 e2
          have l1 : 1 ≤ lm := hlo.2.1
          have l3 : lm ≤ 3 := hlo.2.2
          have wl : IntKind.i64.wrap (zs.length : Int) = (zs.length : Int) := IntWalk.i64_in _ (by omega)
          have wl2 : IntKind.i64.wrap ((zs.length : Int) + 1 - 1) = (zs.length : Int) := by rw [show (zs.length : Int) + 1 - 1 = (zs.length : Int) by omega]; exact wl
          have ws : IntKind.i64.wrap (lm + m) = lm + m := IntWalk.i64_in _ (by omega)
          clear hinv hset hyo hlo
          generalize hL : zs.length = L at *
          have HLL := Lib.hid hL
          clear hL
          go_wp2
          have HNW : Hid (VbInv w wr (.slice (some ⟨g, 0, none⟩) (L + 1) cap) (zs ++ [((ls, lb), lm)])) := HN.out
          have HWS : Hid (w.heap.size ≤ wr.heap.size) := hws
          by_cases ht : ls = s ∧ lb = b
          case pos =>
            obtain ⟨rfl, rfl⟩ := ht
            by_cases hsum : lm + m ≤ 3
            case pos =>
              rw [slow_yes (l := ((ls, lb), lm)) (x := ((ls, lb), m)) rfl hsum] at HX
              go_quiet (fail)
              go_wp2
              go_region
              have HI := Lib.hid (HSET.out (World.drewN wr (nq + 1)) (lm + m) (HNW.out.below (bl_dn _ _)))
              rw [← HX.out] at HI
              go_wp2
              go_roundw
              case rel => exact ⟨n + 1, by omega, by go_num, HI.out⟩
              case measure => simp [intOf]; omega
            case neg =>
              have g3 : decide (lm + m ≤ 3) = false := decide_eq_false hsum
              rw [slow_no (l := ((ls, lb), lm)) (x := ((ls, lb), m)) (fun e => hsum e.2)] at HX
              have hownW := HNW.out.own
              rw [List.length_append, show zs.length + [((ls, lb), lm)].length = L + 1 by simp [HLL.out]] at hownW
              have hws2 := HWS.out
              clear hown
              go_quiet (fail)
              have hown := hownW.drew
              go_wp2_with (at_builtin; refine wpList_append_own _ rfl _ _ 38 rfl w.heap.size 51 i0 (.agg #[.int .i64 0, .bool false, .int .i64 0]) 3 24 Try.underlying38 hi0 hq0 hq1 hq2 rfl (by decide) _ _ _ rfl (hown.alloc _) ⟨wr.heap.size, 0, none⟩ 1 1 [.int .i64 ls, .bool lb, .int .i64 m] rfl rfl ?c1 news3_one ?c3 ?c4 ?c5 ?_)
              case c1 => first | exact news3 | exact news3b rfl
              case c3 => unfold maxLen; omega
              case c4 => omega
              case c5 => first | omega | (simp; omega)
              intro v' w4 hown' hgrow _
              have HI := Lib.hid (VbInv.app (s := ls) (b := lb) (m := m) (HNW.out.below (bl_dn _ _)) (by rw [List.length_append, show zs.length + [((ls, lb), lm)].length = L + 1 by simp [HLL.out]]; exact hown') hgrow)
              rw [← HX.out] at HI
              clear hown' hgrow hown hownW
              go_wp2
              go_roundw
              case rel => exact ⟨n + 1, by omega, by go_num, HI.out⟩
              case measure => simp [intOf]; omega
          case neg =>
            rw [slow_no (l := ((ls, lb), lm)) (x := ((s, b), m)) (fun e => ht ⟨congrArg Prod.fst e.1, congrArg Prod.snd e.1⟩)] at HX
            by_cases hs : ls = s
            case pos =>
              subst hs
              have g1 : ¬ lb = b := fun e => ht ⟨rfl, e⟩
              have g2 : (lb == b) = false := beq_eq_false_iff_ne.2 g1
              have g3 : decide (lb = b) = false := decide_eq_false g1
              have hownW := HNW.out.own
              rw [List.length_append, show zs.length + [((ls, lb), lm)].length = L + 1 by simp [HLL.out]] at hownW
              have hws2 := HWS.out
              clear hown
              go_quiet (fail)
              have hown := hownW.drew
              go_wp2_with (at_builtin; refine wpList_append_own _ rfl _ _ 38 rfl w.heap.size 51 i0 (.agg #[.int .i64 0, .bool false, .int .i64 0]) 3 24 Try.underlying38 hi0 hq0 hq1 hq2 rfl (by decide) _ _ _ rfl (hown.alloc _) ⟨wr.heap.size, 0, none⟩ 1 1 [.int .i64 ls, .bool b, .int .i64 m] rfl rfl ?c1 news3_one ?c3 ?c4 ?c5 ?_)
              case c1 => first | exact news3 | exact news3b rfl
              case c3 => unfold maxLen; omega
              case c4 => omega
              case c5 => first | omega | (simp; omega)
              intro v' w4 hown' hgrow _
              have HI := Lib.hid (VbInv.app (s := ls) (b := b) (m := m) (HNW.out.below (bl_dn _ _)) (by rw [List.length_append, show zs.length + [((ls, lb), lm)].length = L + 1 by simp [HLL.out]]; exact hown') hgrow)
              rw [← HX.out] at HI
              clear hown' hgrow hown hownW
              go_wp2
              go_roundw
              case rel => exact ⟨n + 1, by omega, by go_num, HI.out⟩
              case measure => simp [intOf]; omega
            case neg =>
              have g2 : (ls == s) = false := beq_eq_false_iff_ne.2 hs
              have g3 : decide (ls = s) = false := decide_eq_false hs
              have hownW := HNW.out.own
              rw [List.length_append, show zs.length + [((ls, lb), lm)].length = L + 1 by simp [HLL.out]] at hownW
              have hws2 := HWS.out
              clear hown
              go_quiet (fail)
              have hown := hownW.drew
              go_wp2_with (at_builtin; refine wpList_append_own _ rfl _ _ 38 rfl w.heap.size 51 i0 (.agg #[.int .i64 0, .bool false, .int .i64 0]) 3 24 Try.underlying38 hi0 hq0 hq1 hq2 rfl (by decide) _ _ _ rfl (hown.alloc _) ⟨wr.heap.size, 0, none⟩ 1 1 [.int .i64 s, .bool b, .int .i64 m] rfl rfl ?c1 news3_one ?c3 ?c4 ?c5 ?_)
              case c1 => first | exact news3 | exact news3b rfl
              case c3 => unfold maxLen; omega
              case c4 => omega
              case c5 => first | omega | (simp; omega)
              intro v' w4 hown' hgrow _
              have HI := Lib.hid (VbInv.app (s := s) (b := b) (m := m) (HNW.out.below (bl_dn _ _)) (by rw [List.length_append, show zs.length + [((ls, lb), lm)].length = L + 1 by simp [HLL.out]]; exact hown') hgrow)
              rw [← HX.out] at HI
              clear hown' hgrow hown hownW
              go_wp2
              go_roundw
              case rel => exact ⟨n + 1, by omega, by go_num, HI.out⟩
              case measure => simp [intOf]; omega
      · have hnn : n = xs.length := by omega
        subst hnn
        rw [List.take_length] at hinv
        have HE := Lib.hid (hinv.built2 true)
        clear hinv
        go_wp2
        go_ret2
        exact HE.out
end Go.Proofs.Ythmkjdmjhngpjaa
