/-
  PsalmFits, PsalmSing, PsalmTenors and PsalmAccents in the program.
-/
import Derived.Test.YtcmcdomfmmjogaaPsp
import Derived.Test.YtcmcdomfmmjogaaPsm2
namespace Go.Proofs.Ytcmcdomfmmjogaa
open Go.RowKit
set_option maxRecDepth 100000
set_option linter.unusedVariables false

theorem psalmFits_any (v : Value) (p : Psa) (s : ByteArray) (hs : s.size ≤ 1048577) (w : World) (h : PV w v p) (hm : MaxAt w) :
    Calls Try.prog 25 #[v, .string s] w fun e w' => e = .returned (.bool (pfit p s)) ∧ Below w.heap.size w w' := by
  have K := Lib.hid (fun W (hb : Below w.heap.size w W) => notesOf_any v p s hs W (h.below hb) (hm.below hb))
  obtain ⟨v0, v1, v2, rfl, h0, h1, h2⟩ := h
  obtain ⟨a0, c0, rfl, _, _⟩ := h0.sl
  obtain ⟨a1, c1, rfl, _, _⟩ := h1.sl
  obtain ⟨a2, c2, rfl, _, _⟩ := h2.sl
  clear h0 h1 h2
  generalize p.st.length = n0 at *
  generalize p.mi.length = n1 at *
  generalize p.en.length = n2 at *
  go_enter Try.func25, Try.ntmps25
  go_wp2_with (fail)
  (go_at_call 48; refine (K.out _ (by (repeat' (first | (with_reducible exact Below.refl _ _) | (with_reducible refine Below.alloc ?_ ?_ _) | (with_reducible refine Below.drew ?_) | (with_reducible refine Below.setCell ?_ ?_ _) | (with_reducible refine bl_step ?_ (by assumption)) | go_size)))).mono ?_; rintro e w1 ⟨vn, rfl, hn, hb1⟩)
  clear hn
  go_wp2
  go_ret
  exact ⟨rfl, by (repeat' (first | (with_reducible exact Below.refl _ _) | (with_reducible refine Below.alloc ?_ ?_ _) | (with_reducible refine Below.drew ?_) | (with_reducible refine Below.setCell ?_ ?_ _) | (with_reducible refine bl_step ?_ (by assumption)) | go_size))⟩

/-- a list of tones that a call has built, and whether it succeeds -/
def TB2 (w : World) (xs : List (Int × Bool)) (ok : Bool) (e : Ending) (w' : World) : Prop :=
  ∃ v, e = .returned (.tuple #[v, .bool ok]) ∧ TRow w' w.heap.size w'.heap.size v xs ∧ Below w.heap.size w w'
/-- tones being put one behind the other -/
structure ToI (w0 wr : World) (v : Value) (xs : List (Int × Bool)) : Prop where
  own : wr.ownsRow w0.heap.size 25 2 v xs.length (tcs xs)
  bl : Below w0.heap.size w0 wr
theorem ToI.start (w : World) : ToI w (w.alloc (.cells #[] 25)) (.slice (some ⟨w.heap.size, 0, none⟩) 0 0) [] :=
  ⟨⟨rfl, .inr ⟨w.heap.size, 0, #[], rfl, Nat.le_refl _, heap_alloc_new w _, by simp, by simp [maxLen], by simp, by simp [tcs]⟩⟩, (Below.refl _ _).alloc (Nat.le_refl _) _⟩
theorem ToI.app {w0 w1 w2 : World} {v v' : Value} {xs : List (Int × Bool)} {t : Int × Bool} {o : Obj} (h : ToI w0 w1 v xs) (hown : w2.ownsRow w0.heap.size 25 2 v' (xs.length + 1) (tcs xs ++ [.int .i64 t.1, .bool t.2])) (hg : (w1.alloc o).grownBy w2 v.ownBlock) : ToI w0 w2 v' (xs ++ [t]) := by
  refine ⟨?_, (h.bl.alloc h.bl.size o).grown hg (by have := h.bl.size; simp; omega) (fun k hk => (h.own.lt k hk).1)⟩
  have e : tcs (xs ++ [t]) = tcs xs ++ [.int .i64 t.1, .bool t.2] := by rw [tcs_app]; rfl
  rw [e]; simpa using hown
theorem ToI.below {w0 wr w' : World} {v : Value} {xs : List (Int × Bool)} (h : ToI w0 wr v xs) (hb : Below wr.heap.size wr w') : ToI w0 w' v xs := ⟨nrow_below h.own hb, bl_step h.bl hb⟩
theorem ToI.row {w0 wr : World} {v : Value} {xs : List (Int × Bool)} (h : ToI w0 wr v xs) : TRow wr w0.heap.size wr.heap.size v xs := ⟨h.own, fun g hg => (h.own.lt g hg).2⟩
theorem ToI.sl {w0 wr : World} {v : Value} {xs : List (Int × Bool)} (h : ToI w0 wr v xs) : ∃ a c, v = .slice a xs.length c := by
  obtain ⟨a, c, e, _⟩ := (LV.sl ⟨_, _, h.row⟩)
  exact ⟨a, c, e⟩
theorem new2 {w : World} {s : Int} {b : Bool} {t : TypeId} : ∀ j u, ([.int .i64 s, .bool b] : List Value)[j]? = some u → (w.alloc (.cells #[.int .i64 s, .bool b] t)).cell? ((⟨w.heap.size, 0, none⟩ : Addr).add j) = some u := by
  intro j u hj
  match j, hj with
  | 0, hj => simp at hj; subst hj; simp [Addr.add]
  | 1, hj => simp at hj; subst hj; simp [Addr.add]
theorem new2_one {s : Int} {b : Bool} : ∀ u ∈ ([.int .i64 s, .bool b] : List Value), u.oneCell' = true := by
  intro u hu
  simp at hu
  rcases hu with rfl | rfl <;> rfl
theorem infoToneP : (Try.prog.info? 25).map (fun i => (i.zero, i.size, i.bytes)) = some (some (.agg #[.int .i64 0, .bool false]), 2, 16) := by kernel_rfl

set_option maxHeartbeats 4000000 in
theorem psalmSing_any (v : Value) (p : Psa) (s : ByteArray) (hs : s.size ≤ 1048577) (w : World) (h : PV w v p) (hm : MaxAt w) :
    Calls Try.prog 15 #[v, .string s] w (TB2 w (psL p s) (pfit p s)) := by
  have K := Lib.hid (fun W (hb : Below w.heap.size w W) => notesOf_any v p s hs W (h.below hb) (hm.below hb))
  obtain ⟨i0, hi0, hq0, hq1, hq2⟩ := info_parts infoToneP
  have HL := Lib.hid (psL_nos p s)
  have hlen := nos_len p s
  obtain ⟨v0, v1, v2, rfl, h0, h1, h2⟩ := h
  obtain ⟨a0, c0, rfl, _, _⟩ := h0.sl
  obtain ⟨a1, c1, rfl, _, _⟩ := h1.sl
  obtain ⟨a2, c2, rfl, _, _⟩ := h2.sl
  clear h0 h1 h2 hm
  generalize p.st.length = n0 at *
  generalize p.mi.length = n1 at *
  generalize p.en.length = n2 at *
  generalize psL p s = ys at *
  generalize nos p s = ns at *
  generalize pfit p s = ok at *
  go_enter Try.func15, Try.ntmps15
  go_wp2_with (fail)
  (go_at_call 48; refine (K.out _ (by (repeat' (first | (with_reducible exact Below.refl _ _) | (with_reducible refine Below.alloc ?_ ?_ _) | (with_reducible refine Below.drew ?_) | (with_reducible refine Below.setCell ?_ ?_ _) | (with_reducible refine bl_step ?_ (by assumption)) | go_size)))).mono ?_; rintro e w1 ⟨vn, rfl, hn, hb1⟩)
  have hbw1 : Below w.heap.size w w1 := by (repeat' (first | (with_reducible exact Below.refl _ _) | (with_reducible refine Below.alloc ?_ ?_ _) | (with_reducible refine Below.drew ?_) | (with_reducible refine Below.setCell ?_ ?_ _) | (with_reducible refine bl_step ?_ (by assumption)) | go_size))
  have HB1 := Lib.hid hbw1
  obtain ⟨an, cn, rfl, hc1, hc2, hcells⟩ := hn
  unfold maxLen at hc2
  have HC := Lib.hid hcells
  have HST := Lib.hid (ToI.start w1)
  obtain ⟨n, hnn⟩ : ∃ n, ns.length = n := ⟨_, rfl⟩
  have HNN := Lib.hid hnn
  rw [hnn] at hc1 hlen ⊢
  clear hbw1 hb1 hcells K hnn
  go_wp2
  go_loopw [8, 20] (fun v i wr => ∃ k : Nat, k ≤ n ∧ i = .int .i64 k ∧ ToI w1 wr v ((ns.take k).map (·.1))) (fun _ i _ => n - (intOf i).toNat)
  case atStart => exact ⟨0, by omega, rfl, HST.out⟩
  case round =>
    obtain ⟨k, hk, rfl, hI⟩ := hrel
    obtain ⟨va, vc, rfl⟩ := hI.sl
    have hll : ((ns.take k).map (·.1)).length = k := by rw [List.length_map, List.length_take, HNN.out]; omega
    rw [hll] at hI ⊢
    have HI := Lib.hid hI
    by_cases hlt : k < n
    · have hkn : k < ns.length := by rw [HNN.out]; exact hlt
      obtain ⟨q, hq⟩ : ∃ q, ns[k]? = some q := ⟨ns[k], List.getElem?_eq_getElem hkn⟩
      have HX : Hid ((ns.take (k + 1)).map (·.1) = (ns.take k).map (·.1) ++ [q.1]) := by show _ = _; rw [List.take_add_one, hq]; simp
      obtain ⟨g, rfl, hg, d0, d1, d2, d3⟩ := HC.out k q hq
      obtain ⟨⟨t, b⟩, r, c⟩ := q
      have e0 := (hI.bl.cell (p := ⟨g, k * 4, none⟩) hg).trans d0
      have e1 := (hI.bl.cell (p := ⟨g, k * 4 + 1, none⟩) hg).trans d1
      have e2 := (hI.bl.cell (p := ⟨g, k * 4 + 2, none⟩) hg).trans d2
      have e3 := (hI.bl.cell (p := ⟨g, k * 4 + 3, none⟩) hg).trans d3
      have hk0 : (0 : Int) ≤ (k : Int) := by omega
      have hk1 : (k : Int) < (n : Int) := by omega
      have hI2 := hI.below ((Below.refl _ _).alloc (Nat.le_refl _) (.cells #[.int .i64 t, .bool b, .int .i64 r, .bool c] 71))
      have HI2 := Lib.hid hI2
      have hown := hI2.own
      rw [hll] at hown
      have hsz := hI2.bl.size
      generalize hys : (ns.take k).map (·.1) = zs at hown HI2 HX hll
      have hz1 : (wr.alloc (.cells #[.int .i64 t, .bool b, .int .i64 r, .bool c] 71)).heap.size = wr.heap.size + 1 := by simp
      have hnew := new2 (w := wr.alloc (.cells #[.int .i64 t, .bool b, .int .i64 r, .bool c] 71)) (s := t) (b := b) (t := 25)
      rw [hz1] at hnew hsz
      have HNEW := Lib.hid hnew
      clear hys d0 d1 d2 d3 hq hI hI2 HI hnew hz1
      go_wp2_with (at_builtin; refine wpList_append_own _ rfl _ _ 23 rfl w1.heap.size 25 i0 (.agg #[.int .i64 0, .bool false]) 2 16 Try.underlying23 hi0 hq0 hq1 hq2 rfl (by decide) _ _ _ rfl (hown.alloc _) ⟨wr.heap.size + 1, 0, none⟩ 1 1 [.int .i64 t, .bool b] rfl rfl HNEW.out new2_one (by unfold maxLen; omega) (by omega) (by simp; omega) ?_)
      intro v' w7 hown' hgrow _
      have HI7 : Hid (ToI w1 w7 v' ((ns.take (k + 1)).map (·.1))) := by
        show ToI _ _ _ _
        rw [HX.out]
        exact HI2.out.app (by rw [hll]; exact hown') hgrow
      clear hown' hgrow hown
      go_wp2
      go_roundw
      case rel => exact ⟨k + 1, by omega, by go_num, HI7.out⟩
      case measure => simp [intOf]; omega
    · have hke : k = n := by omega
      subst hke
      have hys : (ns.take k).map (·.1) = ys := by rw [← HNN.out, List.take_length]; exact HL.out
      have HR := Lib.hid (HI.out.row.lohi (lo' := w.heap.size) (hi' := wr.heap.size) HB1.out.size (Nat.le_refl _))
      have HBW := Lib.hid (bl_step HB1.out HI.out.bl)
      rw [hys] at HR
      clear hI HI
      go_wp2
      go_ret2
      exact ⟨_, rfl, HR.out, HBW.out⟩

theorem tenorIs_any (n : Note) (w : World) : Calls Try.prog 53 #[ntv n] w fun e w' => e = .returned (.bool (n.2.1 == 1)) ∧ Below w.heap.size w w' := by
  obtain ⟨⟨t, b⟩, r, c⟩ := n
  unfold ntv
  go_enter Try.func53, Try.ntmps53
  go_wp2
  go_ret
  exact ⟨rfl, by (repeat' (first | (with_reducible exact Below.refl _ _) | (with_reducible refine Below.alloc ?_ ?_ _) | (with_reducible refine Below.drew ?_) | (with_reducible refine Below.setCell ?_ ?_ _) | (with_reducible refine bl_step ?_ (by assumption)) | go_size))⟩
theorem accentIs_any (n : Note) (w : World) : Calls Try.prog 58 #[ntv n] w fun e w' => e = .returned (.bool (n.2.2 && (n.2.1 == 2))) ∧ Below w.heap.size w w' := by
  obtain ⟨⟨t, b⟩, r, c⟩ := n
  unfold ntv
  cases c
  · go_enter Try.func58, Try.ntmps58
    go_wp2
    go_ret
    exact ⟨rfl, by (repeat' (first | (with_reducible exact Below.refl _ _) | (with_reducible refine Below.alloc ?_ ?_ _) | (with_reducible refine Below.drew ?_) | (with_reducible refine Below.setCell ?_ ?_ _) | (with_reducible refine bl_step ?_ (by assumption)) | go_size))⟩
  · go_enter Try.func58, Try.ntmps58
    go_wp2
    go_ret
    exact ⟨by simp, by (repeat' (first | (with_reducible exact Below.refl _ _) | (with_reducible refine Below.alloc ?_ ?_ _) | (with_reducible refine Below.drew ?_) | (with_reducible refine Below.setCell ?_ ?_ _) | (with_reducible refine bl_step ?_ (by assumption)) | go_size))⟩

set_option maxHeartbeats 4000000 in
theorem countT_any (v : Value) (p : Psa) (s : ByteArray) (hs : s.size ≤ 1048577) (w : World) (h : PV w v p) (hm : MaxAt w) :
    Calls Try.prog 52 #[v, .string s, .func (.func 53) #[] #[]] w fun e w' => e = .returned (.int .i64 (psT p s)) ∧ Below w.heap.size w w' := by
  have K := Lib.hid (fun W (hb : Below w.heap.size w W) => notesOf_any v p s hs W (h.below hb) (hm.below hb))
  have hlen := nos_len p s
  have HNO := Lib.hid (psT_no (p := p) (s := s))
  have HYES := Lib.hid (tenors_nos (p := p) (s := s))
  have HQ := Lib.hid tenorIs_any
  obtain ⟨v0, v1, v2, rfl, h0, h1, h2⟩ := h
  obtain ⟨a0, c0, rfl, _, _⟩ := h0.sl
  obtain ⟨a1, c1, rfl, _, _⟩ := h1.sl
  obtain ⟨a2, c2, rfl, _, _⟩ := h2.sl
  clear h0 h1 h2 hm
  generalize p.st.length = n0 at *
  generalize p.mi.length = n1 at *
  generalize p.en.length = n2 at *
  generalize nos p s = ns at *
  generalize psT p s = r at *
  generalize pfit p s = ok at *
  cases ok with
  | false =>
    have e0 := HNO.out rfl
    subst e0
    go_enter Try.func52, Try.ntmps52
    go_wp2_with (fail)
    (go_at_call 48; refine (K.out _ (by (repeat' (first | (with_reducible exact Below.refl _ _) | (with_reducible refine Below.alloc ?_ ?_ _) | (with_reducible refine Below.drew ?_) | (with_reducible refine Below.setCell ?_ ?_ _) | (with_reducible refine bl_step ?_ (by assumption)) | go_size)))).mono ?_; rintro e w1 ⟨vn, rfl, hn, hb1⟩)
    clear hn
    go_wp2
    go_ret
    exact ⟨rfl, by (repeat' (first | (with_reducible exact Below.refl _ _) | (with_reducible refine Below.alloc ?_ ?_ _) | (with_reducible refine Below.drew ?_) | (with_reducible refine Below.setCell ?_ ?_ _) | (with_reducible refine bl_step ?_ (by assumption)) | go_size))⟩
  | true =>
    have HR := Lib.hid (HYES.out rfl)
    clear HYES HNO
    go_enter Try.func52, Try.ntmps52
    go_wp2_with (fail)
    (go_at_call 48; refine (K.out _ (by (repeat' (first | (with_reducible exact Below.refl _ _) | (with_reducible refine Below.alloc ?_ ?_ _) | (with_reducible refine Below.drew ?_) | (with_reducible refine Below.setCell ?_ ?_ _) | (with_reducible refine bl_step ?_ (by assumption)) | go_size)))).mono ?_; rintro e w1 ⟨vn, rfl, hn, hb1⟩)
    have hbw1 : Below w.heap.size w w1 := by (repeat' (first | (with_reducible exact Below.refl _ _) | (with_reducible refine Below.alloc ?_ ?_ _) | (with_reducible refine Below.drew ?_) | (with_reducible refine Below.setCell ?_ ?_ _) | (with_reducible refine bl_step ?_ (by assumption)) | go_size))
    have HB1 := Lib.hid hbw1
    obtain ⟨an, cn, rfl, hc1, hc2, hcells⟩ := hn
    unfold maxLen at hc2
    have HC := Lib.hid hcells
    obtain ⟨n, hnn⟩ : ∃ n, ns.length = n := ⟨_, rfl⟩
    have HNN := Lib.hid hnn
    rw [hnn] at hc1 hlen ⊢
    clear hbw1 hb1 hcells K hnn
    go_wp2
    go_loopw [9, 22] (fun m i wr => ∃ k : Nat, k ≤ n ∧ i = .int .i64 k ∧ m = .int .i64 (((ns.take k).filter (fun n : Note => n.2.1 == 1)).length : Int) ∧ Below w1.heap.size w1 wr) (fun _ i _ => n - (intOf i).toNat)
    case atStart => exact ⟨0, by omega, rfl, rfl, Below.refl _ _⟩
    case round =>
      obtain ⟨k, hk, rfl, rfl, hb⟩ := hrel
      have HB := Lib.hid hb
      have hml : ((ns.take k).filter (fun n : Note => n.2.1 == 1)).length ≤ k := Nat.le_trans (List.length_filter_le _ _) (by rw [List.length_take]; omega)
      by_cases hlt : k < n
      · have hkn : k < ns.length := by rw [HNN.out]; exact hlt
        obtain ⟨q, hq⟩ : ∃ q, ns[k]? = some q := ⟨ns[k], List.getElem?_eq_getElem hkn⟩
        have HX := Lib.hid (count_take (fun n : Note => n.2.1 == 1) ns hq)
        obtain ⟨g, rfl, hg, d0, d1, d2, d3⟩ := HC.out k q hq
        have HQ1 := Lib.hid (fun W => HQ.out q W)
        obtain ⟨⟨t, b⟩, rr, c⟩ := q
        unfold ntv at HQ1
        simp only at HX HQ1
        have e0 := (hb.cell (p := ⟨g, k * 4, none⟩) hg).trans d0
        have e1 := (hb.cell (p := ⟨g, k * 4 + 1, none⟩) hg).trans d1
        have e2 := (hb.cell (p := ⟨g, k * 4 + 2, none⟩) hg).trans d2
        have e3 := (hb.cell (p := ⟨g, k * 4 + 3, none⟩) hg).trans d3
        have hk0 : (0 : Int) ≤ (k : Int) := by omega
        have hk1 : (k : Int) < (n : Int) := by omega
        generalize (rr == 1) = yes at HX HQ1
        generalize hm : ((ns.take k).filter (fun n : Note => n.2.1 == 1)).length = m at HX hml
        have wm : IntKind.i64.wrap ((m : Int) + 1) = (m : Int) + 1 := IntWalk.i64_in _ (by omega)
        clear d0 d1 d2 d3 hq hm hb
        cases yes with
        | true =>
          go_wp2_with (fail)
          (go_at_call 53; refine (HQ1.out _).mono ?_; rintro e w5 ⟨rfl, hb5⟩)
          have HB5 : Hid (Below w1.heap.size w1 w5) := by have := HB.out; have := HB.out.size; show Below _ _ _; (repeat' (first | (with_reducible assumption) | (with_reducible exact Below.refl _ _) | (with_reducible refine Below.alloc ?_ ?_ _) | (with_reducible refine Below.drew ?_) | (with_reducible refine Below.setCell ?_ ?_ _) | (with_reducible refine below_gb ?_ (by assumption) ?_) | (with_reducible refine bl_step ?_ (by assumption)) | go_size)); all_goals omega
          clear hb5
          go_wp2
          go_roundw
          case rel => exact ⟨k + 1, by omega, by go_num, by rw [HX.out]; go_num, HB5.out⟩
          case measure => simp [intOf]; omega
        | false =>
          go_wp2_with (fail)
          (go_at_call 53; refine (HQ1.out _).mono ?_; rintro e w5 ⟨rfl, hb5⟩)
          have HB5 : Hid (Below w1.heap.size w1 w5) := by have := HB.out; have := HB.out.size; show Below _ _ _; (repeat' (first | (with_reducible assumption) | (with_reducible exact Below.refl _ _) | (with_reducible refine Below.alloc ?_ ?_ _) | (with_reducible refine Below.drew ?_) | (with_reducible refine Below.setCell ?_ ?_ _) | (with_reducible refine below_gb ?_ (by assumption) ?_) | (with_reducible refine bl_step ?_ (by assumption)) | go_size)); all_goals omega
          clear hb5
          go_wp2
          go_roundw
          case rel => exact ⟨k + 1, by omega, by go_num, by rw [HX.out]; rfl, HB5.out⟩
          case measure => simp [intOf]; omega
      · have hke : k = n := by omega
        subst hke
        have hr : (((ns.take k).filter (fun n : Note => n.2.1 == 1)).length : Int) = r := by rw [← HNN.out, List.take_length]; exact HR.out
        rw [hr]
        clear hr hml hb
        go_wp2
        go_ret
        exact ⟨rfl, bl_step HB1.out HB.out⟩

theorem psalmTenors_any (v : Value) (p : Psa) (s : ByteArray) (hs : s.size ≤ 1048577) (w : World) (h : PV w v p) (hm : MaxAt w) :
    Calls Try.prog 20 #[v, .string s] w fun e w' => e = .returned (.int .i64 (psT p s)) ∧ Below w.heap.size w w' := by
  have K := Lib.hid (fun W (hb : Below w.heap.size w W) => countT_any v p s hs W (h.below hb) (hm.below hb))
  obtain ⟨v0, v1, v2, rfl, h0, h1, h2⟩ := h
  obtain ⟨a0, c0, rfl, _, _⟩ := h0.sl
  obtain ⟨a1, c1, rfl, _, _⟩ := h1.sl
  obtain ⟨a2, c2, rfl, _, _⟩ := h2.sl
  clear h0 h1 h2 hm
  generalize p.st.length = n0 at *
  generalize p.mi.length = n1 at *
  generalize p.en.length = n2 at *
  go_enter Try.func20, Try.ntmps20
  go_wp2_with (fail)
  (go_at_call 52; refine (K.out _ (by (repeat' (first | (with_reducible exact Below.refl _ _) | (with_reducible refine Below.alloc ?_ ?_ _) | (with_reducible refine Below.drew ?_) | (with_reducible refine Below.setCell ?_ ?_ _) | (with_reducible refine bl_step ?_ (by assumption)) | go_size)))).mono ?_; rintro e w1 ⟨rfl, hb1⟩)
  go_wp2
  go_ret
  exact ⟨rfl, by (repeat' (first | (with_reducible exact Below.refl _ _) | (with_reducible refine Below.alloc ?_ ?_ _) | (with_reducible refine Below.drew ?_) | (with_reducible refine Below.setCell ?_ ?_ _) | (with_reducible refine bl_step ?_ (by assumption)) | go_size))⟩

set_option maxHeartbeats 4000000 in
theorem countA_any (v : Value) (p : Psa) (s : ByteArray) (hs : s.size ≤ 1048577) (w : World) (h : PV w v p) (hm : MaxAt w) :
    Calls Try.prog 52 #[v, .string s, .func (.func 58) #[] #[]] w fun e w' => e = .returned (.int .i64 (psA p s)) ∧ Below w.heap.size w w' := by
  have K := Lib.hid (fun W (hb : Below w.heap.size w W) => notesOf_any v p s hs W (h.below hb) (hm.below hb))
  have hlen := nos_len p s
  have HNO := Lib.hid (psA_no (p := p) (s := s))
  have HYES := Lib.hid (accents_nos (p := p) (s := s))
  have HQ := Lib.hid accentIs_any
  obtain ⟨v0, v1, v2, rfl, h0, h1, h2⟩ := h
  obtain ⟨a0, c0, rfl, _, _⟩ := h0.sl
  obtain ⟨a1, c1, rfl, _, _⟩ := h1.sl
  obtain ⟨a2, c2, rfl, _, _⟩ := h2.sl
  clear h0 h1 h2 hm
  generalize p.st.length = n0 at *
  generalize p.mi.length = n1 at *
  generalize p.en.length = n2 at *
  generalize nos p s = ns at *
  generalize psA p s = r at *
  generalize pfit p s = ok at *
  cases ok with
  | false =>
    have e0 := HNO.out rfl
    subst e0
    go_enter Try.func52, Try.ntmps52
    go_wp2_with (fail)
    (go_at_call 48; refine (K.out _ (by (repeat' (first | (with_reducible exact Below.refl _ _) | (with_reducible refine Below.alloc ?_ ?_ _) | (with_reducible refine Below.drew ?_) | (with_reducible refine Below.setCell ?_ ?_ _) | (with_reducible refine bl_step ?_ (by assumption)) | go_size)))).mono ?_; rintro e w1 ⟨vn, rfl, hn, hb1⟩)
    clear hn
    go_wp2
    go_ret
    exact ⟨rfl, by (repeat' (first | (with_reducible exact Below.refl _ _) | (with_reducible refine Below.alloc ?_ ?_ _) | (with_reducible refine Below.drew ?_) | (with_reducible refine Below.setCell ?_ ?_ _) | (with_reducible refine bl_step ?_ (by assumption)) | go_size))⟩
  | true =>
    have HR := Lib.hid (HYES.out rfl)
    clear HYES HNO
    go_enter Try.func52, Try.ntmps52
    go_wp2_with (fail)
    (go_at_call 48; refine (K.out _ (by (repeat' (first | (with_reducible exact Below.refl _ _) | (with_reducible refine Below.alloc ?_ ?_ _) | (with_reducible refine Below.drew ?_) | (with_reducible refine Below.setCell ?_ ?_ _) | (with_reducible refine bl_step ?_ (by assumption)) | go_size)))).mono ?_; rintro e w1 ⟨vn, rfl, hn, hb1⟩)
    have hbw1 : Below w.heap.size w w1 := by (repeat' (first | (with_reducible exact Below.refl _ _) | (with_reducible refine Below.alloc ?_ ?_ _) | (with_reducible refine Below.drew ?_) | (with_reducible refine Below.setCell ?_ ?_ _) | (with_reducible refine bl_step ?_ (by assumption)) | go_size))
    have HB1 := Lib.hid hbw1
    obtain ⟨an, cn, rfl, hc1, hc2, hcells⟩ := hn
    unfold maxLen at hc2
    have HC := Lib.hid hcells
    obtain ⟨n, hnn⟩ : ∃ n, ns.length = n := ⟨_, rfl⟩
    have HNN := Lib.hid hnn
    rw [hnn] at hc1 hlen ⊢
    clear hbw1 hb1 hcells K hnn
    go_wp2
    go_loopw [9, 22] (fun m i wr => ∃ k : Nat, k ≤ n ∧ i = .int .i64 k ∧ m = .int .i64 (((ns.take k).filter (fun n : Note => n.2.2 && (n.2.1 == 2))).length : Int) ∧ Below w1.heap.size w1 wr) (fun _ i _ => n - (intOf i).toNat)
    case atStart => exact ⟨0, by omega, rfl, rfl, Below.refl _ _⟩
    case round =>
      obtain ⟨k, hk, rfl, rfl, hb⟩ := hrel
      have HB := Lib.hid hb
      have hml : ((ns.take k).filter (fun n : Note => n.2.2 && (n.2.1 == 2))).length ≤ k := Nat.le_trans (List.length_filter_le _ _) (by rw [List.length_take]; omega)
      by_cases hlt : k < n
      · have hkn : k < ns.length := by rw [HNN.out]; exact hlt
        obtain ⟨q, hq⟩ : ∃ q, ns[k]? = some q := ⟨ns[k], List.getElem?_eq_getElem hkn⟩
        have HX := Lib.hid (count_take (fun n : Note => n.2.2 && (n.2.1 == 2)) ns hq)
        obtain ⟨g, rfl, hg, d0, d1, d2, d3⟩ := HC.out k q hq
        have HQ1 := Lib.hid (fun W => HQ.out q W)
        obtain ⟨⟨t, b⟩, rr, c⟩ := q
        unfold ntv at HQ1
        simp only at HX HQ1
        have e0 := (hb.cell (p := ⟨g, k * 4, none⟩) hg).trans d0
        have e1 := (hb.cell (p := ⟨g, k * 4 + 1, none⟩) hg).trans d1
        have e2 := (hb.cell (p := ⟨g, k * 4 + 2, none⟩) hg).trans d2
        have e3 := (hb.cell (p := ⟨g, k * 4 + 3, none⟩) hg).trans d3
        have hk0 : (0 : Int) ≤ (k : Int) := by omega
        have hk1 : (k : Int) < (n : Int) := by omega
        generalize (c && (rr == 2)) = yes at HX HQ1
        generalize hm : ((ns.take k).filter (fun n : Note => n.2.2 && (n.2.1 == 2))).length = m at HX hml
        have wm : IntKind.i64.wrap ((m : Int) + 1) = (m : Int) + 1 := IntWalk.i64_in _ (by omega)
        clear d0 d1 d2 d3 hq hm hb
        cases yes with
        | true =>
          go_wp2_with (fail)
          (go_at_call 58; refine (HQ1.out _).mono ?_; rintro e w5 ⟨rfl, hb5⟩)
          have HB5 : Hid (Below w1.heap.size w1 w5) := by have := HB.out; have := HB.out.size; show Below _ _ _; (repeat' (first | (with_reducible assumption) | (with_reducible exact Below.refl _ _) | (with_reducible refine Below.alloc ?_ ?_ _) | (with_reducible refine Below.drew ?_) | (with_reducible refine Below.setCell ?_ ?_ _) | (with_reducible refine below_gb ?_ (by assumption) ?_) | (with_reducible refine bl_step ?_ (by assumption)) | go_size)); all_goals omega
          clear hb5
          go_wp2
          go_roundw
          case rel => exact ⟨k + 1, by omega, by go_num, by rw [HX.out]; go_num, HB5.out⟩
          case measure => simp [intOf]; omega
        | false =>
          go_wp2_with (fail)
          (go_at_call 58; refine (HQ1.out _).mono ?_; rintro e w5 ⟨rfl, hb5⟩)
          have HB5 : Hid (Below w1.heap.size w1 w5) := by have := HB.out; have := HB.out.size; show Below _ _ _; (repeat' (first | (with_reducible assumption) | (with_reducible exact Below.refl _ _) | (with_reducible refine Below.alloc ?_ ?_ _) | (with_reducible refine Below.drew ?_) | (with_reducible refine Below.setCell ?_ ?_ _) | (with_reducible refine below_gb ?_ (by assumption) ?_) | (with_reducible refine bl_step ?_ (by assumption)) | go_size)); all_goals omega
          clear hb5
          go_wp2
          go_roundw
          case rel => exact ⟨k + 1, by omega, by go_num, by rw [HX.out]; rfl, HB5.out⟩
          case measure => simp [intOf]; omega
      · have hke : k = n := by omega
        subst hke
        have hr : (((ns.take k).filter (fun n : Note => n.2.2 && (n.2.1 == 2))).length : Int) = r := by rw [← HNN.out, List.take_length]; exact HR.out
        rw [hr]
        clear hr hml hb
        go_wp2
        go_ret
        exact ⟨rfl, bl_step HB1.out HB.out⟩

theorem psalmAccents_any (v : Value) (p : Psa) (s : ByteArray) (hs : s.size ≤ 1048577) (w : World) (h : PV w v p) (hm : MaxAt w) :
    Calls Try.prog 29 #[v, .string s] w fun e w' => e = .returned (.int .i64 (psA p s)) ∧ Below w.heap.size w w' := by
  have K := Lib.hid (fun W (hb : Below w.heap.size w W) => countA_any v p s hs W (h.below hb) (hm.below hb))
  obtain ⟨v0, v1, v2, rfl, h0, h1, h2⟩ := h
  obtain ⟨a0, c0, rfl, _, _⟩ := h0.sl
  obtain ⟨a1, c1, rfl, _, _⟩ := h1.sl
  obtain ⟨a2, c2, rfl, _, _⟩ := h2.sl
  clear h0 h1 h2 hm
  generalize p.st.length = n0 at *
  generalize p.mi.length = n1 at *
  generalize p.en.length = n2 at *
  go_enter Try.func29, Try.ntmps29
  go_wp2_with (fail)
  (go_at_call 52; refine (K.out _ (by (repeat' (first | (with_reducible exact Below.refl _ _) | (with_reducible refine Below.alloc ?_ ?_ _) | (with_reducible refine Below.drew ?_) | (with_reducible refine Below.setCell ?_ ?_ _) | (with_reducible refine bl_step ?_ (by assumption)) | go_size)))).mono ?_; rintro e w1 ⟨rfl, hb1⟩)
  go_wp2
  go_ret
  exact ⟨rfl, by (repeat' (first | (with_reducible exact Below.refl _ _) | (with_reducible refine Below.alloc ?_ ?_ _) | (with_reducible refine Below.drew ?_) | (with_reducible refine Below.setCell ?_ ?_ _) | (with_reducible refine bl_step ?_ (by assumption)) | go_size))⟩

end Go.Proofs.Ytcmcdomfmmjogaa
