/-
  The program makes the tree of a stem.
-/
import Derived.Test.YtbeiedaldinhaaaDoorTr
import Derived.Deep.Cut
import Derived.Deep.CutRange
namespace Go.Proofs.YtbeiedaldinhaaaDoor
open Go.RowKit
set_option maxRecDepth 100000
set_option linter.unusedVariables false

def rcap (W : World) (s : ByteArray) : Nat := grownCap W s.size 0 5
def newRd (W : World) (s : ByteArray) : Obj := .cells (bytesRow s (rcap W s)) 5 ((bytesRow s (rcap W s)).size, (bytesRow s (rcap W s)).size + 1)
theorem conv_bytes (s : ByteArray) (W : World) : (convert 9 22 (.string s)).run Tryd.prog W = .ok (.slice (some ⟨W.heap.size, 0, none⟩) s.size (rcap W s)) (W.drew.alloc (newRd W s)) :=
  run_bytes_of_string W 9 22 5 s Tryd.underlying9 Tryd.underlying22 Tryd.underlying5
theorem bytesRow_len (s : ByteArray) (c : Nat) (h : s.size ≤ c) : (bytesRow s c).size = c := by
  have e : s.data.size = s.size := rfl
  simp [bytesRow]
  omega
theorem RbAt.new {W W' : World} {R : Nat} {s : ByteArray} (h : W'.heap[R]? = some (newRd W s)) (hs : s.size ≤ maxLen) : RbAt W' R (rcap W s) s (bytesRow s (rcap W s)) := by
  have hle : s.size ≤ rcap W s := grownCap_ge W s.size 0 _
  have hz := bytesRow_len s _ hle
  refine ⟨?_, hz, hle, grownCap_le_maxLen W s.size 0 _ hs, ?_⟩
  · unfold newRd at h
    rw [hz] at h
    exact h
  · unfold bytesRow btc
    rw [Array.toList_append, List.take_append_of_le_length (by simp), List.take_of_length_le (by simp)]
    simp

theorem infoPt : (Tryd.prog.info? 63).map (fun i => (i.zero, i.size, i.bytes)) = some (some (.pointer none), 1, 8) := by kernel_rfl
theorem pt_one {x : Option Addr} : ∀ u ∈ ([.pointer x] : List Value), u.oneCell' = true := by
  intro u hu; simp at hu; subst hu; rfl

/-- the tree of one manuscript -/
theorem TreeI.start {B : Nat} {w : World} {P R G rc : Nat} {rds : Nat → ByteArray} {st : List Int} {cur : Array Value} (hP1 : B ≤ P) (hR1 : B ≤ R) (hG1 : B ≤ G)
    (hP : w.heap[P]? = some (.cells #[.slice (some ⟨R, 0, none⟩) (rds 0).size rc, .pointer none, .slice none 0 0] 65 (0, 0))) (hR : RbAt w R rc (rds 0) cur)
    (hG : w.heap[G]? = some (.cells #[.pointer (some ⟨P, 0, none⟩)] 63 (0, 0))) : TreeI B w (.slice (some ⟨G, 0, none⟩) 1 1) [⟨P, R, rc, .slice none 0 0⟩] rds st := by
  refine ⟨fun i b hb => ?_, fun i j a b ha hb hij => ?_, ⟨rfl, .inr ⟨G, 1, _, rfl, hG1, hG, Nat.le_refl _, by simp [maxLen], rfl, rfl⟩⟩, fun i b hb g hg => ?_⟩
  · cases i with
    | succ i => simp at hb
    | zero =>
      simp at hb
      subst hb
      refine ⟨hP1, hR1, hP, ⟨cur, hR⟩, ?_⟩
      have e : kids st 0 ([⟨P, R, rc, .slice none 0 0⟩] : List BkR).length = [] := kids_zero 0 (StTo.one st) (Nat.le_refl _)
      rw [e]
      exact ⟨rfl, .inl ⟨rfl, rfl⟩⟩
  · have h1 := (List.getElem?_eq_some_iff.1 ha).1
    have h2 := (List.getElem?_eq_some_iff.1 hb).1
    simp at h1 h2
    omega
  · cases i with
    | succ i => simp at hb
    | zero =>
      simp at hb
      subst hb
      show (none : Option Nat) ≠ some g
      simp

theorem TreeI.row5 {B : Nat} {w W2 W4 : World} {v v4 : Value} {bs : List BkR} {rds : Nat → ByteArray} {st : List Int} {p : Nat} {bp : BkR} {o3 : Obj}
    (h : TreeI B w v bs rds st) (hp : bs[p]? = some bp) (h2 : Below w.heap.size w W2) (hg4 : (W2.alloc o3).grownBy W4 bp.cv.ownBlock) :
    (W4.setCell ⟨bp.P, 2, none⟩ v4).ownsRow B 63 1 v bs.length ((List.range bs.length).map (pv bs)) ∧ (∃ a, (∃ u, W4.cell? ⟨bp.P, 2, none⟩ = some u ∧ u = a) ∧ W4.frozen? ⟨bp.P, 2, none⟩ = false) := by
  have hpA := h.at_ p bp hp
  have hPs := lt_of_heap hpA.blk
  have hz2 := h2.size
  have hz3 : (W2.alloc o3).heap.size = W2.heap.size + 1 := by simp
  have k4 : ∀ g, g < w.heap.size → bp.cv.ownBlock ≠ some g → W4.heap[g]? = w.heap[g]? := fun g hg hne =>
    (hg4.block g (by omega) (fun e => hne e.symm)).trans ((((Below.refl W2.heap.size W2).alloc (Nat.le_refl _) o3).block g (by omega)).trans (h2.block g hg))
  have hb4 : W4.heap[bp.P]? = _ := (k4 bp.P hPs (fun x => by obtain ⟨c', hc'⟩ := own_kind hpA.kid x; exact kind_ne hpA.blk hc' (by decide) rfl)).trans hpA.blk
  refine ⟨own_keep h.row fun g hg hgs => ?_, ⟨bp.cv, ⟨bp.cv, by simp [World.cell?, hb4], rfl⟩, by simp [World.frozen?, hb4]⟩⟩
  obtain ⟨c', hc'⟩ := own_kind h.row hg
  have n1 : g ≠ bp.P := kind_ne hc' hpA.blk (by decide)
  simp only [World.setCell, Array.getElem?_modify]
  rw [if_neg (Ne.symm n1)]
  exact k4 g hgs (fun x => h.rsep p bp hp g hg x)

theorem TreeI.bl7 {w0 w W2 W4 W7 : World} {v v4 : Value} {bs : List BkR} {rds : Nat → ByteArray} {st : List Int} {p : Nat} {bp : BkR} {o3 o6 : Obj}
    (h : TreeI w0.heap.size w v bs rds st) (hp : bs[p]? = some bp) (hb : Below w0.heap.size w0 w) (h2 : Below w.heap.size w W2) (hg4 : (W2.alloc o3).grownBy W4 bp.cv.ownBlock)
    (hg7 : ((W4.setCell ⟨bp.P, 2, none⟩ v4).alloc o6).grownBy W7 v.ownBlock) : Below w0.heap.size w0 W7 := by
  have hpA := h.at_ p bp hp
  have e2 := bl_step hb h2
  have e3 := e2.alloc e2.size o3
  have hz := e2.size
  have e4 : Below w0.heap.size w0 W4 := e3.grown hg4 (by simp; omega) (fun k hk => (own_ltb hpA.kid hk).1)
  have e5 := e4.setCell (p := ⟨bp.P, 2, none⟩) hpA.hP v4
  have e6 := e5.alloc e5.size o6
  exact e6.grown hg7 (by have := e6.size; omega) (fun k hk => (own_ltb h.row hk).1)

/-- what newStemTree answers -/
def Treed (w : World) (ss : List ByteArray) (st : List Int) (e : Ending) (w' : World) : Prop :=
  ∃ tv, e = .returned (.tuple #[tv, .bool (svl ss st)]) ∧ (svl ss st = false → tv = .slice none 0 0) ∧ (svl ss st = true → ∃ bs : List BkR, bs.length = ss.length ∧ TreeI w.heap.size w' tv bs (bka ss) st) ∧ Below w.heap.size w w'
theorem Treed.no {w w' : World} {ss : List ByteArray} {st : List Int} (h : svl ss st = false) (hb : Below w.heap.size w w') : Treed w ss st (.returned (.tuple #[.slice none 0 0, .bool false])) w' :=
  ⟨_, by rw [h], fun _ => rfl, fun h2 => absurd h2 (by rw [h]; simp), hb⟩

theorem alloc2_heap (w : World) (a b : Obj) : ((w.alloc a).alloc b).drew.heap[w.heap.size]? = some a ∧ ((w.alloc a).alloc b).drew.heap[w.heap.size + 1]? = some b := by
  have s1 : (w.alloc a).heap.size = w.heap.size + 1 := World.size_alloc _ _
  refine ⟨?_, ?_⟩
  · exact (((Below.refl _ (w.alloc a)).alloc (Nat.le_refl _) b).block w.heap.size (by omega)).trans (heap_alloc_new w a)
  · have := heap_alloc_new (w.alloc a) b
    rw [s1] at this
    exact this

theorem alloc3_heap (w : World) (a b c : Obj) : (((w.alloc a).alloc b).alloc c).drew.heap[w.heap.size]? = some a ∧ (((w.alloc a).alloc b).alloc c).drew.heap[w.heap.size + 1]? = some b ∧ (((w.alloc a).alloc b).alloc c).drew.heap[w.heap.size + 1 + 1]? = some c := by
  have s1 : (w.alloc a).heap.size = w.heap.size + 1 := World.size_alloc _ _
  have s2 : ((w.alloc a).alloc b).heap.size = w.heap.size + 1 + 1 := by rw [World.size_alloc, s1]
  obtain ⟨h1, h2⟩ := alloc2_heap w a b
  refine ⟨?_, ?_, ?_⟩
  · exact (((Below.refl _ ((w.alloc a).alloc b)).alloc (Nat.le_refl _) c).block w.heap.size (by omega)).trans h1
  · exact (((Below.refl _ ((w.alloc a).alloc b)).alloc (Nat.le_refl _) c).block (w.heap.size + 1) (by omega)).trans h2
  · have := heap_alloc_new ((w.alloc a).alloc b) c
    rw [s2] at this
    exact this

theorem own_slice {w : World} {B n : Nat} {e : TypeId} {v : Value} {xs : List Value} (h : w.ownsRow B e 1 v (n + 1) xs) : ∃ g cap, v = .slice (some ⟨g, 0, none⟩) (n + 1) cap := by
  obtain ⟨_, h0 | ⟨g, cap, cur, hv, _⟩⟩ := h
  · omega
  · exact ⟨g, cap, hv⟩

/-- a tree's own row of pointers -/
theorem TreeI.row_form {B : Nat} {w : World} {v : Value} {bs : List BkR} {rds : Nat → ByteArray} {st : List Int} (h : TreeI B w v bs rds st) (hn : 1 ≤ bs.length) :
    ∃ g cap, v = .slice (some ⟨g, 0, none⟩) bs.length cap ∧ B ≤ g ∧ g < w.heap.size ∧ bs.length ≤ cap ∧ cap ≤ maxLen ∧ ∀ i, i < bs.length → w.cell? ⟨g, i, none⟩ = some (pv bs i) := by
  obtain ⟨hl, h0 | ⟨g, cap, cur, rfl, hg, hh, hc, hm, hz, ht⟩⟩ := h.row
  · omega
  · refine ⟨g, cap, rfl, hg, lt_of_heap hh, hc, hm, fun i hi => ?_⟩
    rw [Nat.mul_one] at ht
    have e : (cur.toList.take bs.length)[i]? = ((List.range bs.length).map (pv bs))[i]? := by rw [ht]
    rw [List.getElem?_take_of_lt hi, List.getElem?_map, Array.getElem?_toList, List.getElem?_range hi] at e
    simp [World.cell?, hh, e]

set_option maxHeartbeats 8000000 in
theorem newStemTree_any (v u : Value) (ss : List ByteArray) (st : List Int) (w : World) (h : SV w v ss) (k : IV w u st) (hsz : ∀ s ∈ ss, s.size ≤ 4611686018427387904) :
    Calls Tryd.prog 35 #[v, u] w (Treed w ss st) := by
  have KB := Lib.hid (countLost_any v ss w h hsz)
  obtain ⟨i0, hi, hq0, hq1, hq2⟩ := info_parts infoPt
  obtain ⟨a, c, rfl, ha, hc1, hc2⟩ := h
  obtain ⟨a', c', rfl, ha', hc1', hc2'⟩ := k
  unfold maxLen at hc2 hc2'
  have HA := Lib.hid ha
  have HA' := Lib.hid ha'
  clear ha ha' hsz
  cases hok : bkOk ss with
  | false =>
    have HN := Lib.hid (fun w' hb => Treed.no (w := w) (w' := w') (svl_no1 (st := st) hok) hb)
    rw [hok] at KB
    clear hok
    go_enter Tryd.func35, Tryd.ntmps35
    go_wp2_with (fail)
    (go_at_call 51; refine (KB.out).mono ?_; rintro e w1 ⟨rfl, hb1⟩)
    have HX := Lib.hid (HN.out w1 hb1)
    clear hb1 HN
    go_wp2
    go_ret2
    exact HX.out
  | true =>
  rw [hok] at KB
  by_cases h2 : bkL ss = ss.length
  · have HN := Lib.hid (fun w' hb => Treed.no (w := w) (w' := w') (svl_no2 (st := st) h2) hb)
    have t1 : ((bkL ss : Int) == (ss.length : Int)) = true := by rw [h2]; simp
    clear hok h2
    generalize (bkL ss : Int) = n at KB t1
    go_enter Tryd.func35, Tryd.ntmps35
    go_wp2_with (fail)
    (go_at_call 51; refine (KB.out).mono ?_; rintro e w1 ⟨rfl, hb1⟩)
    have HX := Lib.hid (HN.out w1 hb1)
    clear hb1 HN
    go_wp2
    go_ret2
    exact HX.out
  have t1 : ((bkL ss : Int) == (ss.length : Int)) = false := by rw [beq_eq_false_iff_ne]; omega
  by_cases h3 : st.length = ss.length
  case neg =>
    have HN := Lib.hid (fun w' hb => Treed.no (w := w) (w' := w') (svl_no3 (ss := ss) (st := st) h3) hb)
    have t2 : ((st.length : Int) != (ss.length : Int)) = true := by rw [bne_iff_ne]; omega
    clear hok h2 h3
    generalize (bkL ss : Int) = n at KB t1
    go_enter Tryd.func35, Tryd.ntmps35
    go_wp2_with (fail)
    (go_at_call 51; refine (KB.out).mono ?_; rintro e w1 ⟨rfl, hb1⟩)
    have HX := Lib.hid (HN.out w1 hb1)
    clear hb1 HN
    go_wp2
    go_ret2
    exact HX.out
  have t2 : ((st.length : Int) != (ss.length : Int)) = false := by rw [bne_eq_false_iff_eq]; omega
  obtain ⟨hin, hall⟩ := bkOk_in hok
  obtain ⟨n1, n6, p1, p8⟩ := bkIn_parts hin
  have HALL := Lib.hid hall
  have hne : ss ≠ [] := by rintro rfl; simp at n1
  have hne' : st ≠ [] := by rintro rfl; simp at h3; omega
  rcases HA.out with hh | ⟨A, off, rfl, hA, hc⟩
  · exact absurd hh hne
  rcases HA'.out with hh | ⟨A', off', rfl, hA', hc'⟩
  · exact absurd hh hne'
  have HC := Lib.hid hc
  have HC' := Lib.hid hc'
  have sn : st.length ≤ 6 := by omega
  have s1 : 1 ≤ st.length := by omega
  have j0 : (0 : Int) < (st.length : Int) := by omega
  have i0' : (0 : Int) < (ss.length : Int) := by omega
  have e0 := HC'.out 0 s1
  rw [Nat.add_zero] at e0
  have HOK := Lib.hid hok
  have H2 := Lib.hid h2
  have H3 := Lib.hid h3
  clear hok h2 h3 hin hall hne hne' hc hc' HA HA'
  by_cases h4 : st.getD 0 0 = -1
  case neg =>
    have HN := Lib.hid (fun w' hb => Treed.no (w := w) (w' := w') (svl_no4 (ss := ss) (st := st) h4) hb)
    have t3 : (st.getD 0 0 != -1) = true := by rw [bne_iff_ne]; exact h4
    clear h4
    generalize st.getD 0 0 = z at e0 t3
    generalize (bkL ss : Int) = n at KB t1
    go_enter Tryd.func35, Tryd.ntmps35
    go_wp2_with (fail)
    (go_at_call 51; refine (KB.out).mono ?_; rintro e w1 ⟨rfl, hb1⟩)
    have HX := Lib.hid (HN.out w1 hb1)
    have e1 := (hb1.cell (p := ⟨A', off', none⟩) hA').trans e0
    clear hb1 HN e0
    go_wp2
    go_ret2
    exact HX.out
  rw [h4] at e0
  have H4 := Lib.hid h4
  clear h4
  obtain ⟨s0, hs0⟩ := ss_get n1
  have c0 := HC.out 0 s0 hs0
  rw [Nat.add_zero] at c0
  have hz0 := (HALL.out 0 s0 hs0).1
  have HB0 : Hid (bka ss 0 = s0) := bka_get hs0
  have kc := conv_bytes s0
  have HZ0 : Hid (s0.size ≤ maxLen) := (by unfold maxLen; omega : s0.size ≤ maxLen)
  clear hs0 hz0
  generalize (bkL ss : Int) = nl at KB t1
  go_enter Tryd.func35, Tryd.ntmps35
  go_wp2_with (fail)
  (go_at_call 51; refine (KB.out).mono ?_; rintro e w1 ⟨rfl, hb1⟩)
  have HB1 := Lib.hid hb1
  have e1 := (hb1.cell (p := ⟨A', off', none⟩) hA').trans e0
  have c1 := (hb1.cell (p := ⟨A, off, none⟩) hA).trans c0
  clear hb1 e0 c0
  go_wp2_with (fail)
  have hst0 : ∀ W0, W0 = (((w1.alloc (newRd w1 s0)).alloc (.cells #[.slice (some ⟨w1.heap.size, 0, none⟩) s0.size (rcap w1 s0), .pointer none, .slice none 0 0] 65)).alloc (.cells #[.pointer (some ⟨w1.heap.size + 1, 0, none⟩)] 63)).drew →
      TreeI w.heap.size W0 (.slice (some ⟨w1.heap.size + 1 + 1, 0, none⟩) 1 1) [⟨w1.heap.size + 1, w1.heap.size, rcap w1 s0, .slice none 0 0⟩] (bka ss) st ∧ Below w.heap.size w W0 := by
    rintro W0 rfl
    have hz := HB1.out.size
    obtain ⟨q1, q2, q3⟩ := alloc3_heap w1 (newRd w1 s0) (.cells #[.slice (some ⟨w1.heap.size, 0, none⟩) s0.size (rcap w1 s0), .pointer none, .slice none 0 0] 65) (.cells #[.pointer (some ⟨w1.heap.size + 1, 0, none⟩)] 63)
    refine ⟨TreeI.start (rc := rcap w1 s0) (cur := bytesRow s0 (rcap w1 s0)) (by omega) (by omega) (by omega) ?_ ?_ q3, ?_⟩
    · rw [HB0.out]; exact q2
    · rw [HB0.out]; exact RbAt.new q1 HZ0.out
    · have b1 := HB1.out.alloc hz (newRd w1 s0)
      have b2 := b1.alloc b1.size (.cells #[.slice (some ⟨w1.heap.size, 0, none⟩) s0.size (rcap w1 s0), .pointer none, .slice none 0 0] 65)
      exact (b2.alloc b2.size _).drew
  have HST0 := Lib.hid hst0
  clear hst0
  obtain ⟨W0, hW0⟩ : ∃ W0, W0 = (((w1.alloc (newRd w1 s0)).alloc (.cells #[.slice (some ⟨w1.heap.size, 0, none⟩) s0.size (rcap w1 s0), .pointer none, .slice none 0 0] 65)).alloc (.cells #[.pointer (some ⟨w1.heap.size + 1, 0, none⟩)] 63)).drew := ⟨_, rfl⟩
  rw [← hW0]
  obtain ⟨hT0, hbW0⟩ := HST0.out W0 hW0
  have HT0 := Lib.hid hT0
  have HBW0 := Lib.hid hbW0
  clear hW0 hT0 hbW0 HST0 kc e1 c1
  go_loopw [8, 9] (fun v i wr => ∃ bs : List BkR, 1 ≤ bs.length ∧ bs.length ≤ st.length ∧ i = .int .i64 (bs.length : Int) ∧ StTo st bs.length ∧ TreeI w.heap.size wr v bs (bka ss) st ∧ Below w.heap.size w wr) (fun _ i _ => st.length - (intOf i).toNat)
  case atStart => exact ⟨[⟨w1.heap.size + 1, w1.heap.size, rcap w1 s0, .slice none 0 0⟩], Nat.le_refl _, s1, rfl, StTo.one st, HT0.out, HBW0.out⟩
  case round =>
    obtain ⟨bs, hb1, hb2, rfl, hto, hT, hbw⟩ := hrel
    obtain ⟨g, cap, hv, hg0, hgs, hcap, hmax, hpt⟩ := hT.row_form hb1
    have HTO := Lib.hid hto
    have HT := Lib.hid hT
    have HBW := Lib.hid hbw
    have hBz := hbw.size
    rw [hv] at HT ⊢
    clear hv hT hto
    by_cases hlt : bs.length < st.length
    · have e1 := (hbw.cell (p := ⟨A', off' + bs.length, none⟩) hA').trans (HC'.out _ hlt)
      have b0 : (0 : Int) ≤ (bs.length : Int) := by omega
      have b1 : (bs.length : Int) < (st.length : Int) := by omega
      have b2 : (bs.length : Int) < (ss.length : Int) := by have := H3.out; omega
      by_cases hz1 : 0 ≤ st.getD bs.length 0
      case neg =>
        have HN := Lib.hid (fun hb => Treed.no (w := w) (w' := wr) (svl_no5 (ss := ss) (st := st) hlt (by omega) (by omega)) hb)
        generalize st.getD bs.length 0 = z at e1 hz1
        have t4 : decide (z < 0) = true := decide_eq_true (by omega)
        have HX := Lib.hid (HN.out hbw)
        clear hz1 HN hbw
        go_wp2
        go_ret2
        exact HX.out
      by_cases hz2 : st.getD bs.length 0 < (bs.length : Int)
      case neg =>
        have HN := Lib.hid (fun hb => Treed.no (w := w) (w' := wr) (svl_no5 (ss := ss) (st := st) hlt (by omega) (by omega)) hb)
        generalize st.getD bs.length 0 = z at e1 hz1 hz2
        have t4 : decide (z < 0) = false := decide_eq_false (by omega)
        have t5 : decide ((bs.length : Int) ≤ z) = true := decide_eq_true (by omega)
        have HX := Lib.hid (HN.out hbw)
        clear hz1 hz2 HN hbw
        go_wp2
        go_ret2
        exact HX.out
      obtain ⟨p, hp⟩ : ∃ p : Nat, st.getD bs.length 0 = (p : Int) := ⟨(st.getD bs.length 0).toNat, by omega⟩
      have HTO2 : Hid (StTo st (bs.length + 1)) := HTO.out.next hz1 hz2
      rw [hp] at e1 hz2
      have HPP := Lib.hid hp
      have hpl : p < bs.length := by omega
      obtain ⟨bp, hbp⟩ : ∃ b, bs[p]? = some b := ⟨bs[p], List.getElem?_eq_getElem hpl⟩
      obtain ⟨t, ht⟩ := ss_get (ss := ss) (k := bs.length) (by have := H3.out; omega)
      have f1 := hpt p hpl
      rw [pv_get hbp] at f1
      have f2 := (hbw.cell (p := ⟨A, off + bs.length, none⟩) hA).trans (HC.out _ t ht)
      have hpA := HT.out.at_ p bp hbp
      have HPA := Lib.hid hpA
      have f3 : wr.cell? ⟨bp.P, 2, none⟩ = some bp.cv := by simp [World.cell?, hpA.blk]
      have f4 : ∀ o, wr.frozen? ⟨bp.P, o, none⟩ = false := fun o => by simp [World.frozen?, hpA.blk]
      have hPs := lt_of_heap hpA.blk
      have HBP := Lib.hid hbp
      have HBT : Hid (bka ss bs.length = t) := bka_get ht
      have htz := (HALL.out _ t ht).1
      have HZT : Hid (t.size ≤ maxLen) := (by unfold maxLen; omega : t.size ≤ maxLen)
      have kc := conv_bytes t
      have t4 : decide ((p : Int) < 0) = false := decide_eq_false (by omega)
      have t5 : decide ((bs.length : Int) ≤ (p : Int)) = false := decide_eq_false (by omega)
      have t6 : decide (bs.length ≤ p) = false := decide_eq_false (by omega)
      have p0 : (0 : Int) ≤ (p : Int) := by omega
      have p1 : (p : Int) < (bs.length : Int) := by omega
      have hkl := kids_len st p bs.length
      have hst2 : ∀ W2, W2 = ((wr.alloc (newRd wr t)).alloc (.cells #[.slice (some ⟨wr.heap.size, 0, none⟩) t.size (rcap wr t), .pointer (some ⟨bp.P, 0, none⟩), .slice none 0 0] 65)).drew →
          Below wr.heap.size wr W2 ∧ W2.heap.size = wr.heap.size + 1 + 1 ∧ W2.heap[wr.heap.size + 1]? = some (.cells #[.slice (some ⟨wr.heap.size, 0, none⟩) (bka ss bs.length).size (rcap wr t), .pointer (some ⟨bp.P, 0, none⟩), .slice none 0 0] 65 (0, 0)) ∧
          RbAt W2 wr.heap.size (rcap wr t) (bka ss bs.length) (bytesRow t (rcap wr t)) := by
        rintro W2 rfl
        obtain ⟨q1, q2⟩ := alloc2_heap wr (newRd wr t) (.cells #[.slice (some ⟨wr.heap.size, 0, none⟩) t.size (rcap wr t), .pointer (some ⟨bp.P, 0, none⟩), .slice none 0 0] 65)
        refine ⟨?_, by show ((wr.alloc _).alloc _).heap.size = _; rw [World.size_alloc, World.size_alloc], ?_, ?_⟩
        · have c1 := (Below.refl wr.heap.size wr).alloc (Nat.le_refl _) (newRd wr t)
          exact (c1.alloc c1.size _).drew
        · rw [HBT.out]; exact q2
        · rw [HBT.out]; exact RbAt.new q1 HZT.out
      have HST2 := Lib.hid hst2
      clear hst2 hp hz1 hz2 hbp hpA ht htz hpt hbw
      go_upto_region 12 with (fail)
      obtain ⟨W2, hW2⟩ : ∃ W2, W2 = ((wr.alloc (newRd wr t)).alloc (.cells #[.slice (some ⟨wr.heap.size, 0, none⟩) t.size (rcap wr t), .pointer (some ⟨bp.P, 0, none⟩), .slice none 0 0] 65)).drew := ⟨_, rfl⟩
      rw [← hW2]
      obtain ⟨hb2w, hz2w, hP2, hR2⟩ := HST2.out W2 hW2
      have HB2 := Lib.hid hb2w
      have HZ2 := Lib.hid hz2w
      have HP2 := Lib.hid hP2
      have HR2 := Lib.hid hR2
      have f3 := (hb2w.cell (p := ⟨bp.P, 2, none⟩) hPs).trans f3
      have hown := own_keep HPA.out.kid (fun g _ hg => hb2w.block g hg)
      have hBz2 : w.heap.size ≤ W2.heap.size := by omega
      clear hW2 hb2w hP2 hR2 hz2w HST2 kc f1 f2 e1
      obtain ⟨cv, hcv⟩ : ∃ cv, bp.cv = cv := ⟨_, rfl⟩
      obtain ⟨K, hK⟩ : ∃ K, (kids st p bs.length).length = K := ⟨_, rfl⟩
      rw [hcv] at f3
      rw [hcv, hK] at hown
      rw [hK] at hkl
      have HCV := Lib.hid hcv
      have HK := Lib.hid hK
      have HG4 : Hid (∀ W4 v4, (W2.alloc (.cells #[.pointer (some ⟨wr.heap.size + 1, 0, none⟩)] 63)).grownBy W4 cv.ownBlock → _) := fun W4 v4 hg => HT.out.row5 (v4 := v4) HBP.out HB2.out (by rw [HCV.out]; exact hg)
      have HLT := Lib.hid (lt_of_heap HP2.out)
      clear hcv hK
      go_wp2_with (at_builtin; refine wpList_append_own_at _ rfl _ _ 49 rfl w.heap.size 63 i0 (.pointer none) 1 8 Tryd.underlying49 hi hq0 hq1 hq2 rfl (by decide) _ _ _ rfl (hown.alloc _) ⟨W2.heap.size, 0, none⟩ 1 1 [.pointer (some ⟨wr.heap.size + 1, 0, none⟩)] rfl rfl (cell_one_new _ _ _) pt_one (by unfold maxLen; omega) (by omega) (by simp; omega) ?_)
      intro v4 W4 hown4 hg4 _ hl4
      obtain ⟨g4, cap4, hv4⟩ := own_slice hown4
      subst hv4
      obtain ⟨hown5, ⟨_, ⟨u5, hu5, _⟩, hf5⟩⟩ := HG4.out W4 (.slice (some ⟨g4, 0, none⟩) (K + 1) cap4) hg4
      have hz4 := hg4.size
      have HOWN4 := Lib.hid hown4
      have HGR4 := Lib.hid hg4
      have HL4 := Lib.hid hl4
      clear hown4 hg4 hl4 hown f3
      go_upto_region 13 with (fail)
      obtain ⟨W5, hW5⟩ : ∃ W5, W5 = W4.setCell ⟨bp.P, 2, none⟩ (.slice (some ⟨g4, 0, none⟩) (K + 1) cap4) := ⟨_, rfl⟩
      rw [← hW5] at hown5 ⊢
      have HW5 := Lib.hid hW5
      have hz5 : w.heap.size ≤ W5.heap.size := by
        have : W5.heap.size = W4.heap.size := by rw [hW5]; simp [World.setCell]
        have h6 : (W2.alloc (.cells #[.pointer (some ⟨wr.heap.size + 1, 0, none⟩)] 63)).heap.size = W2.heap.size + 1 := World.size_alloc _ _
        omega
      clear hW5 hu5 hf5 hz4
      go_wp2_with (at_builtin; refine wpList_append_own_at _ rfl _ _ 50 rfl w.heap.size 63 i0 (.pointer none) 1 8 Tryd.underlying50 hi hq0 hq1 hq2 rfl (by decide) _ _ _ rfl (hown5.alloc _) ⟨W5.heap.size, 0, none⟩ 1 1 [.pointer (some ⟨wr.heap.size + 1, 0, none⟩)] rfl rfl (cell_one_new _ _ _) pt_one (by unfold maxLen; omega) (by omega) (by simp; omega) ?_)
      intro v7 W7 hown7 hg7 _ hl7
      rw [HW5.out] at hg7 hl7
      have HN : Hid (TreeI w.heap.size W7 v7 (grow7 bs p bp (.slice (some ⟨g4, 0, none⟩) (K + 1) cap4) ⟨wr.heap.size + 1, wr.heap.size, rcap wr t, .slice none 0 0⟩) (bka ss) st) :=
        TreeI.step (cur := bytesRow t (rcap wr t)) HT.out HTO.out HBP.out HPP.out hBz HB2.out (by omega) (Nat.le_refl _) HP2.out HR2.out (by rw [HK.out]; exact HOWN4.out) (by rw [HCV.out]; exact HGR4.out) (by rw [HCV.out, World.size_alloc]; exact HL4.out) hown7 hg7 (by rw [World.size_alloc]; exact hl7)
      have HB7 : Hid (Below w.heap.size w W7) := HT.out.bl7 HBP.out HBW.out HB2.out (by rw [HCV.out]; exact HGR4.out) hg7
      clear hown7 hg7 hl7 hown5
      go_wp2
      go_roundw
      case rel => exact ⟨_, by rw [grow7_len]; omega, by rw [grow7_len]; omega, by rw [grow7_len]; go_num, by rw [grow7_len]; exact HTO2.out, HN.out, HB7.out⟩
      case measure => simp [intOf]; omega
    · have hke : bs.length = st.length := by omega
      have HV : Hid (svl ss st = true) := svl_yes HOK.out H2.out H3.out H4.out (by rw [← hke]; exact HTO.out)
      have HX : Hid (Treed w ss st (.returned (.tuple #[.slice (some ⟨g, 0, none⟩) bs.length cap, .bool true])) wr) :=
        ⟨_, by rw [HV.out], fun h => absurd h (by rw [HV.out]; simp), fun _ => ⟨bs, by rw [hke]; exact H3.out, HT.out⟩, HBW.out⟩
      clear hke hbw
      go_wp2
      go_ret2
      exact HX.out
end Go.Proofs.YtbeiedaldinhaaaDoor
