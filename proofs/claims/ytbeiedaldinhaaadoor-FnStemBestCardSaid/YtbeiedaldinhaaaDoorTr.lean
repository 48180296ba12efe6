/-
  The tree of a stem in memory: a block for each manuscript, one for its reading, and a row of pointers to its copies.
-/
import Derived.Test.YtbeiedaldinhaaaDoorStm
import Derived.Test.YtbeiedaldinhaaaDoorBe
import Derived.Test.YtbeiedaldinhaaaDoorIb
import Derived.Maps.AppendAt
namespace Go.Proofs.YtbeiedaldinhaaaDoor
open Go.RowKit
set_option maxRecDepth 100000
set_option linter.unusedVariables false

/-- where a manuscript lies: its block, its reading's, that one's capacity, its row of copies -/
structure BkR where
  P : Nat
  R : Nat
  rc : Nat
  cv : Value

def pv (bs : List BkR) (k : Nat) : Value := match bs[k]? with | some b => .pointer (some ⟨b.P, 0, none⟩) | none => .pointer none
theorem pv_get {bs : List BkR} {k : Nat} {b : BkR} (h : bs[k]? = some b) : pv bs k = .pointer (some ⟨b.P, 0, none⟩) := by unfold pv; rw [h]
def frmV (bs : List BkR) (st : List Int) (i : Nat) : Value := if i = 0 then .pointer none else pv bs (st.getD i 0).toNat
/-- a reading's bytes -/
structure RbAt (w : World) (R rc : Nat) (s : ByteArray) (cur : Array Value) : Prop where
  blk : w.heap[R]? = some (.cells cur 5 (rc, rc + 1))
  size : cur.size = rc
  le : s.size ≤ rc
  max : rc ≤ maxLen
  bytes : cur.toList.take s.size = btc s.data.toList

structure BookAt (B : Nat) (w : World) (bs : List BkR) (rds : Nat → ByteArray) (st : List Int) (n i : Nat) (b : BkR) : Prop where
  hP : B ≤ b.P
  hR : B ≤ b.R
  blk : w.heap[b.P]? = some (.cells #[.slice (some ⟨b.R, 0, none⟩) (rds i).size b.rc, frmV bs st i, b.cv] 65 (0, 0))
  rd : ∃ cur, RbAt w b.R b.rc (rds i) cur
  kid : w.ownsRow B 63 1 b.cv (kids st i n).length ((kids st i n).map (pv bs))

structure TreeI (B : Nat) (w : World) (v : Value) (bs : List BkR) (rds : Nat → ByteArray) (st : List Int) : Prop where
  at_ : ∀ (i : Nat) (b : BkR), bs[i]? = some b → BookAt B w bs rds st bs.length i b
  sep : ∀ (i j : Nat) (a b : BkR), bs[i]? = some a → bs[j]? = some b → i ≠ j → a.P ≠ b.P ∧ a.R ≠ b.R ∧ ∀ g, a.cv.ownBlock = some g → b.cv.ownBlock ≠ some g
  row : w.ownsRow B 63 1 v bs.length ((List.range bs.length).map (pv bs))
  rsep : ∀ (i : Nat) (b : BkR), bs[i]? = some b → ∀ g, v.ownBlock = some g → b.cv.ownBlock ≠ some g

theorem lt_of_heap {w : World} {g : Nat} {o : Obj} (h : w.heap[g]? = some o) : g < w.heap.size := by
  rcases Nat.lt_or_ge g w.heap.size with h1 | h1
  · exact h1
  · rw [Array.getElem?_eq_none h1] at h; cases h
/-- a row's own block holds cells of its kind -/
theorem own_kind {w : World} {B n g : Nat} {e : TypeId} {v : Value} {xs : List Value} (h : w.ownsRow B e 1 v n xs) (hg : v.ownBlock = some g) : ∃ cur, w.heap[g]? = some (.cells cur e (0, 0)) := by
  obtain ⟨_, h | ⟨g', cap, cur, rfl, hb, hh, _⟩⟩ := h
  · rw [h.1] at hg; simp [Value.ownBlock] at hg
  · have e : g' = g := by simpa [Value.ownBlock] using hg
    subst e
    exact ⟨cur, hh⟩
theorem own_keep {w w' : World} {B n : Nat} {e : TypeId} {v : Value} {xs : List Value} (h : w.ownsRow B e 1 v n xs) (hk : ∀ g, v.ownBlock = some g → g < w.heap.size → w'.heap[g]? = w.heap[g]?) : w'.ownsRow B e 1 v n xs := by
  obtain ⟨hl, h | ⟨g, cap, cur, rfl, hb, hh, hr⟩⟩ := h
  · exact ⟨hl, .inl h⟩
  · exact ⟨hl, .inr ⟨g, cap, cur, rfl, hb, (hk g rfl (lt_of_heap hh)).trans hh, hr⟩⟩
theorem kind_ne {w : World} {g k : Nat} {c d : Array Value} {e f : TypeId} {m n : Nat × Nat} (h : w.heap[g]? = some (.cells c e m)) (k' : w.heap[k]? = some (.cells d f n)) (hef : e ≠ f) : g ≠ k := by
  rintro rfl
  rw [h] at k'
  injection k' with k'
  injection k' with _ k' _
  exact hef k'

theorem TreeI.below {B : Nat} {w w' : World} {v : Value} {bs : List BkR} {rds : Nat → ByteArray} {st : List Int} (h : TreeI B w v bs rds st) (hb : Below w.heap.size w w') : TreeI B w' v bs rds st := by
  refine ⟨fun i b hi => ?_, h.sep, own_keep h.row fun g _ hg => hb.block g hg, h.rsep⟩
  have hA := h.at_ i b hi
  obtain ⟨cur, hr⟩ := hA.rd
  exact ⟨hA.hP, hA.hR, (hb.block _ (lt_of_heap hA.blk)).trans hA.blk, ⟨cur, (hb.block _ (lt_of_heap hr.blk)).trans hr.blk, hr.size, hr.le, hr.max, hr.bytes⟩, own_keep hA.kid fun g _ hg => hb.block g hg⟩

/-- the list of places when one more manuscript, copied from p, has been put in -/
def grow7 (bs : List BkR) (p : Nat) (bp : BkR) (v4 : Value) (nw : BkR) : List BkR := bs.set p { bp with cv := v4 } ++ [nw]
theorem grow7_len (bs : List BkR) (p : Nat) (bp : BkR) (v4 : Value) (nw : BkR) : (grow7 bs p bp v4 nw).length = bs.length + 1 := by simp [grow7]
theorem grow7_get {bs : List BkR} {p : Nat} {bp : BkR} {v4 : Value} {nw b : BkR} {i : Nat} (hp : p < bs.length) (h : (grow7 bs p bp v4 nw)[i]? = some b) :
    (i ≠ p ∧ i < bs.length ∧ bs[i]? = some b) ∨ (i = p ∧ b = { bp with cv := v4 }) ∨ (i = bs.length ∧ b = nw) := by
  unfold grow7 at h
  rcases Nat.lt_or_ge i bs.length with hi | hi
  · rw [List.getElem?_append_left (by simpa using hi)] at h
    by_cases e : i = p
    · subst e
      rw [List.getElem?_set_self hp] at h
      exact .inr (.inl ⟨rfl, (Option.some.inj h).symm⟩)
    · rw [List.getElem?_set_ne (Ne.symm e)] at h
      exact .inl ⟨e, hi, h⟩
  · rw [List.getElem?_append_right (by simpa using hi)] at h
    simp only [List.length_set] at h
    by_cases e : i = bs.length
    · subst e
      rw [Nat.sub_self] at h
      exact .inr (.inr ⟨rfl, (Option.some.inj h).symm⟩)
    · rw [List.getElem?_eq_none (by simp; omega)] at h
      cases h
theorem grow7_pv {bs : List BkR} {p : Nat} {bp : BkR} {v4 : Value} {nw : BkR} {k : Nat} (hp : bs[p]? = some bp) (hk : k < bs.length) : pv (grow7 bs p bp v4 nw) k = pv bs k := by
  have hpl := (List.getElem?_eq_some_iff.1 hp).1
  have h : ∃ b, (grow7 bs p bp v4 nw)[k]? = some b := ⟨_, List.getElem?_eq_getElem (by rw [grow7_len]; omega)⟩
  obtain ⟨b, hb⟩ := h
  rcases grow7_get hpl hb with ⟨_, _, h⟩ | ⟨rfl, rfl⟩ | ⟨h, _⟩
  · rw [pv_get hb, pv_get h]
  · rw [pv_get hb, pv_get hp]
  · omega
theorem grow7_pn (bs : List BkR) (p : Nat) (bp : BkR) (v4 : Value) (nw : BkR) : pv (grow7 bs p bp v4 nw) bs.length = .pointer (some ⟨nw.P, 0, none⟩) := by
  refine pv_get ?_
  unfold grow7
  rw [List.getElem?_append_right (by simp)]
  simp
theorem frm_grow {bs : List BkR} {st : List Int} {p i n : Nat} {bp : BkR} {v4 : Value} {nw : BkR} (hp : bs[p]? = some bp) (hn : n = bs.length) (hst : StTo st n) (hi : i < n) : frmV (grow7 bs p bp v4 nw) st i = frmV bs st i := by
  unfold frmV
  by_cases h0 : i = 0
  · rw [if_pos h0, if_pos h0]
  · rw [if_neg h0, if_neg h0]
    have := hst i hi (by omega)
    exact grow7_pv hp (by omega)

set_option maxHeartbeats 2000000 in
theorem TreeI.step {B : Nat} {w W2 W4 W7 : World} {v v4 v7 : Value} {bs : List BkR} {rds : Nat → ByteArray} {st : List Int} {p : Nat} {bp : BkR} {P R rc : Nat} {o3 o6 : Obj} {cur : Array Value}
    (h : TreeI B w v bs rds st) (hst : StTo st bs.length) (hp : bs[p]? = some bp) (hn : st.getD bs.length 0 = (p : Int)) (hB : B ≤ w.heap.size)
    (h2 : Below w.heap.size w W2) (hP1 : w.heap.size ≤ P) (hR1 : w.heap.size ≤ R)
    (hP2 : W2.heap[P]? = some (.cells #[.slice (some ⟨R, 0, none⟩) (rds bs.length).size rc, .pointer (some ⟨bp.P, 0, none⟩), .slice none 0 0] 65 (0, 0)))
    (hR2 : RbAt W2 R rc (rds bs.length) cur)
    (hown4 : W4.ownsRow B 63 1 v4 ((kids st p bs.length).length + 1) ((kids st p bs.length).map (pv bs) ++ [.pointer (some ⟨P, 0, none⟩)]))
    (hg4 : (W2.alloc o3).grownBy W4 bp.cv.ownBlock) (hl4 : v4.ownBlock = bp.cv.ownBlock ∨ v4.ownBlock = some (W2.alloc o3).heap.size)
    (hown7 : W7.ownsRow B 63 1 v7 (bs.length + 1) ((List.range bs.length).map (pv bs) ++ [.pointer (some ⟨P, 0, none⟩)]))
    (hg7 : ((W4.setCell ⟨bp.P, 2, none⟩ v4).alloc o6).grownBy W7 v.ownBlock) (hl7 : v7.ownBlock = v.ownBlock ∨ v7.ownBlock = some ((W4.setCell ⟨bp.P, 2, none⟩ v4).alloc o6).heap.size) :
    TreeI B W7 v7 (grow7 bs p bp v4 ⟨P, R, rc, .slice none 0 0⟩) rds st := by
  have hpl := (List.getElem?_eq_some_iff.1 hp).1
  have hpA := h.at_ p bp hp
  have hPs := lt_of_heap hpA.blk
  have hz2 := h2.size
  have hz3 : (W2.alloc o3).heap.size = W2.heap.size + 1 := by simp
  have hz4 := hg4.size
  have hz5 : (W4.setCell ⟨bp.P, 2, none⟩ v4).heap.size = W4.heap.size := by simp [World.setCell]
  have hz6 : ((W4.setCell ⟨bp.P, 2, none⟩ v4).alloc o6).heap.size = W4.heap.size + 1 := by rw [World.size_alloc, hz5]
  have hz7 := hg7.size
  -- what is kept from W2 on
  have k3 : ∀ g, g < W2.heap.size → (W2.alloc o3).heap[g]? = W2.heap[g]? := fun g hg => ((Below.refl W2.heap.size W2).alloc (Nat.le_refl _) o3).block g hg
  have k4 : ∀ g, g < W2.heap.size → bp.cv.ownBlock ≠ some g → W4.heap[g]? = W2.heap[g]? := fun g hg hne => (hg4.block g (by omega) (fun e => hne e.symm)).trans (k3 g hg)
  have k5 : ∀ g, g ≠ bp.P → (W4.setCell ⟨bp.P, 2, none⟩ v4).heap[g]? = W4.heap[g]? := fun g hne => by
    simp only [World.setCell, Array.getElem?_modify]
    rw [if_neg (Ne.symm hne)]
  have k6 : ∀ g, g < W4.heap.size → ((W4.setCell ⟨bp.P, 2, none⟩ v4).alloc o6).heap[g]? = (W4.setCell ⟨bp.P, 2, none⟩ v4).heap[g]? := fun g hg => ((Below.refl _ (W4.setCell ⟨bp.P, 2, none⟩ v4)).alloc (Nat.le_refl _) o6).block g (by rw [hz5]; exact hg)
  have k7 : ∀ g, g < W4.heap.size → v.ownBlock ≠ some g → W7.heap[g]? = (W4.setCell ⟨bp.P, 2, none⟩ v4).heap[g]? := fun g hg hne => (hg7.block g (by omega) (fun e => hne e.symm)).trans (k6 g hg)
  have kall : ∀ g, g < W2.heap.size → bp.cv.ownBlock ≠ some g → g ≠ bp.P → v.ownBlock ≠ some g → W7.heap[g]? = W2.heap[g]? := fun g hg a b c => (k7 g (by omega) c).trans ((k5 g b).trans (k4 g hg a))
  have kold : ∀ g, g < w.heap.size → bp.cv.ownBlock ≠ some g → g ≠ bp.P → v.ownBlock ≠ some g → W7.heap[g]? = w.heap[g]? := fun g hg a b c => (kall g (by omega) a b c).trans (h2.block g hg)
  -- rows' blocks are old, and of their kind
  have xk : ∀ g, bp.cv.ownBlock = some g → ∃ c, w.heap[g]? = some (.cells c 63 (0, 0)) := fun g hg => own_kind hpA.kid hg
  have vk : ∀ g, v.ownBlock = some g → ∃ c, w.heap[g]? = some (.cells c 63 (0, 0)) := fun g hg => own_kind h.row hg
  have ne1 : ∀ g c e m, w.heap[g]? = some (.cells c e m) → e ≠ 63 → bp.cv.ownBlock ≠ some g ∧ v.ownBlock ≠ some g := fun g c e m hg he =>
    ⟨fun x => by obtain ⟨c', hc'⟩ := xk g x; exact kind_ne hg hc' he rfl, fun x => by obtain ⟨c', hc'⟩ := vk g x; exact kind_ne hg hc' he rfl⟩
  have newer : ∀ g, w.heap.size ≤ g → bp.cv.ownBlock ≠ some g ∧ v.ownBlock ≠ some g ∧ g ≠ bp.P := fun g hg =>
    ⟨fun x => by obtain ⟨c', hc'⟩ := xk g x; have := lt_of_heap hc'; omega, fun x => by obtain ⟨c', hc'⟩ := vk g x; have := lt_of_heap hc'; omega, by omega⟩
  have hPR2 := lt_of_heap hP2
  have hRR2 := lt_of_heap hR2.blk
  obtain ⟨np1, np2, np3⟩ := newer P hP1
  obtain ⟨nr1, nr2, nr3⟩ := newer R hR1
  have hP7 : W7.heap[P]? = _ := (kall P hPR2 np1 np3 np2).trans hP2
  have hR7 : W7.heap[R]? = _ := (kall R hRR2 nr1 nr3 nr2).trans hR2.blk
  -- the block of the one that was copied from
  have hpb : W7.heap[bp.P]? = some (.cells #[.slice (some ⟨bp.R, 0, none⟩) (rds p).size bp.rc, frmV bs st p, v4] 65 (0, 0)) := by
    obtain ⟨e1, e2⟩ := ne1 _ _ _ _ hpA.blk (by decide)
    rw [k7 _ (by omega) e2]
    have e3 : W4.heap[bp.P]? = _ := (k4 _ (by omega) e1).trans ((h2.block _ hPs).trans hpA.blk)
    simp only [World.setCell, Array.getElem?_modify, if_true, e3, Option.map_some]
    simp
  -- the row of copies that has grown
  have v4k : ∀ g, v4.ownBlock = some g → W7.heap[g]? = W4.heap[g]? := fun g hg => by
    obtain ⟨c4, hc4⟩ := own_kind hown4 hg
    have hb4 : W4.heap[bp.P]? = _ := (k4 bp.P (by omega) (ne1 _ _ _ _ hpA.blk (by decide)).1).trans ((h2.block _ hPs).trans hpA.blk)
    have n1 : g ≠ bp.P := kind_ne hc4 hb4 (by decide)
    have n2 : v.ownBlock ≠ some g := fun x => by
      rcases hl4 with e | e
      · exact h.rsep p bp hp g x (e ▸ hg)
      · rw [e] at hg
        have e5 : (W2.alloc o3).heap.size = g := Option.some.inj hg
        obtain ⟨c', hc'⟩ := vk g x
        have := lt_of_heap hc'
        omega
    exact (k7 g (lt_of_heap hc4) n2).trans (k5 g n1)
  have kp : (kids st p (bs.length + 1)) = kids st p bs.length ++ [bs.length] := kids_yes (by omega) hn
  have kmap : ∀ i, i < bs.length → (kids st i bs.length).map (pv (grow7 bs p bp v4 ⟨P, R, rc, .slice none 0 0⟩)) = (kids st i bs.length).map (pv bs) := fun i hi =>
    List.map_congr_left fun k hk => grow7_pv hp (kids_mem hk).1
  have hpn := grow7_pn bs p bp v4 ⟨P, R, rc, .slice none 0 0⟩
  refine ⟨fun i b hb => ?_, fun i j a b ha hb hij => ?_, ?_, fun i b hb g hg => ?_⟩
  · rw [grow7_len]
    rcases grow7_get hpl hb with ⟨hip, hil, hb⟩ | ⟨rfl, rfl⟩ | ⟨rfl, rfl⟩
    · have hA := h.at_ i b hb
      obtain ⟨c, hc⟩ := hA.rd
      obtain ⟨a1, a2⟩ := ne1 _ _ _ _ hA.blk (by decide)
      obtain ⟨b1, b2⟩ := ne1 _ _ _ _ hc.blk (by decide)
      have hne := h.sep i p b bp hb hp hip
      refine ⟨hA.hP, hA.hR, ?_, ⟨c, ?_, hc.size, hc.le, hc.max, hc.bytes⟩, ?_⟩
      · rw [frm_grow hp rfl hst hil]
        exact (kold _ (lt_of_heap hA.blk) a1 hne.1 a2).trans hA.blk
      · exact (kold _ (lt_of_heap hc.blk) b1 (kind_ne hc.blk hpA.blk (by decide)) b2).trans hc.blk
      · rw [kids_no (by rw [hn]; omega), kmap i hil]
        refine own_keep hA.kid fun g hg hgs => kold g hgs (fun x => hne.2.2 g hg x) ?_ (fun x => h.rsep i b hb g x hg)
        obtain ⟨c', hc'⟩ := own_kind hA.kid hg
        exact kind_ne hc' hpA.blk (by decide)
    · obtain ⟨c, hc⟩ := hpA.rd
      obtain ⟨b1, b2⟩ := ne1 _ _ _ _ hc.blk (by decide)
      refine ⟨hpA.hP, hpA.hR, ?_, ⟨c, ?_, hc.size, hc.le, hc.max, hc.bytes⟩, ?_⟩
      · rw [frm_grow hp rfl hst hpl]
        exact hpb
      · exact (kold _ (lt_of_heap hc.blk) b1 (kind_ne hc.blk hpA.blk (by decide)) b2).trans hc.blk
      · rw [kp, List.length_append, List.map_append, kmap i hpl, List.map_cons, List.map_nil, hpn]
        exact own_keep hown4 fun g hg _ => v4k g hg
    · refine ⟨by show B ≤ P; omega, by show B ≤ R; omega, ?_, ⟨cur, hR7, hR2.size, hR2.le, hR2.max, hR2.bytes⟩, ?_⟩
      · have hf : frmV (grow7 bs p bp v4 ⟨P, R, rc, .slice none 0 0⟩) st bs.length = .pointer (some ⟨bp.P, 0, none⟩) := by
          unfold frmV
          rw [if_neg (by omega), hn, Int.toNat_natCast, grow7_pv hp hpl, pv_get hp]
        rw [hf]
        exact hP7
      · have hst' : StTo st (bs.length + 1) := hst.next (by omega) (by omega)
        rw [kids_zero _ hst' (Nat.le_refl _)]
        exact ⟨rfl, .inl ⟨rfl, rfl⟩⟩
  · have oldcv : ∀ (i : Nat) (b : BkR), bs[i]? = some b → ∀ g, b.cv.ownBlock = some g → g < w.heap.size := fun i b hb g hg => by
      obtain ⟨c', hc'⟩ := own_kind (h.at_ i b hb).kid hg
      exact lt_of_heap hc'
    rcases grow7_get hpl ha with ⟨hip, hil, ha'⟩ | ⟨rfl, rfl⟩ | ⟨rfl, rfl⟩
    · have hAa := h.at_ i a ha'
      have hAs := lt_of_heap hAa.blk
      obtain ⟨ca, hca⟩ := hAa.rd
      have hRs := lt_of_heap hca.blk
      rcases grow7_get hpl hb with ⟨hjp, hjl, hb'⟩ | ⟨rfl, rfl⟩ | ⟨rfl, rfl⟩
      · exact h.sep i j a b ha' hb' hij
      · have := h.sep i j a bp ha' hp hij
        refine ⟨this.1, this.2.1, fun g hg => ?_⟩
        rcases hl4 with e | e
        · show v4.ownBlock ≠ some g
          rw [e]; exact this.2.2 g hg
        · show v4.ownBlock ≠ some g
          rw [e]
          have := oldcv i a ha' g hg
          intro e2
          have := Option.some.inj e2
          omega
      · refine ⟨by show a.P ≠ P; omega, by show a.R ≠ R; omega, fun g hg => ?_⟩
        show (none : Option Nat) ≠ some g
        simp
    · obtain ⟨ca, hca⟩ := hpA.rd
      have hRs := lt_of_heap hca.blk
      rcases grow7_get hpl hb with ⟨hjp, hjl, hb'⟩ | ⟨h1, h2'⟩ | ⟨rfl, rfl⟩
      · have := h.sep i j bp b hp hb' hij
        refine ⟨this.1, this.2.1, fun g hg => ?_⟩
        have hg : v4.ownBlock = some g := hg
        rcases hl4 with e | e
        · exact this.2.2 g (e ▸ hg)
        · rw [e] at hg
          have e5 : (W2.alloc o3).heap.size = g := Option.some.inj hg
          intro e2
          have := oldcv j b hb' g e2
          omega
      · exact absurd h1.symm hij
      · refine ⟨by show bp.P ≠ P; omega, by show bp.R ≠ R; omega, fun g hg => ?_⟩
        show (none : Option Nat) ≠ some g
        simp
    · rcases grow7_get hpl hb with ⟨hjp, hjl, hb'⟩ | ⟨rfl, rfl⟩ | ⟨h1, h2'⟩
      · have hAb := h.at_ j b hb'
        have hBs := lt_of_heap hAb.blk
        obtain ⟨cb, hcb⟩ := hAb.rd
        have hRs := lt_of_heap hcb.blk
        exact ⟨by show P ≠ b.P; omega, by show R ≠ b.R; omega, fun g hg => by cases hg⟩
      · obtain ⟨cb, hcb⟩ := hpA.rd
        have hRs := lt_of_heap hcb.blk
        exact ⟨by show P ≠ bp.P; omega, by show R ≠ bp.R; omega, fun g hg => by cases hg⟩
      · exact absurd h1.symm hij
  · rw [grow7_len, List.range_succ, List.map_append, List.map_cons, List.map_nil, hpn]
    have e : (List.range bs.length).map (pv (grow7 bs p bp v4 ⟨P, R, rc, .slice none 0 0⟩)) = (List.range bs.length).map (pv bs) := List.map_congr_left fun k hk => grow7_pv hp (List.mem_range.1 hk)
    rw [e]
    exact hown7
  · have oldcv : ∀ (i : Nat) (b : BkR), bs[i]? = some b → ∀ g, b.cv.ownBlock = some g → g < w.heap.size := fun i b hb g hg => by
      obtain ⟨c', hc'⟩ := own_kind (h.at_ i b hb).kid hg
      exact lt_of_heap hc'
    rcases grow7_get hpl hb with ⟨hip, hil, hb⟩ | ⟨rfl, rfl⟩ | ⟨rfl, rfl⟩
    · rcases hl7 with e | e
      · exact h.rsep i b hb g (e ▸ hg)
      · rw [e] at hg
        have e5 := Option.some.inj hg
        intro e2
        have := oldcv i b hb g e2
        omega
    · show v4.ownBlock ≠ some g
      rcases hl7 with e | e
      · rw [e] at hg
        obtain ⟨c', hc'⟩ := vk g hg
        have hgs := lt_of_heap hc'
        rcases hl4 with e4 | e4
        · rw [e4]; exact h.rsep i bp hp g hg
        · rw [e4]
          intro e2
          have := Option.some.inj e2
          omega
      · rw [e] at hg
        have e5 := Option.some.inj hg
        intro e2
        obtain ⟨c4, hc4⟩ := own_kind hown4 e2
        have := lt_of_heap hc4
        omega
    · show (none : Option Nat) ≠ some g
      simp
end Go.Proofs.YtbeiedaldinhaaaDoor
