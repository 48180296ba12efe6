/-
  A queue of songs: an item is put at its end and taken from its front.
-/
import Derived.Test.YthnofdkkocpjhaaDoorSg1
import Derived.ArgAppend
namespace Go.Proofs.YthnofdkkocpjhaaDoor
open Go.RowKit
set_option maxRecDepth 100000
set_option linter.unusedVariables false

theorem infoSg : (Tryd.prog.info? 58).map (fun i => (i.zero, i.size, i.bytes)) = some (some (.pointer none), 1, 8) := by kernel_rfl

/-- a slice of pointers to songs, wherever in its block it begins -/
def Pv (w : World) (lo : Nat) (v : Value) (ps : List (Option Addr)) : Prop :=
  (v = .slice none 0 0 ∧ ps = []) ∨
  ∃ g off cap cur, v = .slice (some ⟨g, off, none⟩) ps.length cap ∧ lo ≤ g ∧ w.heap[g]? = some (.cells cur 58 (0, 0)) ∧ ps.length ≤ cap ∧ cap ≤ maxLen ∧ off + cap ≤ cur.size ∧ ∀ j p, ps[j]? = some p → cur[off + j]? = some (.pointer p)
/-- the queue in block Q -/
structure Qs (w : World) (lo Q : Nat) (v : Value) (ps : List (Option Addr)) : Prop where
  blk : w.heap[Q]? = some (.cells #[v] 56 (0, 0))
  low : lo ≤ Q
  row : Pv w lo v ps
theorem Pv.kept {w w' : World} {lo : Nat} {v : Value} {ps : List (Option Addr)} (h : Pv w lo v ps) (hk : ∀ g, v.ownBlock = some g → w'.heap[g]? = w.heap[g]?) : Pv w' lo v ps := by
  rcases h with h | ⟨g, off, cap, cur, rfl, hg, hh, r⟩
  · exact .inl h
  · exact .inr ⟨g, off, cap, cur, rfl, hg, (hk g rfl).trans hh, r⟩
theorem Pv.lt {w : World} {lo g : Nat} {v : Value} {ps : List (Option Addr)} (h : Pv w lo v ps) (hg : v.ownBlock = some g) : lo ≤ g ∧ g < w.heap.size := by
  rcases h with ⟨rfl, _⟩ | ⟨g', off, cap, cur, rfl, hl, hh, r⟩
  · simp [Value.ownBlock] at hg
  · have e : g' = g := by simpa [Value.ownBlock] using hg
    subst e
    exact ⟨hl, heap_lt hh⟩
/-- the queue's block is none of the items' -/
theorem Qs.ne {w : World} {lo Q : Nat} {v : Value} {ps : List (Option Addr)} (h : Qs w lo Q v ps) : v.ownBlock ≠ some Q := by
  intro e
  rcases h.row with ⟨rfl, _⟩ | ⟨g', off, cap, cur, rfl, hl, hh, r⟩
  · simp [Value.ownBlock] at e
  · have e' : g' = Q := by simpa [Value.ownBlock] using e
    subst e'
    rw [h.blk] at hh
    injection hh with hh
    injection hh with _ ht
    exact absurd ht (by decide)
theorem Qs.cell {w : World} {lo Q : Nat} {v : Value} {ps : List (Option Addr)} (h : Qs w lo Q v ps) : w.cell? ⟨Q, 0, none⟩ = some v := by simp [World.cell?, h.blk]
theorem Qs.free {w : World} {lo Q : Nat} {v : Value} {ps : List (Option Addr)} (h : Qs w lo Q v ps) : w.frozen? ⟨Q, 0, none⟩ = false := by simp [World.frozen?, h.blk]
theorem Qs.lt {w : World} {lo Q : Nat} {v : Value} {ps : List (Option Addr)} (h : Qs w lo Q v ps) : Q < w.heap.size := heap_lt h.blk
/-- a call that leaves the queue's blocks as they are -/
theorem Qs.kept {w w' : World} {lo Q : Nat} {v : Value} {ps : List (Option Addr)} (h : Qs w lo Q v ps) (hk : ∀ g, g = Q ∨ v.ownBlock = some g → w'.heap[g]? = w.heap[g]?) : Qs w' lo Q v ps :=
  ⟨(hk Q (.inl rfl)).trans h.blk, h.low, h.row.kept fun g hg => hk g (.inr hg)⟩
theorem Qs.below {w w' : World} {lo Q : Nat} {v : Value} {ps : List (Option Addr)} (h : Qs w lo Q v ps) (hb : Below w.heap.size w w') : Qs w' lo Q v ps :=
  h.kept fun g hg => hb.block g (by rcases hg with rfl | hg; exact h.lt; exact (h.row.lt hg).2)

/-- all but the queue's blocks stays -/
structure Qfr (w : World) (lo Q : Nat) (v : Value) (w' : World) (v' : Value) : Prop where
  bl : Below lo w w'
  oth : ∀ A, A < w.heap.size → A ≠ Q → v.ownBlock ≠ some A → w'.heap[A]? = w.heap[A]? ∧ v'.ownBlock ≠ some A
  sgs : SgKept w w'
theorem heap_setCell_ne (w : World) (Q : Nat) (v : Value) {k : Nat} (h : k ≠ Q) : (w.setCell ⟨Q, 0, none⟩ v).heap[k]? = w.heap[k]? := Below.heap_setCell w ⟨Q, 0, none⟩ v k h
theorem heap_setCell_at {w : World} {Q : Nat} {v v' : Value} {t : TypeId} (h : w.heap[Q]? = some (.cells #[v] t (0, 0))) : (w.setCell ⟨Q, 0, none⟩ v').heap[Q]? = some (.cells #[v'] t (0, 0)) := one_setCell h

def TakenSg (w : World) (lo Q : Nat) (v : Value) (p : Option Addr) (ps : List (Option Addr)) (e : Ending) (w' : World) : Prop :=
  e = .returned (.tuple #[.pointer p, .bool true]) ∧ ∃ v', Qs w' lo Q v' ps ∧ Qfr w lo Q v w' v'

set_option maxHeartbeats 4000000 in
theorem take_none (lo Q : Nat) (v : Value) (w : World) (h : Qs w lo Q v []) :
    Calls Tryd.prog 28 #[.pointer (some ⟨Q, 0, none⟩)] w (fun e w' => e = .returned (.tuple #[.pointer none, .bool false]) ∧ w' = w) := by
  have cq := h.cell
  have hrow := h.row
  clear h
  obtain ⟨ao, cap, rfl⟩ : ∃ ao cap, v = .slice ao 0 cap := by
    rcases hrow with ⟨rfl, _⟩ | ⟨g, off, cap, cur, rfl, _⟩
    · exact ⟨_, _, rfl⟩
    · exact ⟨_, _, rfl⟩
  clear hrow
  go_enter Tryd.func28, Tryd.ntmps28
  go_wp2
  go_ret2
  exact ⟨rfl, rfl⟩

set_option maxHeartbeats 4000000 in
theorem take_some (lo Q : Nat) (v : Value) (p : Option Addr) (ps : List (Option Addr)) (w : World) (h : Qs w lo Q v (p :: ps)) :
    Calls Tryd.prog 28 #[.pointer (some ⟨Q, 0, none⟩)] w (TakenSg w lo Q v p ps) := by
  have cq := h.cell
  have fq := h.free
  have hne := h.ne
  obtain ⟨hb, hl, h | ⟨g, off, cap, cur, hv, hg, hh, hn, hm, hc, hall⟩⟩ := h
  · cases h.2
  have hgQ : g ≠ Q := fun e => hne (by simp [hv, Value.ownBlock, e])
  obtain ⟨n, hpl⟩ : ∃ n, ps.length = n := ⟨_, rfl⟩
  simp only [List.length_cons, hpl] at hn hv
  have HE : Hid (∀ off', (off' = off ∧ cap = 1 ∨ off' = off + 1) → TakenSg w lo Q v p ps (.returned (.tuple #[.pointer p, .bool true])) (w.setCell ⟨Q, 0, none⟩ (.slice (some ⟨g, off', none⟩) n (cap - 1)))) := fun off' ho => by
    refine ⟨rfl, _, ⟨heap_setCell_at hb, hl, .inr ⟨g, off', cap - 1, cur, by rw [hpl], hg, by rw [heap_setCell_ne _ _ _ hgQ]; exact hh, by omega, by omega, ?_, fun j q hj => ?_⟩⟩, ⟨(Below.refl _ _).setCell hl _, fun A hA h1 h2 => ⟨heap_setCell_ne _ _ _ h1, by simpa [hv, Value.ownBlock] using h2⟩, fun B cs f hB => ?_⟩⟩
    · rcases ho with ⟨rfl, h1⟩ | rfl <;> omega
    · rcases ho with ⟨rfl, h1⟩ | rfl
      · have h0 : ps = [] := List.eq_nil_of_length_eq_zero (by omega)
        subst h0
        simp at hj
      · have := hall (j + 1) q (by simpa using hj)
        rw [← this]
        congr 1
        omega
    · rw [heap_setCell_ne]
      · exact hB
      · rintro rfl
        rw [hb] at hB
        injection hB with hB
        injection hB with _ ht
        exact absurd ht (by decide)
  have c0 : w.cell? ⟨g, off, none⟩ = some (.pointer p) := by
    have := hall 0 p rfl
    simp only [Nat.add_zero] at this
    simp [World.cell?, hh, this]
  rw [hv] at cq
  clear hall hb hh hc hne hm hv hpl
  by_cases h1 : cap = 1
  · subst h1
    have hn0 : n = 0 := by omega
    subst hn0
    have HE1 := Lib.hid (HE.out off (.inl ⟨rfl, rfl⟩))
    clear HE hn
    go_enter Tryd.func28, Tryd.ntmps28
    go_wp2
    go_ret2
    exact HE1.out
  · have HE1 := Lib.hid (HE.out (off + 1) (.inr rfl))
    clear HE
    have hc2 : ¬ cap - 1 = 0 := by omega
    go_enter Tryd.func28, Tryd.ntmps28
    go_wp2
    go_ret2
    exact HE1.out

theorem Qs.fr {w w' : World} {lo Q : Nat} {v v' : Value} {ps : List (Option Addr)} (h : Qs w lo Q v ps) (ho : w'.os = w.os) (ht : w'.tape = w.tape) (hu : w'.output = w.output) (hz : w.heap.size ≤ w'.heap.size)
    (hb : ∀ k, k < w.heap.size → k ≠ Q → v.ownBlock ≠ some k → w'.heap[k]? = w.heap[k]?) (hv : ∀ k, v'.ownBlock = some k → v.ownBlock = some k ∨ w.heap.size ≤ k) : Qfr w lo Q v w' v' := by
  refine ⟨⟨ho, ht, hu, hz, fun k hk => hb k (Nat.lt_trans (Nat.lt_of_lt_of_le hk h.low) h.lt) (by have := h.low; omega) (fun e => by have := (h.row.lt e).1; omega)⟩, fun A hA h1 h2 => ⟨hb A hA h1 h2, fun e => ?_⟩, fun B cs f hB => ?_⟩
  · rcases hv A e with h3 | h3
    · exact h2 h3
    · omega
  · refine (hb B (heap_lt hB) ?_ ?_).trans hB
    · rintro rfl
      have := h.blk
      rw [hB] at this
      injection this with this
      injection this with _ ht
      exact absurd ht (by decide)
    · intro e
      rcases h.row with ⟨rfl, _⟩ | ⟨g', off, cap, cur, rfl, hl, hh, r⟩
      · simp [Value.ownBlock] at e
      · have e' : g' = B := by simpa [Value.ownBlock] using e
        subst e'
        rw [hh] at hB
        injection hB with hB
        injection hB with _ ht
        exact absurd ht (by decide)
theorem Pv.owned {w : World} {lo b : Nat} {v : Value} {ps : List (Option Addr)} (h : w.ownsRow b 58 1 v (ps.length) (ps.map Value.pointer)) (hb : lo ≤ b) (hn : ps ≠ []) : Pv w lo v ps := by
  obtain ⟨hl, h | ⟨g, cap, cur, rfl, hbg, hh, hc, hm, hs, ht⟩⟩ := h
  · exact absurd (List.eq_nil_of_length_eq_zero h.2) hn
  · refine .inr ⟨g, 0, cap, cur, rfl, Nat.le_trans hb hbg, hh, hc, hm, by omega, fun j p hj => ?_⟩
    have hjl : j < ps.length := by
      rcases Nat.lt_or_ge j ps.length with h | h
      · exact h
      · rw [List.getElem?_eq_none h] at hj; cases hj
    have h1 : (ps.map Value.pointer)[j]? = some (.pointer p) := by simp [hj]
    rw [← ht, List.getElem?_take, if_pos (by omega)] at h1
    simpa using h1

def PutSg (w : World) (lo Q : Nat) (v : Value) (ps : List (Option Addr)) (p : Option Addr) (e : Ending) (w' : World) : Prop :=
  e = .returned (.tuple #[]) ∧ ∃ v', Qs w' lo Q v' (ps ++ [p]) ∧ Qfr w lo Q v w' v'

/-- behind an append that makes a new row -/
theorem put_grown {w w2 : World} {lo Q : Nat} {v v' : Value} {ps : List (Option Addr)} {p : Option Addr} {o : Obj} (h : Qs w lo Q v ps)
    (hown : w2.ownsRow (w.alloc o).heap.size 58 1 v' (ps.length + 1) (ps.map Value.pointer ++ [.pointer p])) (hg : (w.alloc o).grownBy w2 none) :
    PutSg w lo Q v ps p (.returned (.tuple #[])) (w2.setCell ⟨Q, 0, none⟩ v') := by
  have hkeep : ∀ k, k < w.heap.size → w2.heap[k]? = w.heap[k]? := fun k hk => (hg.block k (by simp; omega) (by simp)).trans (heap_alloc_old w o hk)
  have hlow : ∀ {g : Nat}, v'.ownBlock = some g → (w.alloc o).heap.size ≤ g ∧ g < w2.heap.size := fun hg => own_ltb hown hg
  have hQ2 : w2.heap[Q]? = some (.cells #[v] 56 (0, 0)) := (hkeep Q h.lt).trans h.blk
  have hP : Pv w2 lo v' (ps ++ [p]) := Pv.owned (b := (w.alloc o).heap.size) (by simpa using hown) (by have := h.low; have := h.lt; simp; omega) (by simp)
  have hsz := hg.size
  have hne : ∀ g, v'.ownBlock = some g → g ≠ Q := fun g hg e => by have h1 := (hlow hg).1; have h2 := h.lt; simp at h1; omega
  refine ⟨rfl, v', ⟨heap_setCell_at hQ2, h.low, hP.kept fun g hg => heap_setCell_ne _ _ _ (hne g hg)⟩, h.fr hg.os hg.tape hg.output (by simp at hsz; simp [World.setCell]; omega) (fun k hk h1 _ => (heap_setCell_ne _ _ _ h1).trans (hkeep k hk)) (fun k hk => .inr (by have := (hlow hk).1; simp at this; omega))⟩

/-- behind an append that finds room -/
theorem put_room {w : World} {lo Q g off cap : Nat} {cur : Array Value} {ps : List (Option Addr)} {p : Option Addr} {o : Obj} (h : Qs w lo Q (.slice (some ⟨g, off, none⟩) ps.length cap) ps)
    (hlo : lo ≤ g) (hh : w.heap[g]? = some (.cells cur 58 (0, 0))) (hm : cap ≤ maxLen) (hc : off + cap ≤ cur.size) (hall : ∀ j p, ps[j]? = some p → cur[off + j]? = some (.pointer p)) (hroom : ps.length < cap) :
    PutSg w lo Q (.slice (some ⟨g, off, none⟩) ps.length cap) ps p (.returned (.tuple #[])) ((((w.alloc o).setCell ⟨g, off + ps.length, none⟩ (.pointer p))).setCell ⟨Q, 0, none⟩ (.slice (some ⟨g, off, none⟩) (ps.length + 1) cap)) := by
  have hgQ : g ≠ Q := fun e => h.ne (by simp [Value.ownBlock, e])
  have hg1 : (w.alloc o).heap[g]? = some (.cells cur 58 (0, 0)) := (heap_alloc_old w o (heap_lt hh)).trans hh
  have hg2 : ((w.alloc o).setCell ⟨g, off + ps.length, none⟩ (.pointer p)).heap[g]? = some (.cells (cur.setIfInBounds (off + ps.length) (.pointer p)) 58 (0, 0)) := by
    simp only [World.setCell, Array.getElem?_modify, if_pos, hg1]
    rfl
  have ho : ∀ k, k < w.heap.size → k ≠ g → ((w.alloc o).setCell ⟨g, off + ps.length, none⟩ (.pointer p)).heap[k]? = w.heap[k]? := fun k hk h1 => (Below.heap_setCell _ _ _ _ h1).trans (heap_alloc_old w o hk)
  refine ⟨rfl, _, ⟨heap_setCell_at ((ho Q h.lt (Ne.symm hgQ)).trans h.blk), h.low, .inr ⟨g, off, cap, _, by simp, hlo, (heap_setCell_ne _ _ _ hgQ).trans hg2, by simp; omega, hm, by simpa using hc, fun j q hj => ?_⟩⟩, h.fr rfl rfl rfl (by simp [World.setCell]) (fun k hk h1 h2 => (heap_setCell_ne _ _ _ h1).trans (ho k hk fun e => h2 (by simp [Value.ownBlock, e]))) (fun k hk => .inl hk)⟩
  by_cases e : j = ps.length
  · subst e
    have : q = p := by simpa using hj.symm
    subst this
    have : off + ps.length < cur.size := by omega
    simp [this]
  · have hjl : j < ps.length := by
      have : j < (ps ++ [p]).length := by
        rcases Nat.lt_or_ge j (ps ++ [p]).length with h | h
        · exact h
        · rw [List.getElem?_eq_none h] at hj; cases hj
      simp at this
      omega
    rw [Array.getElem?_setIfInBounds, if_neg (by omega)]
    rw [List.getElem?_append_left hjl] at hj
    exact hall j q hj

set_option maxHeartbeats 4000000 in
theorem put_any (lo Q : Nat) (v : Value) (ps : List (Option Addr)) (p : Option Addr) (w : World) (h : Qs w lo Q v ps) (hl : ps.length ≤ 1000000) :
    Calls Tryd.prog 25 #[.pointer (some ⟨Q, 0, none⟩), .pointer p] w (PutSg w lo Q v ps p) := by
  obtain ⟨i0, hi, hq0, hq1, hq2⟩ := info_parts infoSg
  have hQl := h.lt
  have fq := h.free
  have cq := h.cell
  by_cases hr : ∃ g off cap cur, v = .slice (some ⟨g, off, none⟩) ps.length cap ∧ lo ≤ g ∧ w.heap[g]? = some (.cells cur 58 (0, 0)) ∧ cap ≤ maxLen ∧ off + cap ≤ cur.size ∧ (∀ j p, ps[j]? = some p → cur[off + j]? = some (.pointer p)) ∧ ps.length < cap
  · obtain ⟨g, off, cap, cur, rfl, hlo, hh, hm, hc, hall, hroom⟩ := hr
    have hgQ : g ≠ Q := fun e => h.ne (by simp [Value.ownBlock, e])
    have hgl := heap_lt hh
    have HE : Hid (∀ W2, W2 = (w.alloc (.cells #[.pointer p] 58 (0, 0))).setCell ⟨g, off + ps.length, none⟩ (.pointer p) → PutSg w lo Q (.slice (some ⟨g, off, none⟩) ps.length cap) ps p (.returned (.tuple #[])) (W2.setCell ⟨Q, 0, none⟩ (.slice (some ⟨g, off, none⟩) (ps.length + 1) cap)) ∧ W2.heap[Q]? = w.heap[Q]?) := fun W2 e => by
      subst e
      exact ⟨put_room h hlo hh hm hc hall hroom, (Below.heap_setCell _ _ _ _ (Ne.symm hgQ)).trans (heap_alloc_old w _ hQl)⟩
    have HB := Lib.hid h.blk
    have HH := Lib.hid hh
    have HA := Lib.hid hall
    clear h hall hh
    go_enter Tryd.func25, Tryd.ntmps25
    go_wp2_with (at_builtin; refine wpList_append_arg _ rfl _ _ 54 rfl 58 i0 (.pointer none) 1 8 Tryd.underlying54 hi hq0 hq1 hq2 rfl (by decide) g off ps.length cap (ps.map Value.pointer) rfl (by simp) ?c0 ⟨w.heap.size, 0, none⟩ 1 1 [.pointer p] rfl rfl ?c1 ?c2 ?c3 ?c4 ?c5 ?_ ?c6)
    case c0 =>
      intro j u hj
      rw [List.getElem?_map] at hj
      cases hp : ps[j]? with
      | none => rw [hp] at hj; cases hj
      | some q =>
        rw [hp] at hj
        have e : Value.pointer q = u := by simpa using hj
        subst e
        have h1 := HA.out j q hp
        have h2 := (heap_alloc_old w (.cells #[.pointer p] 58 (0, 0)) (heap_lt HH.out)).trans HH.out
        simp [World.cell?, h2, h1]
    case c1 =>
      intro j u hj
      match j, hj with
      | 0, hj => simp at hj; subst hj; simp [Addr.add]
    case c2 => intro u hu; simp at hu; subst hu; rfl
    case c3 =>
      intro _ j hj
      have hj0 : j = 0 := by simp at hj; omega
      subst hj0
      have h2 := (heap_alloc_old w (.cells #[.pointer p] 58 (0, 0)) (heap_lt HH.out)).trans HH.out
      have h3 : off + ps.length < cur.size := by omega
      simp [World.cell?, World.frozen?, h2, h3]
    case c4 => unfold maxLen; omega
    case c5 => omega
    case c6 => intro h; omega
    intro _
    simp only [World.setCells]
    obtain ⟨W2, hW2⟩ : ∃ W2, W2 = (w.alloc (.cells #[.pointer p] 58 (0, 0))).setCell ⟨g, off + ps.length, none⟩ (.pointer p) := ⟨_, rfl⟩
    rw [← hW2]
    obtain ⟨h1, h2⟩ := HE.out W2 hW2
    have hQ2 := h2.trans HB.out
    have cq2 : W2.cell? ⟨Q, 0, none⟩ = some (.slice (some ⟨g, off, none⟩) ps.length cap) := by simp [World.cell?, hQ2]
    have fq2 : W2.frozen? ⟨Q, 0, none⟩ = false := by simp [World.frozen?, hQ2]
    have HE1 := Lib.hid h1
    clear h1 h2 hW2 hQ2 cq fq
    go_wp2
    go_end0
    exact HE1.out
  · obtain ⟨ao, cap, rfl, hn0, hfull, hHA⟩ : ∃ ao cap, v = .slice ao ps.length cap ∧ (ao = none → ps.length = 0 ∧ cap = 0) ∧ cap < ps.length + 1 ∧ (∀ b, ao = some b → ∀ j u, (ps.map Value.pointer)[j]? = some u → (w.alloc (.cells #[.pointer p] 58 (0, 0))).cell? (b.add j) = some u) := by
      rcases h.row with ⟨rfl, rfl⟩ | ⟨g, off, cap, cur, rfl, hlo, hh, hn, hm, hc, hall⟩
      · exact ⟨none, 0, rfl, fun _ => ⟨rfl, rfl⟩, by simp, fun b hb => by cases hb⟩
      · refine ⟨_, cap, rfl, fun e => by (cases e), ?_, fun b hb j u hj => ?_⟩
        · rcases Nat.lt_or_ge ps.length cap with h1 | h1
          · exact absurd ⟨g, off, cap, cur, rfl, hlo, hh, hm, hc, hall, h1⟩ hr
          · omega
        · cases hb
          rw [List.getElem?_map] at hj
          cases hp : ps[j]? with
          | none => rw [hp] at hj; cases hj
          | some q =>
            rw [hp] at hj
            have e : Value.pointer q = u := by simpa using hj
            subst e
            have h1 := hall j q hp
            have h2 := (heap_alloc_old w (.cells #[.pointer p] 58 (0, 0)) (heap_lt hh)).trans hh
            rw [Addr.add_lit]
            simp [World.cell?, h2, h1]
    have HX := Lib.hid h
    have HN := Lib.hid hn0
    have HA := Lib.hid hHA
    have HF := Lib.hid hfull
    have HB := Lib.hid h.blk
    clear h hr hn0 hHA hfull
    go_enter Tryd.func25, Tryd.ntmps25
    go_wp2_with (at_builtin; refine wpList_append_grows _ rfl _ _ 54 rfl 58 i0 (.pointer none) 1 8 Tryd.underlying54 hi hq0 hq1 hq2 rfl (by decide) ao ps.length cap (ps.map Value.pointer) rfl ?c7 (by simp) ?c0 ⟨w.heap.size, 0, none⟩ 1 1 [.pointer p] rfl rfl ?c1 ?c2 ?c8 ?c4 ?c5 ?_)
    case c7 => exact HN.out
    case c0 => exact HA.out
    case c1 =>
      intro j u hj
      match j, hj with
      | 0, hj => simp at hj; subst hj; simp [Addr.add]
    case c2 => intro u hu; simp at hu; subst hu; rfl
    case c8 => exact HF.out
    case c4 => unfold maxLen; omega
    case c5 => omega
    intro v' w2 hown hg
    have hQ2 := (hg.block Q (by simp; omega) (by simp)).trans ((heap_alloc_old w (.cells #[.pointer p] 58 (0, 0)) hQl).trans HB.out)
    have cq2 : w2.cell? ⟨Q, 0, none⟩ = some (.slice ao ps.length cap) := by simp [World.cell?, hQ2]
    have fq2 : w2.frozen? ⟨Q, 0, none⟩ = false := by simp [World.frozen?, hQ2]
    have HE := Lib.hid (put_grown HX.out (by simpa using hown) hg)
    obtain ⟨g', cap', rfl⟩ : ∃ g' cap', v' = .slice (some ⟨g', 0, none⟩) (ps.length + 1) cap' := by
      obtain ⟨_, h1 | ⟨g', cap', _, h1, _⟩⟩ := hown
      · omega
      · exact ⟨g', cap', h1⟩
    clear hown hg hQ2
    go_wp2
    go_end0
    exact HE.out
end Go.Proofs.YthnofdkkocpjhaaDoor
