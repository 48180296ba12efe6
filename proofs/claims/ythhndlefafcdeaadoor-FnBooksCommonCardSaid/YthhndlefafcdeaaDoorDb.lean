/-
  The draw of manuscripts.
-/
import Derived.Test.YthhndlefafcdeaaDoorSv
import Derived.Test.YthhndlefafcdeaaDoorDrawOf
import Derived.Test.YthhndlefafcdeaaDoorDrawGc
import Derived.Maps.AppendAt
import Derived.Laws.Concat
import Derived.Laws.IdiomStrings
namespace Go.Proofs.YthhndlefafcdeaaDoor
open Go.RowKit
set_option maxRecDepth 100000
set_option linter.unusedVariables false

/-- the reader lies still where another row grows -/
theorem Rd.grownS {w w' : World} {B A q : Nat} {row : Option Nat} (h : Rd w B A q) (hg : w.grownBy w' row) (h1 : row ≠ some B) (h2 : row ≠ some A) : Rd w' B A q := by
  obtain ⟨p, hp, a, n, cap, hh, hn, hl, hby⟩ := h
  have hB : B < w.heap.size := by
    rcases Nat.lt_or_ge B w.heap.size with h | h
    · exact h
    · rw [Array.getElem?_eq_none h] at hh; cases hh
  exact ⟨p, hp, a, n, cap, (hg.block B hB (Ne.symm h1)).trans hh, hn, Nat.lt_of_lt_of_le hl hg.size, hby.keep fun _ => hg.block A hl (Ne.symm h2)⟩

/-- texts that have been drawn so far: a row of the call's own; only the reader has turned -/
structure BkI (B A q : Nat) (w wr : World) (v : Value) (ss : List ByteArray) : Prop where
  own : wr.ownsRow w.heap.size 9 1 v ss.length (ss.map Value.string)
  gr : w.grownBy wr (some B)
  rd : Rd wr B A q

theorem own_lts {w : World} {base e size n g : Nat} {v : Value} {xs : List Value} (h : w.ownsRow base e size v n xs) (hg : v.ownBlock = some g) : base ≤ g ∧ g < w.heap.size := by
  obtain ⟨_, h | ⟨g', cap, cur, rfl, hb, hh, _⟩⟩ := h
  · rw [h.1] at hg; simp [Value.ownBlock] at hg
  · have e : g' = g := by simpa [Value.ownBlock] using hg
    subst e
    refine ⟨hb, ?_⟩
    rcases Nat.lt_or_ge g' w.heap.size with h | h
    · exact h
    · rw [Array.getElem?_eq_none h] at hh; cases hh
theorem own_keeps {w w' : World} {B n : Nat} {e : TypeId} {v : Value} {xs : List Value} (h : w.ownsRow B e 1 v n xs) (hk : ∀ g, v.ownBlock = some g → g < w.heap.size → w'.heap[g]? = w.heap[g]?) : w'.ownsRow B e 1 v n xs := by
  have hl := fun g hg => (own_lts h (g := g) hg).2
  obtain ⟨hl', h | ⟨g, cap, cur, rfl, hb, hh, hr⟩⟩ := h
  · exact ⟨hl', .inl h⟩
  · exact ⟨hl', .inr ⟨g, cap, cur, rfl, hb, (hk g rfl (hl g rfl)).trans hh, hr⟩⟩

theorem BkI.start {B A q : Nat} {w : World} (h : Rd w B A q) : BkI B A q w (w.alloc (.cells #[] 9)) (.slice (some ⟨w.heap.size, 0, none⟩) 0 0) [] :=
  ⟨⟨by simp, .inr ⟨w.heap.size, 0, #[], rfl, Nat.le_refl _, heap_alloc_new w _, by simp, by simp [maxLen], by simp, by simp⟩⟩,
    ⟨rfl, rfl, rfl, by simp, fun k hk _ => ((Below.refl w.heap.size w).alloc (Nat.le_refl _) _).block k hk⟩, h.alloc _⟩
/-- a pick, or new memory -/
theorem BkI.pick {B A q q' : Nat} {w wr w' : World} {v : Value} {ss : List ByteArray} (h : BkI B A q w wr v ss) (hB : B < w.heap.size) (hr : Rd w' B A q') (hg : wr.grownBy w' (some B)) : BkI B A q' w w' v ss := by
  refine ⟨own_keeps h.own fun g hg1 hgs => hg.block g hgs (fun e => ?_), ⟨hg.os.trans h.gr.os, hg.tape.trans h.gr.tape, hg.output.trans h.gr.output, Nat.le_trans h.gr.size hg.size, fun k hk hne => (hg.block k (Nat.lt_of_lt_of_le hk h.gr.size) hne).trans (h.gr.block k hk hne)⟩, hr⟩
  have := (own_lts h.own hg1).1
  have := Option.some.inj e
  omega
theorem BkI.below {B A q : Nat} {w wr w' : World} {v : Value} {ss : List ByteArray} (h : BkI B A q w wr v ss) (hB : B < w.heap.size) (hb : Below wr.heap.size wr w') : BkI B A q w w' v ss :=
  h.pick hB (h.rd.below hb) ⟨hb.os, hb.tape, hb.output, hb.size, fun k hk _ => hb.block k hk⟩
theorem BkI.app {B A q : Nat} {w w1 w2 : World} {v v' : Value} {ss : List ByteArray} {s : ByteArray} {o : Obj} (h : BkI B A q w w1 v ss) (hB : B < w.heap.size) (hA : A < w.heap.size)
    (hown : w2.ownsRow w.heap.size 9 1 v' (ss.length + 1) (ss.map Value.string ++ [.string s])) (hg : (w1.alloc o).grownBy w2 v.ownBlock) : BkI B A q w w2 v' (ss ++ [s]) := by
  have hz := h.gr.size
  have k1 : ∀ k, k < w1.heap.size → (w1.alloc o).heap[k]? = w1.heap[k]? := fun k hk => ((Below.refl w1.heap.size w1).alloc (Nat.le_refl _) o).block k hk
  have hs : (w1.alloc o).heap.size = w1.heap.size + 1 := World.size_alloc _ _
  have hne : ∀ k, k < w.heap.size → some k ≠ v.ownBlock := fun k hk e => by have := (own_lts h.own e.symm).1; omega
  refine ⟨by simpa using hown, ⟨hg.os.trans h.gr.os, hg.tape.trans h.gr.tape, hg.output.trans h.gr.output, by have := hg.size; omega, fun k hk hk2 => (hg.block k (by omega) (hne k hk)).trans ((k1 k (by omega)).trans (h.gr.block k hk hk2))⟩, ?_⟩
  exact (h.rd.alloc o).grownS hg (fun e => hne B hB e.symm) (fun e => hne A hA e.symm)
theorem BkI.set {B A q : Nat} {w wr : World} {v : Value} {ss : List ByteArray} {i : Nat} (h : BkI B A q w wr v ss) (hB : B < w.heap.size) (hA : A < w.heap.size) (hi : i < ss.length) :
    ∃ g cap, v = .slice (some ⟨g, 0, none⟩) ss.length cap ∧ ss.length ≤ cap ∧ cap ≤ maxLen ∧ (∀ j s, ss[j]? = some s → wr.cell? ⟨g, j, none⟩ = some (.string s)) ∧ (∀ o, wr.frozen? ⟨g, o, none⟩ = false) ∧ ∀ s, BkI B A q w (wr.setCell ⟨g, i, none⟩ (.string s)) v (ss.set i s) := by
  obtain ⟨hl, h0 | ⟨g, cap, cur, rfl, hg, hh, hc, hm, hz, ht⟩⟩ := h.own
  · omega
  · rw [Nat.mul_one] at hz ht
    refine ⟨g, cap, rfl, hc, hm, fun j s hj => ?_, fun o => by simp [World.frozen?, hh], fun s => ⟨⟨by simp, .inr ⟨g, cap, cur.setIfInBounds i (.string s), by rw [List.length_set], hg, by simp [World.setCell, Array.getElem?_modify, hh], by rw [List.length_set]; exact hc, hm, by simp [hz], ?_⟩⟩, ?_, ?_⟩⟩
    · have hjl := (List.getElem?_eq_some_iff.1 hj).1
      have e : (cur.toList.take ss.length)[j]? = (ss.map Value.string)[j]? := by rw [ht]
      rw [List.getElem?_take_of_lt hjl, List.getElem?_map, Array.getElem?_toList, hj] at e
      simp [World.cell?, hh, e]
    · rw [List.length_set, Nat.mul_one, Array.toList_setIfInBounds, List.take_set, ht, List.map_set]
    · refine ⟨h.gr.os, h.gr.tape, h.gr.output, by simpa [World.setCell] using h.gr.size, fun k hk hne => ?_⟩
      rw [Below.heap_setCell _ _ _ _ (fun e => by have e : k = g := e; omega)]
      exact h.gr.block k hk hne
    · exact h.rd.set_ (fun e => by have e : g = B := e; omega) (fun e => by have e : g = A := e; omega) _

/-- manuscripts that were drawn: a few texts, none of them long -/
def BksPicked (B A q : Nat) (w : World) (e : Ending) (w' : World) : Prop :=
  ∃ v ss, e = .returned v ∧ BkI B A (q + 60) w w' v ss ∧ ss.length ≤ 5 ∧ ∀ s ∈ ss, s.size ≤ 8

theorem BkI.none {B A q : Nat} {w wr : World} {v : Value} {ss : List ByteArray} (h : BkI B A q w wr v ss) (hB : B < w.heap.size) : BkI B A q w (wr.alloc (.cells #[] 9)) (.slice (some ⟨wr.heap.size, 0, none⟩) 0 0) [] := by
  have h2 := h.below hB ((Below.refl wr.heap.size wr).alloc (Nat.le_refl _) (.cells #[] 9))
  exact ⟨⟨by simp, .inr ⟨wr.heap.size, 0, #[], rfl, h.gr.size, heap_alloc_new wr _, by simp, by simp [maxLen], by simp, by simp⟩⟩, h2.gr, h2.rd⟩

theorem set_sizes {ss : List ByteArray} {i : Nat} {y : ByteArray} (h : ∀ s ∈ ss, s.size ≤ 4) (hy : y.size ≤ 8) : ∀ s ∈ ss.set i y, s.size ≤ 8 := by
  intro s hs
  rcases List.mem_or_eq_of_mem_set hs with h1 | h1
  · have := h s h1; omega
  · rw [h1]; exact hy

theorem BkI.more {B A q q' : Nat} {w wr : World} {v : Value} {ss : List ByteArray} (h : BkI B A q w wr v ss) (hq : q ≤ q') : BkI B A q' w wr v ss := ⟨h.own, h.gr, h.rd.more hq⟩

def WordsE (w : World) (C n : Nat) : Prop := ∀ j, j < n → ∃ x : ByteArray, w.cell? ⟨C, j, none⟩ = some (.string x) ∧ x.size = 1

def OfPickedE (B A q : Nat) (w : World) (e : Ending) (w' : World) : Prop :=
  ∃ x : ByteArray, e = .returned (.string x) ∧ x.size = 1 ∧ Rd w' B A (q + 1) ∧ w.grownBy w' (some B)

set_option maxHeartbeats 1000000 in
theorem ofE_any (B A q C n : Nat) (hn : 1 ≤ n) (hn9 : n ≤ 1000) (hq : q ≤ 900000) (w : World) (h : Rd w B A q) (hC : C ≠ B) (hCs : C < w.heap.size) (hw : WordsE w C n) :
    Calls Tryd.prog 72 #[.pointer (some ⟨B, 0, none⟩), .slice (some ⟨C, 0, none⟩) n n] w (OfPickedE B A q w) := by
  have hB := h.lt
  have hA := h.ltA
  have HW := Lib.hid hw
  clear hw
  go_enter Tryd.func72, Tryd.ntmps72
  go_wp2_with (fail)
  (go_at_call 71; refine (pick_any (n : Int) B A q (by omega) (by omega) (by omega) _ h).mono ?_; rintro e w1 ⟨k1, rfl, h10, h11, hr1, hb1⟩)
  obtain ⟨j, rfl⟩ : ∃ j : Nat, k1 = j := ⟨k1.toNat, by omega⟩
  obtain ⟨x, hx, hxm⟩ := HW.out j (by omega)
  obtain ⟨hc1, hf1, hz1⟩ := bg hb1
  have cx : w1.cell? ⟨C, j, none⟩ = some (.string x) := (hc1 C j hCs hC).trans hx
  have HX := Lib.hid hxm
  clear hc1 hf1 hx hxm
  go_wp2
  go_ret
  exact ⟨x, rfl, HX.out, hr1, hb1⟩

theorem words5 (W : World) : WordsE (W.alloc (.cells #[.string ⟨#[97]⟩, .string ⟨#[98]⟩, .string ⟨#[99]⟩, .string ⟨#[97]⟩, .string ⟨#[100]⟩] 9)) W.heap.size 5 := by
  intro j hj
  have : j = 0 ∨ j = 1 ∨ j = 2 ∨ j = 3 ∨ j = 4 := by omega
  rcases this with rfl | rfl | rfl | rfl | rfl
  · exact ⟨⟨#[97]⟩, by rw [World.cell?_alloc_new]; rfl, by decide⟩
  · exact ⟨⟨#[98]⟩, by rw [World.cell?_alloc_new]; rfl, by decide⟩
  · exact ⟨⟨#[99]⟩, by rw [World.cell?_alloc_new]; rfl, by decide⟩
  · exact ⟨⟨#[97]⟩, by rw [World.cell?_alloc_new]; rfl, by decide⟩
  · exact ⟨⟨#[100]⟩, by rw [World.cell?_alloc_new]; rfl, by decide⟩

theorem snews {W : World} {s : ByteArray} {t : TypeId} : ∀ j u, ([.string s] : List Value)[j]? = some u → (W.alloc (.cells #[.string s] t)).cell? ((⟨W.heap.size, 0, none⟩ : Addr).add j) = some u := by
  intro j u hj
  match j, hj with
  | 0, hj => simp at hj; subst hj; simp [Addr.add]
theorem snews_one {s : ByteArray} : ∀ u ∈ ([.string s] : List Value), u.oneCell' = true := by
  intro u hu; simp at hu; subst hu; rfl

theorem ext_size (s : ByteArray) {a b : Nat} (h1 : a ≤ b) (h2 : b ≤ s.size) : (s.extract a b).size = b - a := by
  rw [ByteArray.size_extract]; omega

set_option maxHeartbeats 16000000 in
theorem l92Books_any (B A q : Nat) (lost : Bool) (hq : q ≤ 100000) (w : World) (h : Rd w B A q) :
    Calls Tryd.prog 61 #[.pointer (some ⟨B, 0, none⟩), .bool lost] w (BksPicked B A q w) := by
  obtain ⟨i0, hi, hq0, hq1, hq2⟩ := info_parts infoStrS
  have hB := h.lt
  have hA := h.ltA
  have hI0 := BkI.start h
  have HI0 := Lib.hid hI0
  have hr0 := hI0.rd
  clear hI0
  go_enter Tryd.func61, Tryd.ntmps61
  go_wp2_with (fail)
  (go_at_call 71; refine (pick_any 5 B A q (by omega) (by omega) (by omega) _ hr0).mono ?_; rintro e w1 ⟨k1, rfl, h10, h11, hr1, hg1⟩)
  have HI1 := Lib.hid (HI0.out.pick hB hr1 hg1)
  clear hg1 hr0
  go_wp2_with (fail)
  (go_at_call 71; refine (pick_any 4 B A (q + 1) (by omega) (by omega) (by omega) _ hr1).mono ?_; rintro e w2 ⟨k2, rfl, h20, h21, hr2, hg2⟩)
  have HI2 := Lib.hid (HI1.out.pick hB hr2 hg2)
  clear hg2 hr1 hr2 HI1 HI0
  obtain ⟨n, hn⟩ : ∃ n : Nat, 1 + k1 = (n : Int) := ⟨(1 + k1).toNat, by omega⟩
  obtain ⟨m, hm⟩ : ∃ m : Nat, 1 + k2 = (m : Int) := ⟨(1 + k2).toNat, by omega⟩
  have hn1 : 1 ≤ n := by omega
  have hn5 : n ≤ 5 := by omega
  have hm1 : 1 ≤ m := by omega
  have hm4 : m ≤ 4 := by omega
  go_wp2_with (fail)
  go_loopw [5, 8] (fun v i wr => ∃ ss : List ByteArray, ss.length ≤ n ∧ i = .int .i64 (ss.length : Int) ∧ BkI B A (q + 2 + 9 * ss.length) w wr v ss ∧ Hid (∀ s ∈ ss, s.size = m)) (fun _ i _ => n - (intOf i).toNat)
  case atStart => exact ⟨[], Nat.zero_le _, rfl, HI2.out, fun s hs => by cases hs⟩
  case round =>
    obtain ⟨ss, hsn, rfl, hI, hsm⟩ := hrel
    have HI := Lib.hid hI
    by_cases hlt : ss.length < n
    · have l0 : (ss.length : Int) < (n : Int) := by omega
      obtain ⟨wo, hwo⟩ : ∃ wo, wo = wr := ⟨wr, rfl⟩
      subst hwo
      clear hI
      go_wp2
      go_loopw [9, 10] (fun s j wr => ∃ (k : Nat) (x : ByteArray), k ≤ m ∧ j = .int .i64 (k : Int) ∧ s = .string x ∧ x.size = k ∧ BkI B A (q + 2 + 9 * ss.length + 2 * k) w wr u5 ss) (fun _ j _ => m - (intOf j).toNat)
      case atStart => exact ⟨0, ⟨#[]⟩, Nat.zero_le _, rfl, rfl, rfl, HI.out⟩
      case round =>
        obtain ⟨k, x, hkm, rfl, rfl, hxk, hJ⟩ := hrel
        have HJ := Lib.hid hJ
        have HXK := Lib.hid hxk
        have hrJ := hJ.rd
        have hzJ := hJ.gr.size
        by_cases hlk : k < m
        · have lk : (k : Int) < (m : Int) := by omega
          have lk0 : (0 : Int) ≤ (k : Int) := by omega
          have hxs : x.size ≤ 4 := by omega
          clear hJ hxk
          by_cases hs0 : ss.length = 0
          · have t1 : decide ((0 : Int) < (ss.length : Int)) = false := decide_eq_false (by omega)
            have t2 : decide (0 < ss.length) = false := decide_eq_false (by omega)
            obtain ⟨wz, hwz⟩ : ∃ wz, wz = wr := ⟨wr, rfl⟩
            subst hwz
            have HS0 := Lib.hid hs0
            clear hs0
            have hJ2 := HJ.out.below hB ((Below.refl wz.heap.size wz).alloc (Nat.le_refl _) (.cells #[.string ⟨#[97]⟩, .string ⟨#[98]⟩, .string ⟨#[99]⟩, .string ⟨#[97]⟩, .string ⟨#[100]⟩] 9))
            have HJ2 := Lib.hid hJ2
            have hr5 := hJ2.rd
            have hw5 := words5 wz
            have hzz := HJ.out.gr.size
            have HO := Lib.hid (ofE_any B A _ wz.heap.size 5 (by omega) (by omega) (by omega) _ hr5 (by omega) (by simp) hw5)
            clear hJ2 hr5 hw5
            go_wp2_with (fail)
            (go_at_call 72; refine (HO.out).mono ?_; rintro e w5 ⟨y, rfl, hy1, hr5, hg5⟩)
            have HJ5 := Lib.hid ((HJ2.out.pick hB hr5 hg5).more (q' := q + 2 + 9 * ss.length + 2 * (k + 1)) (by omega))
            have hadd : ∀ W : World, (Op.stringOp .add x y).run Tryd.prog W = .ok (.string (x ++ y)) W := fun W => run_string_add_sum W _ _ (by omega)
            have HS : Hid ((x ++ y).size = k + 1) := by show _ = _; rw [ByteArray.size_append, HXK.out, hy1]
            clear hr5 hg5 HO HJ2 hy1
            go_wp2
            go_roundw
            case rel => exact ⟨k + 1, x ++ y, by omega, by go_num, rfl, HS.out, HJ5.out⟩
            case measure => simp [intOf]; omega
          have t1 : decide ((0 : Int) < (ss.length : Int)) = true := decide_eq_true (by omega)
          have t2 : decide (0 < ss.length) = true := decide_eq_true (by omega)
          obtain ⟨j, hj⟩ : ∃ j, ss.length = j + 1 := ⟨ss.length - 1, by omega⟩
          obtain ⟨u, hu⟩ := ss_get (ss := ss) (k := j) (by omega)
          have hum : u.size = m := hsm.out u (List.mem_of_getElem? hu)
          have HU := Lib.hid hu
          have HJJ := Lib.hid hj
          have wj : IntKind.i64.wrap ((ss.length : Int) - 1) = (j : Int) := by rw [hj]; exact (IntWalk.i64_in _ (by omega)).trans (by omega)
          have wj2 : (ss.length : Int) - 1 = (j : Int) := by omega
          have j0 : (0 : Int) ≤ (j : Int) := by omega
          have j1 : (j : Int) < (ss.length : Int) := by omega
          have ku : (k : Int) < (u.size : Int) := by omega
          have kn : k < u.size := by omega
          clear hu hj hs0
          have HUM := Lib.hid hum
          clear hum
          go_wp2_with (fail)
          (go_at_call 71; refine (pick_any 3 B A _ (by omega) (by omega) (by omega) _ hrJ).mono ?_; rintro e w4 ⟨k3, rfl, h30, h31, hr4, hg4⟩)
          have hJ4 := HJ.out.pick hB hr4 hg4
          have HJ4 := Lib.hid hJ4
          have hz4 := hJ4.gr.size
          obtain ⟨g, cap, hv, hgc, hgm, hcell, hfz, _⟩ := hJ4.set (i := j) hB hA (by omega)
          have c0 := hcell j u HU.out
          unfold maxLen at hgm
          subst hv
          clear hr4 hg4 hJ4 hcell hfz hrJ
          obtain ⟨wz, hwz⟩ : ∃ wz, wz = w4 := ⟨w4, rfl⟩
          subst hwz
          by_cases h3 : k3 = 0
          · have t3 : decide (0 < k3) = false := decide_eq_false (by omega)
            clear h3 h30 h31
            have hJ2 := HJ4.out.below hB ((Below.refl wz.heap.size wz).alloc (Nat.le_refl _) (.cells #[.string ⟨#[97]⟩, .string ⟨#[98]⟩, .string ⟨#[99]⟩, .string ⟨#[97]⟩, .string ⟨#[100]⟩] 9))
            have HJ2 := Lib.hid hJ2
            have hr5 := hJ2.rd
            have hw5 := words5 wz
            have hzz := HJ4.out.gr.size
            have HO := Lib.hid (ofE_any B A _ wz.heap.size 5 (by omega) (by omega) (by omega) _ hr5 (by omega) (by simp) hw5)
            clear hJ2 hr5 hw5
            go_wp2_with (fail)
            (go_at_call 72; refine (HO.out).mono ?_; rintro e w5 ⟨y, rfl, hy1, hr5, hg5⟩)
            have HJ5 := Lib.hid ((HJ2.out.pick hB hr5 hg5).more (q' := q + 2 + 9 * ss.length + 2 * (k + 1)) (by omega))
            have hadd : ∀ W : World, (Op.stringOp .add x y).run Tryd.prog W = .ok (.string (x ++ y)) W := fun W => run_string_add_sum W _ _ (by omega)
            have HS : Hid ((x ++ y).size = k + 1) := by show _ = _; rw [ByteArray.size_append, HXK.out, hy1]
            clear hr5 hg5 HO HJ2 hy1
            go_wp2
            go_roundw
            case rel => exact ⟨k + 1, x ++ y, by omega, by go_num, rfl, HS.out, HJ5.out⟩
            case measure => simp [intOf]; omega
          have t3 : decide (0 < k3) = true := decide_eq_true (by omega)
          clear h3 h30 h31
          by_cases hq : u[k].toNat = 63
          · have t4 : ((u[k].toNat : Int) != 63) = false := by rw [hq]; rfl
            clear hq
            have hJ2 := HJ4.out.below hB ((Below.refl wz.heap.size wz).alloc (Nat.le_refl _) (.cells #[.string ⟨#[97]⟩, .string ⟨#[98]⟩, .string ⟨#[99]⟩, .string ⟨#[97]⟩, .string ⟨#[100]⟩] 9))
            have HJ2 := Lib.hid hJ2
            have hr5 := hJ2.rd
            have hw5 := words5 wz
            have hzz := HJ4.out.gr.size
            have HO := Lib.hid (ofE_any B A _ wz.heap.size 5 (by omega) (by omega) (by omega) _ hr5 (by omega) (by simp) hw5)
            clear hJ2 hr5 hw5
            go_wp2_with (fail)
            (go_at_call 72; refine (HO.out).mono ?_; rintro e w5 ⟨y, rfl, hy1, hr5, hg5⟩)
            have HJ5 := Lib.hid ((HJ2.out.pick hB hr5 hg5).more (q' := q + 2 + 9 * ss.length + 2 * (k + 1)) (by omega))
            have hadd : ∀ W : World, (Op.stringOp .add x y).run Tryd.prog W = .ok (.string (x ++ y)) W := fun W => run_string_add_sum W _ _ (by omega)
            have HS : Hid ((x ++ y).size = k + 1) := by show _ = _; rw [ByteArray.size_append, HXK.out, hy1]
            clear hr5 hg5 HO HJ2 hy1
            go_wp2
            go_roundw
            case rel => exact ⟨k + 1, x ++ y, by omega, by go_num, rfl, HS.out, HJ5.out⟩
            case measure => simp [intOf]; omega
          have t4 : ((u[k].toNat : Int) != 63) = true := by rw [bne_iff_ne]; omega
          have hex := ext_size u (a := k) (b := k + 1) (by omega) (by omega)
          have hadd : ∀ W : World, (Op.stringOp .add x (u.extract k (k + 1))).run Tryd.prog W = .ok (.string (x ++ u.extract k (k + 1))) W := fun W => run_string_add_sum W _ _ (by omega)
          have HS : Hid ((x ++ u.extract k (k + 1)).size = k + 1) := by show _ = _; rw [ByteArray.size_append, HXK.out, hex]; omega
          have HJ5 := Lib.hid (HJ4.out.more (q' := q + 2 + 9 * ss.length + 2 * (k + 1)) (by omega))
          have m1 : IntKind.i64.wrap ((k : Int) + 1) = (k : Int) + 1 := IntWalk.i64_in _ (by omega)
          have m2 : (0 : Int) ≤ (k : Int) + 1 := by omega
          have m3 : ((k : Int) + 1).toNat = k + 1 := by omega
          have m4 : (k : Int) + 1 ≤ (u.size : Int) := by omega
          have m5 : (k : Int) ≤ (k : Int) + 1 := by omega
          clear hq hex
          go_wp2
          go_roundw
          case rel => exact ⟨k + 1, x ++ u.extract k (k + 1), by omega, by go_num, rfl, HS.out, HJ5.out⟩
          case measure => simp [intOf]; omega
        · have hke : k = m := by omega
          subst hke
          clear hJ hxk
          cases lost with
          | false =>
            obtain ⟨wz, hwz⟩ : ∃ wz, wz = wr := ⟨wr, rfl⟩
            subst hwz
            have hown := HJ.out.own
            have hzz := HJ.out.gr.size
            have HSM : Hid (∀ s ∈ ss ++ [x], s.size = k) := fun s hs => by
              rcases List.mem_append.1 hs with h | h
              · exact hsm.out s h
              · rw [List.mem_singleton.1 h]; exact HXK.out
            go_wp2_with (at_builtin; refine wpList_append_own _ rfl _ _ 22 rfl w.heap.size 9 i0 (.string ⟨#[]⟩) 1 16 Tryd.underlying22 hi hq0 hq1 hq2 rfl (by decide) _ _ _ rfl (hown.alloc _) ⟨wz.heap.size, 0, none⟩ 1 1 [.string (x)] rfl rfl snews snews_one (by unfold maxLen; omega) (by omega) (by simp; omega) ?_)
            intro v' w7 hown' hgrow _
            have HN := Lib.hid ((HJ.out.app hB hA hown' hgrow).more (q' := q + 2 + 9 * (ss.length + 1)) (by omega))
            clear hown hown' hgrow
            go_wp2
            go_roundw
            case rel => exact ⟨ss ++ [x], by simp only [List.length_append, List.length_cons, List.length_nil]; omega, by simp only [List.length_append, List.length_cons, List.length_nil]; go_num, by rw [List.length_append]; exact HN.out, HSM.out⟩
            case measure => simp [intOf]; omega
          | true =>
            go_wp2_with (fail)
            (go_at_call 71; refine (pick_any 3 B A _ (by omega) (by omega) (by omega) _ hrJ).mono ?_; rintro e w4 ⟨k3, rfl, h30, h31, hr4, hg4⟩)
            have HJ4 := Lib.hid (HJ.out.pick hB hr4 hg4)
            clear hr4 hg4 hrJ
            obtain ⟨wz, hwz⟩ : ∃ wz, wz = w4 := ⟨w4, rfl⟩
            subst hwz
            by_cases h3 : k3 = 0
            · have t3 : (k3 == 0) = true := by simp [h3]
              have hex := ext_size (⟨#[63, 63, 63, 63]⟩ : ByteArray) (a := 0) (b := k) (by omega) (by show k ≤ 4; omega)
              have HEX : Hid (((⟨#[63, 63, 63, 63]⟩ : ByteArray).extract 0 k).size = k) := by show _ = _; rw [hex]; omega
              have m1 : (0 : Int) ≤ (k : Int) := by omega
              have m4 : (k : Int) ≤ 4 := by omega
              clear h3 h30 h31 hex
              have hown := HJ4.out.own
              have hzz := HJ4.out.gr.size
              have HSM : Hid (∀ s ∈ ss ++ [(⟨#[63, 63, 63, 63]⟩ : ByteArray).extract 0 k], s.size = k) := fun s hs => by
                rcases List.mem_append.1 hs with h | h
                · exact hsm.out s h
                · rw [List.mem_singleton.1 h]; exact HEX.out
              go_wp2_with (at_builtin; refine wpList_append_own _ rfl _ _ 22 rfl w.heap.size 9 i0 (.string ⟨#[]⟩) 1 16 Tryd.underlying22 hi hq0 hq1 hq2 rfl (by decide) _ _ _ rfl (hown.alloc _) ⟨wz.heap.size, 0, none⟩ 1 1 [.string ((⟨#[63, 63, 63, 63]⟩ : ByteArray).extract 0 k)] rfl rfl snews snews_one (by unfold maxLen; omega) (by omega) (by simp; omega) ?_)
              intro v' w7 hown' hgrow _
              have HN := Lib.hid ((HJ4.out.app hB hA hown' hgrow).more (q' := q + 2 + 9 * (ss.length + 1)) (by omega))
              clear hown hown' hgrow
              go_wp2
              go_roundw
              case rel => exact ⟨ss ++ [(⟨#[63, 63, 63, 63]⟩ : ByteArray).extract 0 k], by simp only [List.length_append, List.length_cons, List.length_nil]; omega, by simp only [List.length_append, List.length_cons, List.length_nil]; go_num, by rw [List.length_append]; exact HN.out, HSM.out⟩
              case measure => simp [intOf]; omega
            · have t3 : (k3 == 0) = false := by simpa using h3
              clear h3 h30 h31
              have hown := HJ4.out.own
              have hzz := HJ4.out.gr.size
              have HSM : Hid (∀ s ∈ ss ++ [x], s.size = k) := fun s hs => by
                rcases List.mem_append.1 hs with h | h
                · exact hsm.out s h
                · rw [List.mem_singleton.1 h]; exact HXK.out
              go_wp2_with (at_builtin; refine wpList_append_own _ rfl _ _ 22 rfl w.heap.size 9 i0 (.string ⟨#[]⟩) 1 16 Tryd.underlying22 hi hq0 hq1 hq2 rfl (by decide) _ _ _ rfl (hown.alloc _) ⟨wz.heap.size, 0, none⟩ 1 1 [.string (x)] rfl rfl snews snews_one (by unfold maxLen; omega) (by omega) (by simp; omega) ?_)
              intro v' w7 hown' hgrow _
              have HN := Lib.hid ((HJ4.out.app hB hA hown' hgrow).more (q' := q + 2 + 9 * (ss.length + 1)) (by omega))
              clear hown hown' hgrow
              go_wp2
              go_roundw
              case rel => exact ⟨ss ++ [x], by simp only [List.length_append, List.length_cons, List.length_nil]; omega, by simp only [List.length_append, List.length_cons, List.length_nil]; go_num, by rw [List.length_append]; exact HN.out, HSM.out⟩
              case measure => simp [intOf]; omega
    · have hle : ss.length = n := by omega
      clear hI
      have hrI := HI.out.rd
      have hzI := HI.out.gr.size
      go_wp2_with (fail)
      (go_at_call 71; refine (pick_any 40 B A _ (by omega) (by omega) (by omega) _ hrI).mono ?_; rintro e w4 ⟨k3, rfl, h30, h31, hr4, hg4⟩)
      have hI4 := HI.out.pick hB hr4 hg4
      have HI4 := Lib.hid (hI4.more (q' := q + 60) (by omega))
      obtain ⟨j, hj⟩ : ∃ j : Nat, (n : Int) - 1 = (j : Int) := ⟨n - 1, by omega⟩
      have hjn : j < ss.length := by omega
      have wj : IntKind.i64.wrap ((n : Int) - 1) = (j : Int) := by rw [hj]; exact IntWalk.i64_in _ (by omega)
      have hlen5 : ss.length ≤ 5 := by omega
      have hlen1 : 1 ≤ ss.length := by omega
      clear hI4 hr4 hg4 hrI hle
      have hall : ∀ s ∈ ss, s.size ≤ 4 := fun s hs => by have := hsm.out s hs; omega
      have HALL := Lib.hid hall
      clear hall
      by_cases g0 : k3 = 0
      · subst g0
        obtain ⟨g, cap, hv, hgc, hgm, hcell, hfz, hset⟩ := HI4.out.set (i := 0) hB hA (by omega)
        obtain ⟨s0, hs0⟩ := ss_get (ss := ss) (k := 0) (by omega)
        have c0 := hcell 0 s0 hs0
        have f0 := hfz 0
        have h4 := HALL.out s0 (List.mem_of_getElem? hs0)
        have hadd : ∀ W : World, (Op.stringOp .add s0 ⟨#[97]⟩).run Tryd.prog W = .ok (.string (s0 ++ ⟨#[97]⟩)) W := fun W => run_string_add_sum W _ _ (by show s0.size + 1 ≤ 9223372036854775807; omega)
        have hsz : (s0 ++ (⟨#[97]⟩ : ByteArray)).size ≤ 8 := by rw [ByteArray.size_append]; show s0.size + 1 ≤ 8; omega
        generalize s0 ++ (⟨#[97]⟩ : ByteArray) = y at hadd hsz
        have HS := Lib.hid (hset y)
        have HY := Lib.hid hsz
        subst hv
        unfold maxLen at hgm
        have i1 : (0 : Int) < (ss.length : Int) := by omega
        clear hcell hfz hset hs0 h4 hsz
        go_wp2
        go_ret
        exact ⟨_, ss.set 0 y, rfl, HS.out, by rw [List.length_set]; omega, set_sizes HALL.out HY.out⟩
      by_cases g1 : k3 = 1
      · subst g1
        obtain ⟨g, cap, hv, hgc, hgm, hcell, hfz, hset⟩ := HI4.out.set (i := j) hB hA hjn
        obtain ⟨s0, hs0⟩ := ss_get (ss := ss) (k := j) hjn
        have c0 := hcell j s0 hs0
        have f0 := hfz j
        have h4 := HALL.out s0 (List.mem_of_getElem? hs0)
        have h1m : 1 ≤ s0.size := by have := hsm.out s0 (List.mem_of_getElem? hs0); omega
        have hex := ext_size s0 (a := 1) (b := s0.size) h1m (Nat.le_refl _)
        have hadd : ∀ W : World, (Op.stringOp .add ⟨#[101]⟩ (s0.extract 1 s0.size)).run Tryd.prog W = .ok (.string ((⟨#[101]⟩ : ByteArray) ++ s0.extract 1 s0.size)) W := fun W => run_string_add_sum W _ _ (by show 1 + (s0.extract 1 s0.size).size ≤ 9223372036854775807; omega)
        have hsz : ((⟨#[101]⟩ : ByteArray) ++ s0.extract 1 s0.size).size ≤ 8 := by rw [ByteArray.size_append]; show 1 + (s0.extract 1 s0.size).size ≤ 8; omega
        generalize (⟨#[101]⟩ : ByteArray) ++ s0.extract 1 s0.size = y at hadd hsz
        have HS := Lib.hid (hset y)
        have HY := Lib.hid hsz
        subst hv
        unfold maxLen at hgm
        have i0' : (0 : Int) ≤ (j : Int) := by omega
        have i1 : (j : Int) < (ss.length : Int) := by omega
        have i2 : (1 : Int) ≤ (s0.size : Int) := by omega
        clear hcell hfz hset hs0 hsz hex
        go_wp2
        go_ret
        exact ⟨_, ss.set j y, rfl, HS.out, by rw [List.length_set]; omega, set_sizes HALL.out HY.out⟩
      have t0 : (k3 == 0) = false := by simpa using g0
      have t1 : (k3 == 1) = false := by simpa using g1
      by_cases g2 : k3 = 2
      · subst g2
        have HS := Lib.hid (HI4.out.none hB)
        clear t0 t1 g0 g1
        go_wp2
        go_ret
        exact ⟨_, [], rfl, HS.out, Nat.zero_le _, fun s hs => by cases hs⟩
      have t2 : (k3 == 2) = false := by simpa using g2
      clear g0 g1 g2
      go_wp2
      go_ret
      exact ⟨_, ss, rfl, HI4.out, by omega, fun s hs => by have := HALL.out s hs; omega⟩
end Go.Proofs.YthhndlefafcdeaaDoor
