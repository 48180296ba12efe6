/-
  The draw of a melody and of steps that often sing it returns.
-/
import Derived.Test.YtjodcaeohkjlnaaDrawM
import Derived.Test.YtjodcaeohkjlnaaDraw3
import Derived.Test.YtjodcaeohkjlnaaHexAll
import Derived.Test.YtjodcaeohkjlnaaParts
import Derived.Deep.QuietTactic
import Derived.BigQuiet
namespace Go.Proofs.Ytjodcaeohkjlnaa
open Go.RowKit
set_option maxRecDepth 100000
set_option linter.unusedVariables false

/-- the drawing loop's state: the melody's row, in blocks below hi; the steps' own row, from hi on; the reader -/
structure SgInv (w wr : World) (B A q hi : Nat) (v u : Value) (xs : List (Int × Bool)) (zs : List Int) : Prop where
  mel : TRow wr w.heap.size hi v xs
  own : wr.ownsRow hi 3 1 u zs.length (zs.map (Value.int .i64))
  rd : Rd wr B A q
  gb : w.grownBy wr (some B)
  le : w.heap.size ≤ hi
  lt : hi ≤ wr.heap.size
theorem SgInv.below {w wr w1 : World} {B A q hi : Nat} {v u : Value} {xs : List (Int × Bool)} {zs : List Int} (h : SgInv w wr B A q hi v u xs zs) (hb : Below wr.heap.size wr w1) : SgInv w w1 B A q hi v u xs zs :=
  ⟨h.mel.below hb (.inl h.lt), tbelow h.own hb, h.rd.below hb, gb_bl h.gb hb, h.le, Nat.le_trans h.lt hb.size⟩
theorem SgInv.more {w wr : World} {B A q q' hi : Nat} {v u : Value} {xs : List (Int × Bool)} {zs : List Int} (h : SgInv w wr B A q hi v u xs zs) (hq : q ≤ q') : SgInv w wr B A q' hi v u xs zs :=
  ⟨h.mel, h.own, h.rd.more hq, h.gb, h.le, h.lt⟩
theorem SgInv.pick {w wr w1 : World} {B A q q' hi : Nat} {v u : Value} {xs : List (Int × Bool)} {zs : List Int} (h : SgInv w wr B A q hi v u xs zs) (hr : Rd w1 B A q') (hg : wr.grownBy w1 (some B)) (hB : B < w.heap.size) : SgInv w w1 B A q' hi v u xs zs := by
  have hle := h.le
  refine ⟨h.mel.keep (fun k h1 h2 h3 => hg.block k h1 (fun e => by injection e; omega)), h.own.kept hg ?_, hr, gb_step h.gb hg, h.le, Nat.le_trans h.lt hg.size⟩
  right
  intro e
  have := (h.own.lt B e).1
  omega
theorem SgInv.app {w wr w2 : World} {B A q hi : Nat} {v u u' : Value} {xs : List (Int × Bool)} {zs : List Int} {z : Int} {o : Obj} (h : SgInv w wr B A q hi v u xs zs) (hB : B < w.heap.size) (hA : A < w.heap.size)
    (hown : w2.ownsRow hi 3 1 u' (zs.length + 1) (zs.map (Value.int .i64) ++ [.int .i64 z])) (hg : (wr.alloc o).grownBy w2 u.ownBlock) : SgInv w w2 B A q hi v u' xs (zs ++ [z]) := by
  have hle := h.le
  have hlt : ∀ g, u.ownBlock = some g → hi ≤ g := fun g hg => (h.own.lt g hg).1
  refine ⟨h.mel.keep (fun k h1 h2 h3 => (hg.block k (by simp; omega) (fun e => by have := hlt k e.symm; omega)).trans (Below.heap_alloc wr o k h1)), by simpa using hown,
    (h.rd.alloc o).grown hg (fun e => by have := hlt B e.symm; omega) (fun e => by have := hlt A e.symm; omega), gb_own h.gb hg (fun g hg => Nat.le_trans h.le (hlt g hg)), h.le, ?_⟩
  have h1 := hg.size
  have h2 := h.lt
  simp at h1
  omega
theorem SgInv.start {w w1 : World} {B A q : Nat} {v : Value} {xs : List (Int × Bool)} (h : DmInv w w1 B A q v xs) : SgInv w (w1.alloc (.cells #[] 3)) B A q w1.heap.size v (.slice (some ⟨w1.heap.size, 0, none⟩) 0 0) xs [] := by
  have hm : TRow w1 w.heap.size w1.heap.size v xs := ⟨h.own, fun g hg => (h.own.lt g hg).2⟩
  exact ⟨hm.below ((Below.refl _ _).alloc (Nat.le_refl _) _) (.inl (Nat.le_refl _)), ⟨rfl, .inr ⟨w1.heap.size, 0, #[], rfl, Nat.le_refl _, heap_alloc_new w1 _, by simp, by simp [maxLen], by simp, by simp⟩⟩, h.rd.alloc _, gb_alloc h.gb _, h.gb.size, by simp⟩
/-- a store into the steps' row -/
theorem SgInv.store {w wr : World} {B A q hi g n c : Nat} {v : Value} {xs : List (Int × Bool)} {zs : List Int} {z : Int} (h : SgInv w wr B A q hi v (.slice (some ⟨g, 0, none⟩) n c) xs zs) (hB : B < w.heap.size) (hA : A < w.heap.size) (hz : 0 < zs.length) :
    SgInv w (wr.setCell ⟨g, 0, none⟩ (.int .i64 z)) B A q hi v (.slice (some ⟨g, 0, none⟩) n c) xs (zs.set 0 z) := by
  have hle := h.le
  have hg := (h.own.lt g rfl).1
  have hk : ∀ k, k ≠ g → (wr.setCell ⟨g, 0, none⟩ (.int .i64 z)).heap[k]? = wr.heap[k]? := fun k hk => Below.heap_setCell _ _ _ _ hk
  refine ⟨h.mel.keep (fun k h1 h2 h3 => hk k (by omega)), ?_, h.rd.set_ (by show g ≠ B; omega) (by show g ≠ A; omega) _, gb_set h.gb (.inr (by show w.heap.size ≤ g; omega)) _, h.le, by have := h.lt; simpa using this⟩
  obtain ⟨hln, h1 | ⟨g', cap, cur, hv, hb, hh, hc, hm, hsz, htk⟩⟩ := h.own
  · cases h1.1
  · injection hv with hv1 hv2 hv3
    injection hv1 with hv1
    injection hv1 with hv1
    subst hv1 hv2 hv3
    refine ⟨by simp, .inr ⟨g, c, cur.setIfInBounds 0 (.int .i64 z), by simp, hb, by simp [World.setCell, Array.getElem?_modify, hh], by simpa using hc, hm, by simpa using hsz, ?_⟩⟩
    rw [List.length_set, Array.toList_setIfInBounds, List.take_set, htk]
    cases zs with
    | nil => simp at hz
    | cons a r => rfl

theorem bl_drewN7 {B : Nat} {a w : World} (h : Below B a w) (n : Nat) : Below B a (w.drewN n) := ⟨h.os, h.tape, h.output, h.size, h.block⟩
/-- what the draw leaves: steps of the call's own, or a list that is not as long as the melody -/
def Steps (w : World) (lo hi n : Nat) (u : Value) : Prop := (∃ zs : List Int, IRow w lo hi u zs ∧ zs.length ≤ 8) ∨ ∃ a m c, u = .slice a m c ∧ m ≠ n
def SungPicked (B A q : Nat) (w : World) (e : Ending) (w' : World) : Prop :=
  ∃ v u xs, e = .returned (.tuple #[v, u]) ∧ TRow w' w.heap.size w'.heap.size v xs ∧ xs.length ≤ 8 ∧ Steps w' w.heap.size w'.heap.size xs.length u ∧ w.grownBy w' (some B)
theorem sungPicked {B A q q' hi : Nat} {w w' : World} {v u : Value} {xs : List (Int × Bool)} {zs : List Int} (h : SgInv w w' B A q' hi v u xs zs) (hx : xs.length ≤ 8) (hz : zs.length ≤ 8) : SungPicked B A q w (.returned (.tuple #[v, u])) w' :=
  ⟨v, u, xs, rfl, ⟨h.mel.1, fun g hg => Nat.lt_of_lt_of_le (h.mel.2 g hg) h.lt⟩, hx, .inl ⟨zs, ⟨tmono h.own h.le, fun g hg => (h.own.lt g hg).2⟩, hz⟩, h.gb⟩
theorem sungPicked' {B A q q' hi m c : Nat} {a : Option Addr} {w w' : World} {v u : Value} {xs : List (Int × Bool)} {zs : List Int} (h : SgInv w w' B A q' hi v u xs zs) (hx : xs.length ≤ 8) (hm : m ≠ xs.length) : SungPicked B A q w (.returned (.tuple #[v, .slice a m c])) w' :=
  ⟨v, _, xs, rfl, ⟨h.mel.1, fun g hg => Nat.lt_of_lt_of_le (h.mel.2 g hg) h.lt⟩, hx, .inr ⟨a, m, c, rfl, hm⟩, h.gb⟩
theorem inews {w : World} {z : Int} {t : TypeId} : ∀ j u, ([.int .i64 z] : List Value)[j]? = some u → (w.alloc (.cells #[.int .i64 z] t)).cell? ((⟨w.heap.size, 0, none⟩ : Addr).add j) = some u := by
  intro j u hj
  match j, hj with
  | 0, hj => simp at hj; subst hj; simp [Addr.add]
theorem inews_one {z : Int} : ∀ u ∈ ([.int .i64 z] : List Value), u.oneCell' = true := by
  intro u hu; simp at hu; subst hu; rfl

set_option maxHeartbeats 8000000 in
theorem l91Sung_any (B A q : Nat) (hq : q ≤ 800000) (w : World) (h : Rd w B A q) :
    Calls Try.prog 50 #[.pointer (some ⟨B, 0, none⟩)] w (SungPicked B A q w) := by
  obtain ⟨i0, hi, hq0, hq1, hq2⟩ := info_parts infoInt
  have hB := h.lt
  have hA := h.ltA
  go_enter Try.func50, Try.ntmps50
  go_wp2_with (fail)
  (go_at_call 35; refine (l91Melody_any B A q 8 (by omega) (by omega) _ h).mono ?_; rintro e w1 ⟨v, xs, rfl, hI, hl⟩)
  have hI0 := SgInv.start hI
  clear hI h
  obtain ⟨va, vc, rfl⟩ : ∃ a c, v = .slice a xs.length c := by
    rcases hI0.mel.form with ⟨rfl, rfl⟩ | ⟨g, cap, rfl, _⟩
    · exact ⟨none, 0, rfl⟩
    · exact ⟨_, _, rfl⟩
  have HI0 := Lib.hid hI0
  clear hI0
  go_wp2
  go_loopw [5, 6] (fun u i wr => ∃ (k : Nat) (zs : List Int), k ≤ xs.length ∧ zs.length = k ∧ i = .int .i64 k ∧ SgInv w wr B A (q + 20 + k) w1.heap.size (.slice va xs.length vc) u xs zs) (fun _ i _ => xs.length - (intOf i).toNat)
  case atStart => exact ⟨0, [], Nat.zero_le _, rfl, rfl, HI0.out.more (by omega)⟩
  case round =>
    obtain ⟨k, zs, hk, hzl, rfl, hI⟩ := hrel
    clear HI0
    by_cases hlt : k < xs.length
    · have ht : xs[k]? = some xs[k] := List.getElem?_eq_getElem hlt
      rcases hI.mel.form with ⟨_, hx⟩ | ⟨g, cap, hv, _, hg2, hgs, _, _, hc⟩
      · subst hx; simp at hlt
      injection hv with hv1 _ hv2
      subst hv1 hv2
      obtain ⟨e1, e2⟩ := hc k _ ht
      have hk0 : (0 : Int) ≤ (k : Int) := by omega
      have hk1 : (k : Int) < (xs.length : Int) := by omega
      have HI := Lib.hid hI
      have HZ := Lib.hid hzl
      clear hI hc ht hzl
      generalize xs[k] = t at e1 e2
      obtain ⟨s, b⟩ := t
      go_wp2_with (fail)
      (go_at_call 44; refine (sHexAll_any s b _).mono ?_; rintro e w2 ⟨u2, rfl, hr2, hb2⟩)
      have HI2 := Lib.hid (HI.out.below hb2)
      clear e1 e2
      have hzz : zs.length ≤ 7 := by have := HZ.out; omega
      rcases hr2.form with ⟨rfl, hnil⟩ | ⟨g2, cap2, cur2, rfl, hg20, hg21, hgs2, _, _, _, _, _, hc2, _⟩
      · have hown := HI2.out.own
        have hsz := HI2.out.lt
        clear hr2
        go_wp2_with (at_builtin; refine wpList_append_own _ rfl _ _ 25 rfl w1.heap.size 3 i0 (.int .i64 0) 1 8 Try.underlying25 hi hq0 hq1 hq2 rfl (by decide) _ _ _ rfl (hown.alloc _) ⟨w2.heap.size, 0, none⟩ 1 1 [.int .i64 3] rfl rfl inews inews_one (by unfold maxLen; omega) (by omega) (by simp; omega) ?_)
        intro v' w4 hown' hgrow _
        have HI4 := Lib.hid (HI2.out.app hB hA hown' hgrow)
        clear hown hown' hgrow
        go_wp2
        go_roundw
        case rel => exact ⟨k + 1, _, by omega, by rw [List.length_append, HZ.out]; rfl, by go_num, HI4.out.more (by omega)⟩
        case measure => simp [intOf]; omega
      · by_cases hz0 : (hall s b 21).length = 0
        · have hown := HI2.out.own
          have hsz := HI2.out.lt
          have hz1 : (((hall s b 21).length : Int) == 0) = true := by rw [hz0]; rfl
          clear hr2 hc2
          go_wp2_with (at_builtin; refine wpList_append_own _ rfl _ _ 25 rfl w1.heap.size 3 i0 (.int .i64 0) 1 8 Try.underlying25 hi hq0 hq1 hq2 rfl (by decide) _ _ _ rfl (hown.alloc _) ⟨w2.heap.size, 0, none⟩ 1 1 [.int .i64 3] rfl rfl inews inews_one (by unfold maxLen; omega) (by omega) (by simp; omega) ?_)
          intro v' w4 hown' hgrow _
          have HI4 := Lib.hid (HI2.out.app hB hA hown' hgrow)
          clear hown hown' hgrow
          go_wp2
          go_roundw
          case rel => exact ⟨k + 1, _, by omega, by rw [List.length_append, HZ.out]; rfl, by go_num, HI4.out.more (by omega)⟩
          case measure => simp [intOf]; omega
        · have hln := hall_len s b 21
          have hz1 : (((hall s b 21).length : Int) == 0) = false := by rw [beq_eq_false_iff_ne]; omega
          have HC2 := Lib.hid hc2
          clear hr2 hc2
          generalize (hall s b 21).length = L at hz0 hz1 hln HC2
          go_wp2_with (fail)
          (go_at_call 55; refine (pick_any (L : Int) B A (q + 20 + k) (by omega) (by omega) (by omega) _ HI2.out.rd).mono ?_; rintro e w3 ⟨j3, rfl, h30, h31, hr3, hg3⟩)
          obtain ⟨j, rfl⟩ : ∃ j : Nat, j3 = j := ⟨j3.toNat, by omega⟩
          have ez := (World.cell?_of_block (w := w2) (a := ⟨g2, j, none⟩) (hg3.block g2 hgs2 (fun e => by injection e; have := HI.out.gb.size; have := HI.out.lt; omega))).trans (HC2.out j (by omega))
          have HI3 := Lib.hid (HI2.out.pick hr3 hg3 hB)
          clear hr3 hg3
          generalize (hall s b 21).getD j 0 = z at ez
          have hown := HI3.out.own
          have hsz := HI3.out.lt
          go_wp2_with (at_builtin; refine wpList_append_own _ rfl _ _ 25 rfl w1.heap.size 3 i0 (.int .i64 0) 1 8 Try.underlying25 hi hq0 hq1 hq2 rfl (by decide) _ _ _ rfl (hown.alloc _) ⟨w3.heap.size, 0, none⟩ 1 1 [.int .i64 z] rfl rfl inews inews_one (by unfold maxLen; omega) (by omega) (by simp; omega) ?_)
          intro v' w4 hown' hgrow _
          have HI4 := Lib.hid (HI3.out.app hB hA hown' hgrow)
          clear hown hown' hgrow ez
          go_wp2
          go_roundw
          case rel => exact ⟨k + 1, _, by omega, by rw [List.length_append, HZ.out]; rfl, by go_num, HI4.out.more (by omega)⟩
          case measure => simp [intOf]; omega
    · have hke : k = xs.length := by omega
      subst hke
      obtain ⟨ua, uc, rfl, huc⟩ : ∃ a c, u5 = .slice a zs.length c ∧ zs.length ≤ c := by
        rcases hI.own.2 with ⟨rfl, h0⟩ | ⟨g, cap, cur, rfl, _, _, hc, _⟩
        · rw [h0]; exact ⟨none, 0, rfl, Nat.le_refl _⟩
        · exact ⟨_, _, rfl, hc⟩
      rw [hzl] at huc ⊢
      by_cases hz0 : xs.length = 0
      · have HE := Lib.hid (sungPicked (q := q) hI hl (by omega))
        rw [hzl] at HE
        rw [hz0] at HE ⊢
        clear hI hz0
        go_wp2
        go_ret2
        exact HE.out
      · have hz1 : (0 : Int) < (xs.length : Int) := by omega
        go_wp2_with (fail)
        (go_at_call 55; refine (pick_any 16 B A (q + 20 + xs.length) (by omega) (by omega) (by omega) _ hI.rd).mono ?_; rintro e w3 ⟨c, rfl, hc0, hc1, hr3, hg3⟩)
        have HI3 := Lib.hid (hI.pick hr3 hg3 hB)
        clear hI hr3 hg3
        by_cases h0 : c = 0
        · subst h0
          go_wp2_with (fail)
          (go_at_call 63; refine (l91Hex_any B A (q + 20 + xs.length + 1) (by omega) _ HI3.out.rd).mono ?_; rintro e w4 ⟨n, rfl, _, _, hr4, hg4⟩)
          have hI4 := HI3.out.pick hr4 hg4 hB
          have hrow : IRow w4 w1.heap.size w4.heap.size (.slice ua zs.length uc) zs := ⟨hI4.own, fun g hg => (hI4.own.lt g hg).2⟩
          rcases hrow.form with ⟨_, hx⟩ | ⟨g, cap, cur, hv, _, _, _, _, _, _, _, _, hcc, hfz⟩
          · rw [hx] at hzl; simp at hzl; omega
          injection hv with hv1 hv2 hv3
          subst hv1
          have d0 := hcc 0 (by omega)
          have df := hfz 0
          have HE := Lib.hid (sungPicked (q := q) (hI4.store (z := n) hB hA (by omega)) hl (by rw [List.length_set]; omega))
          rw [hzl] at HE
          clear hI4 hrow hcc hfz hr4 hg4 hv2 hv3
          go_wp2
          go_ret2
          exact HE.out
        by_cases h1 : c = 1
        · subst h1
          have hs1 := islice_lo ua xs.length uc 1 (by omega)
          rw [show ((1 : Nat) : Int) = 1 from rfl] at hs1
          obtain ⟨a9, ha9⟩ : ∃ a9, (if uc = 1 then ua else ua.map (·.add 1)) = a9 := ⟨_, rfl⟩
          rw [ha9] at hs1
          have HE := Lib.hid (fun n => sungPicked' (B := B) (A := A) (q := q) (w := w) (w' := w3.drewN n) (a := a9) (m := xs.length - 1) (c := uc - 1) (HI3.out.below (bl_drewN7 (Below.refl _ _) n)) hl (by omega))
          clear ha9
          go_wp2
          go_quiet (fail)
          go_wp2
          go_ret2
          exact HE.out _
        · have HE := Lib.hid (sungPicked (q := q) HI3.out hl (by omega))
          rw [hzl] at HE
          have d0 : (c == 0) = false := by simpa using h0
          have d1 : (c == 1) = false := by simpa using h1
          go_wp2
          go_ret2
          exact HE.out

def DrewSu (w : World) (e : Ending) (w' : World) : Prop :=
  ∃ v u xs, e = .returned (.tuple #[v, u]) ∧ TRow w' w.heap.size w'.heap.size v xs ∧ xs.length ≤ 8 ∧ Steps w' w.heap.size w'.heap.size xs.length u ∧ Below w.heap.size w w'
theorem steps_lo {w : World} {lo lo' hi n : Nat} {u : Value} (h : Steps w lo hi n u) (hl : lo' ≤ lo) : Steps w lo' hi n u := by
  rcases h with ⟨zs, h1, h2⟩ | h
  · exact .inl ⟨zs, ⟨tmono h1.1 hl, h1.2⟩, h2⟩
  · exact .inr h
theorem drawSingMutations_any (a : Option Addr) (n cap : Nat) (w : World) (h : CodeAt w a n) (hc : n ≤ cap) (hcap : cap ≤ maxLen) :
    Calls Try.prog 21 #[.slice a n cap] w (DrewSu w) := by
  go_enter Try.func21, Try.ntmps21
  go_wp2_with (fail)
  (go_at_call 36; refine (open_any a n cap _ h hc hcap).mono ?_; rintro e w1 ⟨A, rfl, hr1, hb1, hs1⟩)
  go_wp2_with (fail)
  (go_at_call 50; refine (l91Sung_any w.heap.size A 0 (by omega) _ hr1).mono ?_; rintro e w2 ⟨v, u, xs, rfl, h1, h2, h3, hg2⟩)
  have HE : Hid (DrewSu w (.returned (.tuple #[v, u])) w2) := ⟨v, u, xs, rfl, ⟨tmono h1.1 hb1.size, h1.2⟩, h2, steps_lo h3 hb1.size, below_gb hb1 hg2 (Nat.le_refl _)⟩
  clear hr1 h1 h3
  go_wp2
  first | (go_ret2; exact HE.out) | (go_ret; exact HE.out)
end Go.Proofs.Ytjodcaeohkjlnaa
