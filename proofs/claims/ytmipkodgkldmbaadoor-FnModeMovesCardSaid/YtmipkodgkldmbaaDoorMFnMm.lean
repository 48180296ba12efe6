/-
  The law FnModeMoves: for every code, moves lead to finals.
-/
import Derived.Test.YtmipkodgkldmbaaDoorBase
import Derived.WalkLawsBesides
import Derived.Handy
import Derived.Deep.QuietTactic
import Derived.BigQuiet
import Derived.IntWalk
import Derived.Test.YtmipkodgkldmbaaDoorTones
import Derived.Deep.RegionHeld3
import Derived.Deep.RegionWith
import Derived.Test.YtmipkodgkldmbaaDoorOpen
import Derived.Test.YtmipkodgkldmbaaDoorMelT
import Derived.Test.YtmipkodgkldmbaaDoorTurn
import Derived.Test.YtmipkodgkldmbaaDoorTL3
import Derived.Test.YtmipkodgkldmbaaDoorMelS
import Derived.Test.YtmipkodgkldmbaaDoorMelV
import Derived.Test.YtmipkodgkldmbaaDoorMdAl
import Derived.Test.YtmipkodgkldmbaaDoorMdTab
import Derived.Test.YtmipkodgkldmbaaDoorLaidS
import Derived.Test.YtmipkodgkldmbaaDoorLaid2
import Derived.Test.YtmipkodgkldmbaaDoorMdMv
namespace Go.Proofs.YtmipkodgkldmbaaDoor
open Go.RowKit
set_option maxRecDepth 100000
set_option linter.unusedVariables false

/-- the n bytes from a on lie in block A, which is not B -/
def BytesAt (w : World) (B A : Nat) (a : Option Addr) (n : Nat) : Prop :=
  n = 0 ∨ ∃ off, a = some ⟨A, off, none⟩ ∧ A ≠ B ∧ ∀ i, i < n → ∃ z : Int, 0 ≤ z ∧ z ≤ 255 ∧ w.cell? ⟨A, off + i, none⟩ = some (.int .u8 z)

/-- block B is a reader of bytes in block A that has made p picks -/
def RdAt (w : World) (B A : Nat) (p : Nat) : Prop :=
  ∃ a n cap, w.heap[B]? = some (.cells #[.slice a n cap, .int .i64 p] 77 (0, 0)) ∧ n ≤ 2000 ∧ A < w.heap.size ∧ BytesAt w B A a n

/-- .. at most q picks -/
def Rd (w : World) (B A : Nat) (q : Nat) : Prop := ∃ p, p ≤ q ∧ RdAt w B A p

theorem BytesAt.keep {w w' : World} {B A n : Nat} {a : Option Addr} (h : BytesAt w B A a n) (hk : A ≠ B → w'.heap[A]? = w.heap[A]?) : BytesAt w' B A a n := by
  rcases h with h | ⟨off, ha, hne, hc⟩
  · exact .inl h
  · refine .inr ⟨off, ha, hne, fun i hi => ?_⟩
    obtain ⟨z, h0, h1, hz⟩ := hc i hi
    exact ⟨z, h0, h1, (World.cell?_of_block (w := w) (a := ⟨A, off + i, none⟩) (hk hne)).trans hz⟩

theorem RdAt.lt {w : World} {B A p : Nat} (h : RdAt w B A p) : B < w.heap.size := by
  obtain ⟨a, n, cap, hh, _⟩ := h
  rcases Nat.lt_or_ge B w.heap.size with hlt | hge
  · exact hlt
  · rw [Array.getElem?_eq_none hge] at hh; cases hh
theorem Rd.lt {w : World} {B A q : Nat} (h : Rd w B A q) : B < w.heap.size := by obtain ⟨p, _, h⟩ := h; exact h.lt
theorem Rd.ltA {w : World} {B A q : Nat} (h : Rd w B A q) : A < w.heap.size := by obtain ⟨p, _, _, _, _, _, _, h, _⟩ := h; exact h
theorem RdAt.below {w w' : World} {B A p : Nat} (h : RdAt w B A p) (hb : Below w.heap.size w w') : RdAt w' B A p := by
  have hl := h.lt
  obtain ⟨a, n, cap, hh, hn, hA, hby⟩ := h
  exact ⟨a, n, cap, (hb.block B hl).trans hh, hn, Nat.lt_of_lt_of_le hA hb.size, hby.keep (fun _ => hb.block A hA)⟩
theorem Rd.below {w w' : World} {B A q : Nat} (h : Rd w B A q) (hb : Below w.heap.size w w') : Rd w' B A q := by
  obtain ⟨p, hp, h⟩ := h; exact ⟨p, hp, h.below hb⟩
theorem Rd.more {w : World} {B A q q' : Nat} (h : Rd w B A q) (hq : q ≤ q') : Rd w B A q' := by
  obtain ⟨p, hp, h⟩ := h; exact ⟨p, Nat.le_trans hp hq, h⟩
theorem Rd.alloc {w : World} {B A q : Nat} (h : Rd w B A q) (o : Obj) : Rd (w.alloc o) B A q := h.below ((Below.refl _ _).alloc (Nat.le_refl _) o)
theorem Rd.drew {w : World} {B A q : Nat} (h : Rd w B A q) : Rd w.drew B A q := h
/-- a store into another block -/
theorem Rd.set_ {w : World} {B A q : Nat} (h : Rd w B A q) {p : Addr} (hp : p.block ≠ B) (hA : p.block ≠ A) (v : Value) : Rd (w.setCell p v) B A q := by
  obtain ⟨r, hr, a, n, cap, hh, hn, hl, hby⟩ := h
  have hk : ∀ k, k ≠ p.block → (w.setCell p v).heap[k]? = w.heap[k]? := fun k hk => Below.heap_setCell _ _ _ _ hk
  exact ⟨r, hr, a, n, cap, (hk B (Ne.symm hp)).trans hh, hn, by simpa [World.setCell] using hl, hby.keep (fun _ => hk A (Ne.symm hA))⟩

/-- a pick from n: it lies in the range, the reader has made one pick more, only its block has turned -/
def Picked (n : Int) (B A q : Nat) (w : World) (e : Ending) (w' : World) : Prop :=
  ∃ k : Int, e = .returned (.int .i64 k) ∧ 0 ≤ k ∧ k < n ∧ Rd w' B A (q + 1) ∧ w.grownBy w' (some B)

theorem RdAt.cells {w : World} {B A p : Nat} (h : RdAt w B A p) : ∃ a n cap, w.cell? ⟨B, 0, none⟩ = some (.slice a n cap) ∧ w.cell? ⟨B, 1, none⟩ = some (.int .i64 p) ∧ w.frozen? ⟨B, 1, none⟩ = false ∧ n ≤ 2000 ∧ BytesAt w B A a n := by
  obtain ⟨a, n, cap, hh, hn, _, hby⟩ := h
  exact ⟨a, n, cap, by simp [World.cell?, hh], by simp [World.cell?, hh], by simp [World.frozen?, hh], hn, hby⟩

/-- the reader behind its own store -/
theorem RdAt.set_ {w : World} {B A p : Nat} (h : RdAt w B A p) (nq : Nat) : RdAt ((w.setCell ⟨B, 1, none⟩ (.int .i64 ((p : Int) + 1))).drewN nq) B A (p + 1) ∧ w.grownBy ((w.setCell ⟨B, 1, none⟩ (.int .i64 ((p : Int) + 1))).drewN nq) (some B) := by
  obtain ⟨a, n, cap, hh, hn, hl, hby⟩ := h
  have hk : ∀ k, k ≠ B → (w.setCell ⟨B, 1, none⟩ (.int .i64 ((p : Int) + 1))).heap[k]? = w.heap[k]? := fun k hk => Below.heap_setCell _ _ _ _ hk
  have hs : (w.setCell ⟨B, 1, none⟩ (.int .i64 ((p : Int) + 1))).heap.size = w.heap.size := by simp
  refine ⟨⟨a, n, cap, ?_, hn, ?_, hby.keep (w' := w.setCell ⟨B, 1, none⟩ (.int .i64 ((p : Int) + 1))) (fun h => hk A h)⟩, ⟨rfl, rfl, rfl, ?_, ?_⟩⟩
  · show (w.setCell ⟨B, 1, none⟩ (.int .i64 ((p : Int) + 1))).heap[B]? = _
    simp [World.setCell, Array.getElem?_modify, hh]
  · show A < (w.setCell ⟨B, 1, none⟩ (.int .i64 ((p : Int) + 1))).heap.size
    rw [hs]; exact hl
  · show w.heap.size ≤ (w.setCell ⟨B, 1, none⟩ (.int .i64 ((p : Int) + 1))).heap.size
    rw [hs]; exact Nat.le_refl _
  · intro k _ hne
    exact hk k (fun e => hne (by rw [e]))

/-- what a call keeps that turns block B and new ones alone -/
theorem bg {W w1 : World} {B : Nat} (hg : W.grownBy w1 (some B)) :
    (∀ b o, b < W.heap.size → b ≠ B → w1.cell? ⟨b, o, none⟩ = W.cell? ⟨b, o, none⟩) ∧ (∀ b o, b < W.heap.size → b ≠ B → w1.frozen? ⟨b, o, none⟩ = W.frozen? ⟨b, o, none⟩) ∧ W.heap.size ≤ w1.heap.size :=
  ⟨fun b o h hn => World.cell?_of_block (hg.block b h (fun e => hn (by injection e))), fun b o h hn => World.frozen?_of_block (hg.block b h (fun e => hn (by injection e))), hg.size⟩
theorem gb_refl (w : World) (B : Nat) : w.grownBy w (some B) := World.grownBy.refl w _
theorem gb_drew {a w : World} {B : Nat} (h : a.grownBy w (some B)) : a.grownBy w.drew (some B) := ⟨h.os, h.tape, h.output, h.size, h.block⟩
theorem gb_alloc {a w : World} {B : Nat} (h : a.grownBy w (some B)) (o : Obj) : a.grownBy (w.alloc o) (some B) :=
  ⟨h.os, h.tape, h.output, Nat.le_trans h.size (by simp), fun i hi hne => (Below.heap_alloc w o i (Nat.lt_of_lt_of_le hi h.size)).trans (h.block i hi hne)⟩
theorem gb_set {a w : World} {B : Nat} (h : a.grownBy w (some B)) {p : Addr} (hp : p.block = B ∨ a.heap.size ≤ p.block) (u : Value) : a.grownBy (w.setCell p u) (some B) :=
  ⟨h.os, h.tape, h.output, by simpa [World.setCell] using h.size, fun i hi hne => (Below.heap_setCell w p u i (by
    rintro rfl
    rcases hp with hp | hp
    · exact hne (by rw [hp])
    · omega)).trans (h.block i hi hne)⟩
theorem gb_step {a W w : World} {B : Nat} (h : a.grownBy W (some B)) (k : W.grownBy w (some B)) : a.grownBy w (some B) :=
  ⟨k.os.trans h.os, k.tape.trans h.tape, k.output.trans h.output, Nat.le_trans h.size k.size, fun i hi hne => (k.block i (Nat.lt_of_lt_of_le hi h.size) hne).trans (h.block i hi hne)⟩
theorem gb_bl {a W w : World} {B : Nat} (h : a.grownBy W (some B)) (k : Below W.heap.size W w) : a.grownBy w (some B) :=
  ⟨k.os.trans h.os, k.tape.trans h.tape, k.output.trans h.output, Nat.le_trans h.size k.size, fun i hi hne => (k.block i (Nat.lt_of_lt_of_le hi h.size)).trans (h.block i hi hne)⟩

end Go.Proofs.YtmipkodgkldmbaaDoor

namespace Go.Proofs.YtmipkodgkldmbaaDoor
open Go.RowKit
set_option maxRecDepth 100000
set_option linter.unusedVariables false

/-- the exclusive or of two numbers that are not negative is not negative -/
theorem xor_nn (a b : Int) (ha : 0 ≤ a) (ha1 : a < 4611686018427387904) (hb : 0 ≤ b) (hb1 : b < 4611686018427387904) : 0 ≤ bits .xor .i64 a b := by
  obtain ⟨m, rfl⟩ := Int.eq_ofNat_of_zero_le ha
  obtain ⟨n, rfl⟩ := Int.eq_ofNat_of_zero_le hb
  have e : ∀ k : Nat, k < 4611686018427387904 → (BitVec.ofInt 64 (k : Int)).toNat = k := fun k hk => by
    rw [BitVec.ofInt_natCast, BitVec.toNat_ofNat]; exact Nat.mod_eq_of_lt (by omega)
  have hx : m ^^^ n < 2 ^ 62 := Nat.xor_lt_two_pow (by omega) (by omega)
  show 0 ≤ IntKind.i64.wrap ((BitVec.ofInt 64 (m : Int) ^^^ BitVec.ofInt 64 (n : Int)).toNat : Int)
  rw [BitVec.toNat_xor, e m (by omega), e n (by omega), IntWalk.i64_in _ (by omega)]
  omega

theorem picked {n : Int} {B A q p nq : Nat} {w : World} (h : RdAt w B A p) (hp : p ≤ q) {k : Int} (h0 : 0 ≤ k) (h1 : k < n) : Picked n B A q w (.returned (.int .i64 k)) ((w.setCell ⟨B, 1, none⟩ (.int .i64 ((p : Int) + 1))).drewN nq) :=
  ⟨k, rfl, h0, h1, ⟨p + 1, by omega, (h.set_ nq).1⟩, (h.set_ nq).2⟩

set_option maxHeartbeats 1000000 in
theorem pick_any (n : Int) (B A q : Nat) (hn : 1 ≤ n) (hn2 : n ≤ 1000000) (hq : q ≤ 1000000) (w : World) (h : Rd w B A q) :
    Calls Tryd.prog 52 #[.pointer (some ⟨B, 0, none⟩), .int .i64 n] w (Picked n B A q w) := by
  obtain ⟨p, hp, h⟩ := h
  obtain ⟨a, m, cap, c0, c1, f1, hm, hby⟩ := h.cells
  have HP : ∀ nq (k : Int), 0 ≤ k → k < n → Picked n B A q w (.returned (.int .i64 k)) ((w.setCell ⟨B, 1, none⟩ (.int .i64 ((p : Int) + 1))).drewN nq) := fun nq k h0 h1 => picked h hp h0 h1
  rcases hby with rfl | ⟨off, rfl, hne, hc⟩
  · go_enter Tryd.func52, Tryd.ntmps52
    go_wp2
    go_ret
    exact HP 0 0 (by omega) (by omega)
  by_cases hm0 : m = 0
  · subst hm0
    go_enter Tryd.func52, Tryd.ntmps52
    go_wp2
    go_ret
    exact HP 0 0 (by omega) (by omega)
  have em : ((m : Int) == 0) = false := by simp; omega
  have en : decide (n < 1) = false := by simp; omega
  by_cases hpm : p < m
  · obtain ⟨z, hz0, hz1, hz⟩ := hc p hpm
    have hz' : (w.setCell ⟨B, 1, none⟩ (.int .i64 ((p : Int) + 1))).cell? ⟨A, off + p, none⟩ = some (.int .u8 z) := by
      rw [World.cell?_setCell_other _ _ _ _ (fun e => hne (by injection e with e; exact e.symm))]; exact hz
    go_enter Tryd.func52, Tryd.ntmps52
    go_wp2
    go_ret
    exact HP 0 _ (Int.emod_nonneg _ (by omega)) (Int.emod_lt_of_pos _ (by omega))
  obtain ⟨i, hi, him⟩ : ∃ i : Nat, (p : Int).tmod (m : Int) = (i : Int) ∧ i < m := ⟨p % m, by rw [Int.tmod_eq_emod_of_nonneg (by omega)]; rfl, Nat.mod_lt _ (by omega)⟩
  obtain ⟨j, hj, hjm⟩ : ∃ j : Nat, ((p : Int) * 7 + 3).tmod (m : Int) = (j : Int) ∧ j < m := ⟨(p * 7 + 3) % m, by rw [Int.tmod_eq_emod_of_nonneg (by omega)]; rfl, Nat.mod_lt _ (by omega)⟩
  obtain ⟨d, hd, hdp⟩ : ∃ d : Nat, (p : Int).tdiv (m : Int) = (d : Int) ∧ d ≤ p := ⟨p / m, by rw [Int.tdiv_eq_ediv_of_nonneg (by omega)]; rfl, Nat.div_le_self _ _⟩
  obtain ⟨z, hz0, hz1, hz⟩ := hc i him
  obtain ⟨y, hy0, hy1, hy⟩ := hc j hjm
  have hz' : (w.setCell ⟨B, 1, none⟩ (.int .i64 ((p : Int) + 1))).cell? ⟨A, off + i, none⟩ = some (.int .u8 z) := by
    rw [World.cell?_setCell_other _ _ _ _ (fun e => hne (by injection e with e; exact e.symm))]; exact hz
  have hy' : (w.setCell ⟨B, 1, none⟩ (.int .i64 ((p : Int) + 1))).cell? ⟨A, off + j, none⟩ = some (.int .u8 y) := by
    rw [World.cell?_setCell_other _ _ _ _ (fun e => hne (by injection e with e; exact e.symm))]; exact hy
  have b0 : (0 : Int) ≤ (i : Int) := by omega
  have b1 : (i : Int) < (m : Int) := by omega
  have b2 : (0 : Int) ≤ (j : Int) := by omega
  have b3 : (j : Int) < (m : Int) := by omega
  have s1 : IntKind.i64.wrap z = z := IntWalk.i64_in _ (by omega)
  have s2 : IntKind.i64.wrap y = y := IntWalk.i64_in _ (by omega)
  have s3 : IntKind.i64.wrap (z * 131) = z * 131 := IntWalk.i64_in _ (by omega)
  have s4 : IntKind.i64.wrap (y * 1117) = y * 1117 := IntWalk.i64_in _ (by omega)
  have s5 : IntKind.i64.wrap ((p : Int) * 7) = (p : Int) * 7 := IntWalk.i64_in _ (by omega)
  have s6 : IntKind.i64.wrap ((p : Int) * 7 + 3) = (p : Int) * 7 + 3 := IntWalk.i64_in _ (by omega)
  have s7 : IntKind.i64.wrap (z * 131 + y * 1117) = z * 131 + y * 1117 := IntWalk.i64_in _ (by omega)
  have s8 : IntKind.i64.wrap ((p : Int) * 29) = (p : Int) * 29 := IntWalk.i64_in _ (by omega)
  have s9 : IntKind.i64.wrap (z * 131 + y * 1117 + (p : Int) * 29) = z * 131 + y * 1117 + (p : Int) * 29 := IntWalk.i64_in _ (by omega)
  have s10 : IntKind.i64.wrap (d : Int) = (d : Int) := IntWalk.i64_in _ (by omega)
  have s11 : IntKind.i64.wrap ((d : Int) * 53) = (d : Int) * 53 := IntWalk.i64_in _ (by omega)
  have s12 : IntKind.i64.wrap (z * 131 + y * 1117 + (p : Int) * 29 + (d : Int) * 53) = z * 131 + y * 1117 + (p : Int) * 29 + (d : Int) * 53 := IntWalk.i64_in _ (by omega)
  clear hc hz hy
  go_enter Tryd.func52, Tryd.ntmps52
  go_wp2
  go_quiet (fail)
  go_wp2
  go_ret
  have hx := xor_nn (z * 131 + y * 1117 + (p : Int) * 29 + (d : Int) * 53) ((z * 131 + y * 1117 + (p : Int) * 29 + (d : Int) * 53) / 64) (by omega) (by omega) (by omega) (by omega)
  exact HP nq _ (Int.tmod_nonneg _ hx) (Int.tmod_lt_of_pos _ (by omega))

end Go.Proofs.YtmipkodgkldmbaaDoor

namespace Go.Proofs.YtmipkodgkldmbaaDoor
open Go.RowKit
set_option maxRecDepth 100000
set_option linter.unusedVariables false

/-- a []byte that came in -/
def CodeAt (w : World) (a : Option Addr) (n : Nat) : Prop :=
  n = 0 ∨ ∃ A off, a = some ⟨A, off, none⟩ ∧ A < w.heap.size ∧ ∀ i, i < n → ∃ z : Int, 0 ≤ z ∧ z ≤ 255 ∧ w.cell? ⟨A, off + i, none⟩ = some (.int .u8 z)

/-- what opening gives: a reader in the new block -/
def Opened (w : World) (e : Ending) (w' : World) : Prop :=
  ∃ A, e = .returned (.pointer (some ⟨w.heap.size, 0, none⟩)) ∧ Rd w' w.heap.size A 0 ∧ Below w.heap.size w w' ∧ w.heap.size < w'.heap.size

theorem opened {w : World} {a : Option Addr} {n m cap : Nat} (h : CodeAt w a n) (hm : m ≤ n) (hl : m ≤ 2000) :
    Opened w (.returned (.pointer (some ⟨w.heap.size, 0, none⟩))) (w.alloc (.cells #[.slice a m cap, .int .i64 0] 77)) := by
  have hh : (w.alloc (.cells #[.slice a m cap, .int .i64 0] 77)).heap[w.heap.size]? = some (.cells #[.slice a m cap, .int .i64 ((0 : Nat) : Int)] 77 (0, 0)) := heap_alloc_new w _
  have hb : Below w.heap.size w (w.alloc (.cells #[.slice a m cap, .int .i64 0] 77)) := (Below.refl _ _).alloc (Nat.le_refl _) _
  rcases h with rfl | ⟨A, off, rfl, hA, hc⟩
  · exact ⟨w.heap.size, rfl, ⟨0, Nat.le_refl _, _, _, _, hh, hl, by simp, .inl (by omega)⟩, hb, by simp⟩
  · refine ⟨A, rfl, ⟨0, Nat.le_refl _, _, _, _, hh, hl, by simp; omega, .inr ⟨off, rfl, by omega, fun i hi => ?_⟩⟩, hb, by simp⟩
    obtain ⟨z, h0, h1, hz⟩ := hc i (by omega)
    exact ⟨z, h0, h1, (hb.cell (p := ⟨A, off + i, none⟩) hA).trans hz⟩

theorem open_any (a : Option Addr) (n cap : Nat) (w : World) (h : CodeAt w a n) (hc : n ≤ cap) (hcap : cap ≤ maxLen) :
    Calls Tryd.prog 48 #[.slice a n cap] w (Opened w) := by
  unfold maxLen at hcap
  have H : ∀ m c, m ≤ n → m ≤ 2000 → Opened w (.returned (.pointer (some ⟨w.heap.size, 0, none⟩))) (w.alloc (.cells #[.slice a m c, .int .i64 0] 77)) := fun m c h1 h2 => opened h h1 h2
  by_cases hn : n ≤ 2000
  · have g : decide ((2000 : Int) < (n : Int)) = false := by simp; omega
    go_enter Tryd.func48, Tryd.ntmps48
    go_wp2
    go_ret
    exact H n cap (Nat.le_refl _) hn
  · have g : (2000 : Int) < (n : Int) := by omega
    have g2 : (2000 : Int) ≤ (cap : Int) := by omega
    go_enter Tryd.func48, Tryd.ntmps48
    go_wp2
    go_ret
    exact H 2000 cap (by omega) (Nat.le_refl _)

/-- a tone that was drawn: its step lies near the gamut -/
def TonePicked (B A q : Nat) (w : World) (e : Ending) (w' : World) : Prop :=
  ∃ (s : Int) (b : Bool), e = .returned (.agg #[.int .i64 s, .bool b]) ∧ -1 ≤ s ∧ s ≤ 21 ∧ Rd w' B A (q + 3) ∧ w.grownBy w' (some B)

end Go.Proofs.YtmipkodgkldmbaaDoor

namespace Go.Proofs.YtmipkodgkldmbaaDoor
open Go.RowKit
set_option maxRecDepth 100000
set_option linter.unusedVariables false

theorem CodeAt.below {w w' : World} {a : Option Addr} {n : Nat} (h : CodeAt w a n) (hb : Below w.heap.size w w') : CodeAt w' a n := by
  rcases h with h | ⟨A, off, ha, hA, hc⟩
  · exact .inl h
  · refine .inr ⟨A, off, ha, Nat.lt_of_lt_of_le hA hb.size, fun i hi => ?_⟩
    obtain ⟨z, h0, h1, hz⟩ := hc i hi
    exact ⟨z, h0, h1, (hb.cell (p := ⟨A, off + i, none⟩) hA).trans hz⟩
theorem CodeAt.alloc {w : World} {a : Option Addr} {n : Nat} (h : CodeAt w a n) (o : Obj) : CodeAt (w.alloc o) a n := h.below ((Below.refl _ _).alloc (Nat.le_refl _) o)

def sel3 (x y z k : Int) : Int := if k = 0 then x else if k = 1 then y else z

theorem sel3_cell {w : World} {b : Nat} {x y z k : Int} (h0 : 0 ≤ k) (h1 : k < 3) (c0 : w.cell? ⟨b, 0, none⟩ = some (.int .i64 x)) (c1 : w.cell? ⟨b, 1, none⟩ = some (.int .i64 y)) (c2 : w.cell? ⟨b, 2, none⟩ = some (.int .i64 z)) :
    w.cell? ⟨b, k.toNat, none⟩ = some (.int .i64 (sel3 x y z k)) := by
  have : k = 0 ∨ k = 1 ∨ k = 2 := by omega
  rcases this with rfl | rfl | rfl
  · exact c0
  · exact c1
  · exact c2
theorem sel2_cell {w : World} {b : Nat} {x y k : Int} (h0 : 0 ≤ k) (h1 : k < 2) (c0 : w.cell? ⟨b, 0, none⟩ = some (.int .i64 x)) (c1 : w.cell? ⟨b, 1, none⟩ = some (.int .i64 y)) :
    w.cell? ⟨b, k.toNat, none⟩ = some (.int .i64 (sel3 x y 0 k)) := by
  have : k = 0 ∨ k = 1 := by omega
  rcases this with rfl | rfl
  · exact c0
  · exact c1
theorem sel3_arr {x y z k : Int} (h0 : 0 ≤ k) (h1 : k < 3) : (#[.int .i64 x, .int .i64 y, .int .i64 z] : Array Value)[k.toNat]? = some (.int .i64 (sel3 x y z k)) := by
  have : k = 0 ∨ k = 1 ∨ k = 2 := by omega
  rcases this with rfl | rfl | rfl <;> rfl
theorem sel3_list {x y z k : Int} (h0 : 0 ≤ k) (h1 : k < 3) : ([.int .i64 x, .int .i64 y, .int .i64 z] : List Value)[k.toNat]? = some (.int .i64 (sel3 x y z k)) := by
  have : k = 0 ∨ k = 1 ∨ k = 2 := by omega
  rcases this with rfl | rfl | rfl <;> rfl
theorem sel2_arr {x y k : Int} (h0 : 0 ≤ k) (h1 : k < 2) : (#[.int .i64 x, .int .i64 y] : Array Value)[k.toNat]? = some (.int .i64 (sel3 x y 0 k)) := by
  have : k = 0 ∨ k = 1 := by omega
  rcases this with rfl | rfl <;> rfl
theorem sel2_list {x y k : Int} (h0 : 0 ≤ k) (h1 : k < 2) : ([.int .i64 x, .int .i64 y] : List Value)[k.toNat]? = some (.int .i64 (sel3 x y 0 k)) := by
  have : k = 0 ∨ k = 1 := by omega
  rcases this with rfl | rfl <;> rfl
theorem sel3_get {x y z k : Int} (h0 : 0 ≤ k) (h1 : k < 3) (h : k.toNat < ([.int .i64 x, .int .i64 y, .int .i64 z] : List Value).length) : ([.int .i64 x, .int .i64 y, .int .i64 z] : List Value)[k.toNat] = .int .i64 (sel3 x y z k) := by
  have := sel3_list (x := x) (y := y) (z := z) h0 h1
  rw [List.getElem?_eq_getElem h] at this
  exact Option.some.inj this
theorem sel2_get {x y k : Int} (h0 : 0 ≤ k) (h1 : k < 2) (h : k.toNat < ([.int .i64 x, .int .i64 y] : List Value).length) : ([.int .i64 x, .int .i64 y] : List Value)[k.toNat] = .int .i64 (sel3 x y 0 k) := by
  have := sel2_list (x := x) (y := y) h0 h1
  rw [List.getElem?_eq_getElem h] at this
  exact Option.some.inj this
theorem sel3_bd {x y z k : Int} (lo hi : Int) (hx : lo ≤ x ∧ x ≤ hi) (hy : lo ≤ y ∧ y ≤ hi) (hz : lo ≤ z ∧ z ≤ hi) : lo ≤ sel3 x y z k ∧ sel3 x y z k ≤ hi := by
  unfold sel3; split
  · exact hx
  · split
    · exact hy
    · exact hz

/-- a reader's step behind older memory -/
theorem below_gb {w W w1 : World} {B : Nat} (h : Below w.heap.size w W) (hg : W.grownBy w1 (some B)) (hB : w.heap.size ≤ B) : Below w.heap.size w w1 :=
  h.grown hg h.size (fun k hk => by injection hk with hk; omega)

def DrewAbove (w : World) (e : Ending) (w' : World) : Prop :=
  ∃ (s : Int) (b : Bool) (k : Int) (c : Bool), e = .returned (.tuple #[.agg #[.int .i64 s, .bool b], .int .i64 k, .bool c]) ∧ -1 ≤ s ∧ s ≤ 21 ∧ -9223372036854775808 ≤ k ∧ k ≤ 9223372036854775807 ∧ Below w.heap.size w w'

end Go.Proofs.YtmipkodgkldmbaaDoor

namespace Go.Proofs.YtmipkodgkldmbaaDoor
open Go.RowKit Go.ChangeShapes Go.WideShapes Go.ChangeAt
set_option maxRecDepth 100000
set_option linter.unusedVariables false

section
variable {H : Type} {enc : TypeId × Value → H} {w : World} {base : Nat} {spare : Nat → Bool} {held : Bool}
theorem code_in {a : Option Addr} {n c : Nat} {d : DataW H} {p : List MemPlace} (h : DataW.Trod enc Tryd.prog w base spare held 22 (.slice a n c) d p) : CodeAt w a n ∧ n ≤ c ∧ c ≤ maxLen := by
  obtain ⟨fuel, hf⟩ := h
  rcases open_ints Tryd.underlying22 Tryd.underlying5 (by kernel_rfl) hf with ⟨hcs, _⟩ | ⟨x, l, c', zs, hcs, _, hl, hm, hz, _, hcell, hwz⟩
  · simp [Value.cells] at hcs
    obtain ⟨rfl, rfl, rfl⟩ := hcs
    exact ⟨.inl rfl, Nat.le_refl _, Nat.zero_le _⟩
  · simp [Value.cells] at hcs
    obtain ⟨rfl, rfl, rfl⟩ := hcs
    refine ⟨?_, hl, hm⟩
    have hlen : n ≤ zs.length := by rw [hz]; split <;> omega
    by_cases hn : n = 0
    · exact .inl hn
    obtain ⟨A, off, rfl, hc'⟩ := ints_at hcell (by omega)
    refine .inr ⟨A, off, rfl, World.block_lt_of_cell? w _ (hc' 0 (by omega)), fun i hi => ?_⟩
    have hb := hwz (zs.getD i 0) (by rw [List.getD_eq_getElem?_getD, List.getElem?_eq_getElem (by omega)]; exact List.getElem_mem _)
    have hx : 0 ≤ zs.getD i 0 ∧ zs.getD i 0 ≤ 255 := by simpa [Lit.wf, IntKind.min, IntKind.max, IntKind.signed, IntKind.bits] using hb
    exact ⟨zs.getD i 0, hx.1, hx.2, hc' i (by omega)⟩
end

end Go.Proofs.YtmipkodgkldmbaaDoor

namespace Go.Proofs.YtmipkodgkldmbaaDoor
open Go.RowKit
set_option maxRecDepth 100000
set_option linter.unusedVariables false

theorem Rd.grown {w w' : World} {B A q : Nat} {row : Option Nat} (h : Rd w B A q) (hg : w.grownBy w' row) (hB : some B ≠ row) (hA : some A ≠ row) : Rd w' B A q := by
  have hlB := h.lt
  have hlA := h.ltA
  obtain ⟨p, hp, a, n, cap, hh, hn, hl, hby⟩ := h
  exact ⟨p, hp, a, n, cap, (hg.block B hlB hB).trans hh, hn, Nat.lt_of_lt_of_le hl hg.size, hby.keep (fun _ => hg.block A hlA hA)⟩
theorem gb_own {a w w' : World} {B : Nat} {row : Option Nat} {o : Obj} (h : a.grownBy w (some B)) (hg : (w.alloc o).grownBy w' row) (hr : ∀ g, row = some g → a.heap.size ≤ g) : a.grownBy w' (some B) := by
  have h1 := gb_alloc h o
  exact ⟨hg.os.trans h1.os, hg.tape.trans h1.tape, hg.output.trans h1.output, Nat.le_trans h1.size hg.size, fun i hi hne => (hg.block i (Nat.lt_of_lt_of_le hi h1.size) (fun e => by have := hr i e.symm; omega)).trans (h1.block i hi hne)⟩

/-- the drawing loop's state -/
structure DmInv (w wr : World) (B A q : Nat) (v : Value) (xs : List (Int × Bool)) : Prop where
  own : wr.ownsRow w.heap.size 33 2 v xs.length (tcs xs)
  rd : Rd wr B A q
  gb : w.grownBy wr (some B)
theorem DmInv.pick {w wr w1 : World} {B A q q' : Nat} {v : Value} {xs : List (Int × Bool)} (h : DmInv w wr B A q v xs) (hr : Rd w1 B A q') (hg : wr.grownBy w1 (some B)) (hB : B < w.heap.size) : DmInv w w1 B A q' v xs := by
  refine ⟨h.own.kept hg ?_, hr, gb_step h.gb hg⟩
  right
  intro e
  have := (h.own.lt B e).1
  omega
theorem DmInv.app {w wr w2 : World} {B A q : Nat} {v v' : Value} {xs : List (Int × Bool)} {t : Int × Bool} {o : Obj} (h : DmInv w wr B A q v xs) (hB : B < w.heap.size) (hA : A < w.heap.size)
    (hown : w2.ownsRow w.heap.size 33 2 v' (xs.length + 1) (tcs xs ++ [.int .i64 t.1, .bool t.2])) (hg : (wr.alloc o).grownBy w2 v.ownBlock) : DmInv w w2 B A q v' (xs ++ [t]) := by
  have hlt : ∀ g, v.ownBlock = some g → w.heap.size ≤ g := fun g hg => (h.own.lt g hg).1
  refine ⟨?_, (h.rd.alloc o).grown hg (fun e => by have := hlt B e.symm; omega) (fun e => by have := hlt A e.symm; omega), gb_own h.gb hg hlt⟩
  have e : tcs (xs ++ [t]) = tcs xs ++ [.int .i64 t.1, .bool t.2] := by rw [tcs_app]; rfl
  rw [e]; simpa using hown

def MelPicked (B A q : Nat) (most : Nat) (w : World) (e : Ending) (w' : World) : Prop :=
  ∃ v xs, e = .returned v ∧ DmInv w w' B A (q + 2 * most + 4) v xs ∧ xs.length ≤ most
theorem melPicked {B A q q' most : Nat} {w w' : World} {v : Value} {xs : List (Int × Bool)} (h : DmInv w w' B A q' v xs) (hq : q' ≤ q + 2 * most + 4) (hl : xs.length ≤ most) : MelPicked B A q most w (.returned v) w' :=
  ⟨v, xs, rfl, ⟨h.own, h.rd.more hq, h.gb⟩, hl⟩

/-- a store into the row -/
theorem DmInv.store {w wr : World} {B A q : Nat} {v : Value} {xs ys : List (Int × Bool)} {g i : Nat} {u : Value} (h : DmInv w wr B A q v xs) (hv : v.ownBlock = some g) (hB : B < w.heap.size) (hA : A < w.heap.size)
    (hi : i < xs.length * 2) (hy : tcs ys = (tcs xs).set i u) (hl : ys.length = xs.length) : DmInv w (wr.setCell ⟨g, i, none⟩ u) B A q v ys := by
  have hg := (h.own.lt g hv).1
  refine ⟨?_, h.rd.set_ (by show g ≠ B; omega) (by show g ≠ A; omega) u, ?_⟩
  · obtain ⟨hln, h1 | ⟨g', cap, cur, rfl, hb, hh, hc, hm, hsz, htk⟩⟩ := h.own
    · rw [h1.1] at hv; simp [Value.ownBlock] at hv
    · have e : g' = g := by simpa [Value.ownBlock] using hv
      subst e
      rw [hl]
      refine ⟨by rw [tcs_len, hl], .inr ⟨g', cap, cur.setIfInBounds i u, rfl, hb, by simp [World.setCell, Array.getElem?_modify, hh], hc, hm, by simpa using hsz, ?_⟩⟩
      rw [Array.toList_setIfInBounds, hy, ← htk, List.take_set]
  · exact gb_set h.gb (.inr hg) u
theorem tcs_set0 (t : Int × Bool) (r : List (Int × Bool)) (k : Int) : tcs ((k, t.2) :: r) = (tcs (t :: r)).set 0 (.int .i64 k) := rfl
theorem tcs_setA {xs : List (Int × Bool)} {t : Int × Bool} (h : xs[0]? = some t) (k : Int) : tcs (xs.set 0 (k, t.2)) = (tcs xs).set 0 (.int .i64 k) := by
  cases xs with
  | nil => simp at h
  | cons u r => simp at h; subst h; rfl
theorem tcs_setB {xs : List (Int × Bool)} {i : Nat} {t : Int × Bool} (h : xs[i]? = some t) (b : Bool) : tcs (xs.set i (t.1, b)) = (tcs xs).set (i * 2 + 1) (.bool b) := by
  induction xs generalizing i with
  | nil => simp at h
  | cons u r ih =>
    cases i with
    | zero => simp at h; subst h; rfl
    | succ j =>
      have := ih (i := j) (by simpa using h)
      rw [show (j + 1) * 2 + 1 = (j * 2 + 1) + 1 + 1 by omega]
      simp [tcs, this]

set_option maxHeartbeats 8000000 in
theorem l91Melody_any (B A q most : Nat) (hm : most ≤ 24) (hq : q ≤ 900000) (w : World) (h : Rd w B A q) :
    Calls Tryd.prog 67 #[.pointer (some ⟨B, 0, none⟩), .int .i64 (most : Int)] w (MelPicked B A q most w) := by
  obtain ⟨i0, hi, hq0, hq1, hq2⟩ := info_parts infoTone
  have hB := h.lt
  have hA := h.ltA
  have hI0 : DmInv w (w.alloc (.cells #[] 33)) B A q (.slice (some ⟨w.heap.size, 0, none⟩) 0 0) [] :=
    ⟨⟨rfl, .inr ⟨w.heap.size, 0, #[], rfl, Nat.le_refl _, heap_alloc_new w _, by simp, by simp [maxLen], by simp, by simp [tcs]⟩⟩, h.alloc _, gb_alloc (gb_refl _ _) _⟩
  clear h
  go_enter Tryd.func67, Tryd.ntmps67
  go_wp2_with (fail)
  (go_at_call 52; refine (pick_any ((most : Int) + 1) B A q (by omega) (by omega) (by omega) _ hI0.rd).mono ?_; rintro e w1 ⟨n, rfl, hn0, hn1, hr1, hb1⟩)
  have hI1 := hI0.pick hr1 hb1 hB
  clear hI0 hr1 hb1
  go_wp2_with (fail)
  (go_at_call 52; refine (pick_any 5 B A (q + 1) (by omega) (by omega) (by omega) _ hI1.rd).mono ?_; rintro e w2 ⟨s0, rfl, hs0, hs1, hr2, hb2⟩)
  have hI2 := hI1.pick hr2 hb2 hB
  clear hI1 hr2 hb2
  obtain ⟨N, rfl⟩ : ∃ N : Nat, n = (N : Int) := ⟨n.toNat, by omega⟩
  have hN : N ≤ most := by omega
  go_wp2
  go_loopw [5, 7, 8] (fun v st i wr => ∃ (k : Nat) (s : Int) (xs : List (Int × Bool)), k ≤ N ∧ xs.length = k ∧ i = .int .i64 k ∧ st = .int .i64 s ∧ 1 ≤ s ∧ s ≤ 15 ∧ DmInv w wr B A (q + 2 + 2 * k) v xs) (fun _ _ i _ => N - (intOf i).toNat)
  case atStart => exact ⟨0, _, [], Nat.zero_le _, rfl, rfl, rfl, by omega, by omega, hI2⟩
  case round =>
    obtain ⟨k, s, xs, hk, hx, rfl, rfl, h1, h15, hI⟩ := hrel
    by_cases hlt : k < N
    · have hk0 : (0 : Int) ≤ (k : Int) := by omega
      have hk1 : (k : Int) < (N : Int) := by omega
      clear hI2
      by_cases g2 : s % 7 = 2
      · have e2 : (s % 7 == 2) = true := by simpa using g2
        clear g2
        go_wp2_with (fail)
        (go_at_call 74; refine (l1Letter_any _ (by omega) _).mono ?_; rintro e wx ⟨rfl, rfl⟩)
        go_wp2_with (fail)
        (go_at_call 52; refine (pick_any 3 B A (q + 2 + 2 * k) (by omega) (by omega) (by omega) _ hI.rd).mono ?_; rintro e w3 ⟨b3, rfl, _, _, hr3, hb3⟩)
        have hI3 := hI.pick hr3 hb3 hB
        have hown := hI3.own
        have HI := Lib.hid hI3
        rw [hx] at hown
        have HX := Lib.hid hx
        clear hI hI3 hr3 hb3 hx
        go_wp2_with (at_builtin; refine wpList_append_own _ rfl _ _ 28 rfl w.heap.size 33 i0 (.agg #[.int .i64 0, .bool false]) 2 16 Tryd.underlying28 hi hq0 hq1 hq2 rfl (by decide) _ _ _ rfl (hown.alloc _) ⟨w3.heap.size, 0, none⟩ 1 1 [.int .i64 s, .bool (b3 == 0)] rfl rfl news2 news2_one (by unfold maxLen; omega) (by omega) (by have := HI.out.gb.size; simp; omega) ?_)
        intro v' w4 hown' hgrow _
        have hI4 := HI.out.app (t := (s, (b3 == 0))) hB hA (by rw [HX.out]; exact hown') hgrow
        clear hown hown' hgrow
        go_wp2_with (fail)
        (go_at_call 52; refine (pick_any 5 B A (q + 2 + 2 * k + 1) (by omega) (by omega) (by omega) _ hI4.rd).mono ?_; rintro e w5 ⟨b5, rfl, h50, h51, hr5, hb5⟩)
        have hI5 := hI4.pick hr5 hb5 hB
        have HI5 := Lib.hid hI5
        clear hI4 hI5 hr5 hb5
        go_wp2
        all_goals
          go_roundw
          case rel => exact ⟨k + 1, _, _, by omega, by rw [List.length_append, HX.out]; rfl, by go_num, rfl, by omega, by omega, ⟨HI5.out.own, HI5.out.rd.more (by omega), HI5.out.gb⟩⟩
          case measure => simp [intOf]; omega
      · have e2 : (s % 7 == 2) = false := by simpa using g2
        clear g2
        go_wp2_with (fail)
        (go_at_call 74; refine (l1Letter_any _ (by omega) _).mono ?_; rintro e wx ⟨rfl, rfl⟩)
        have hown := hI.own
        have HI := Lib.hid hI
        rw [hx] at hown
        have HX := Lib.hid hx
        clear hI hx
        go_wp2_with (at_builtin; refine wpList_append_own _ rfl _ _ 28 rfl w.heap.size 33 i0 (.agg #[.int .i64 0, .bool false]) 2 16 Tryd.underlying28 hi hq0 hq1 hq2 rfl (by decide) _ _ _ rfl (hown.alloc _) ⟨wr.heap.size, 0, none⟩ 1 1 [.int .i64 s, .bool false] rfl rfl news2 news2_one (by unfold maxLen; omega) (by omega) (by have := HI.out.gb.size; simp; omega) ?_)
        intro v' w4 hown' hgrow _
        have hI4 := HI.out.app (t := (s, false)) hB hA (by rw [HX.out]; exact hown') hgrow
        clear hown hown' hgrow
        go_wp2_with (fail)
        (go_at_call 52; refine (pick_any 5 B A (q + 2 + 2 * k) (by omega) (by omega) (by omega) _ hI4.rd).mono ?_; rintro e w5 ⟨b5, rfl, h50, h51, hr5, hb5⟩)
        have hI5 := hI4.pick hr5 hb5 hB
        have HI5 := Lib.hid hI5
        clear hI4 hI5 hr5 hb5
        go_wp2
        all_goals
          go_roundw
          case rel => exact ⟨k + 1, _, _, by omega, by rw [List.length_append, HX.out]; rfl, by go_num, rfl, by omega, by omega, ⟨HI5.out.own, HI5.out.rd.more (by omega), HI5.out.gb⟩⟩
          case measure => simp [intOf]; omega
    · have hk0 : k = N := by omega
      subst hk0
      by_cases hz : k = 0
      · have HE := Lib.hid (melPicked (most := most) (q := q) hI (by omega) (by omega))
        subst hz
        clear hI hI2
        go_wp2
        go_ret
        exact HE.out
      · have hkp : (0 : Int) < (k : Int) := by omega
        clear hI2
        go_wp2_with (fail)
        (go_at_call 52; refine (pick_any 50 B A (q + 2 + 2 * k) (by omega) (by omega) (by omega) _ hI.rd).mono ?_; rintro e w3 ⟨c, rfl, hc0, hc1, hr3, hb3⟩)
        have hI3 := hI.pick hr3 hb3 hB
        clear hI hr3 hb3
        by_cases hc : c = 0
        · subst hc
          rcases hI3.own.2 with hz' | ⟨g, cap, cur, rfl, hb, hh, hcc, hm', hsz, htk⟩
          · exfalso; have := hz'.2; simp at this; omega
          have hgs : g < w3.heap.size := by
            rcases Nat.lt_or_ge g w3.heap.size with h | h
            · exact h
            · rw [Array.getElem?_eq_none h] at hh; cases hh
          have hI4 : DmInv w (w3.alloc (.cells #[.int .i64 (-1), .int .i64 21, .int .i64 20] 3)) B A (q + 2 + 2 * k + 1) (.slice (some ⟨g, 0, none⟩) xs.length cap) xs := ⟨hI3.own.alloc _, hI3.rd.alloc _, gb_alloc hI3.gb _⟩
          have HI4 := Lib.hid hI4
          clear hI3 hI4
          go_wp2_with (fail)
          (go_at_call 52; refine (pick_any 3 B A (q + 2 + 2 * k + 1) (by omega) (by omega) (by omega) _ HI4.out.rd).mono ?_; rintro e w4 ⟨d, rfl, hd0, hd1, hr4, hb4⟩)
          have hgB : g ≠ B := by omega
          have hwB : w3.heap.size ≠ B := by omega
          have k0 : 0 < cur.size := by omega
          have hh4 : w4.heap[g]? = some (.cells cur 33 (0, 0)) := (hb4.block g (by simp; omega) (by simpa using hgB)).trans ((heap_alloc_old w3 _ hgs).trans hh)
          have d0 : w4.cell? ⟨g, 0, none⟩ = some cur[0] := by simp [World.cell?, hh4, Array.getElem?_eq_getElem k0]
          have df : w4.frozen? ⟨g, 0, none⟩ = false := by simp [World.frozen?, hh4]
          have hn4 := (hb4.block w3.heap.size (by simp) (by simpa using hwB)).trans (heap_alloc_new w3 _)
          have e4 : w4.cell? ⟨w3.heap.size, d.toNat, none⟩ = some (.int .i64 (sel3 (-1) 21 20 d)) := by simp [World.cell?, hn4, sel3_arr hd0 hd1]
          have hI5 := HI4.out.pick hr4 hb4 hB
          obtain ⟨t, ht⟩ : ∃ t, xs[0]? = some t := ⟨xs[0], List.getElem?_eq_getElem (by omega)⟩
          have HE := Lib.hid (melPicked (most := most) (q := q) (hI5.store (i := 0) rfl hB hA (by omega) (tcs_setA ht (sel3 (-1) 21 20 d)) (by simp)) (by omega) (by simp; omega))
          clear hI5 hh hh4 hn4 htk hsz ht
          go_wp2
          go_ret
          have hE := HE.out
          rw [hx] at hE
          exact hE
        by_cases hc1 : c = 1
        · subst hc1
          rcases hI3.own.2 with hz' | ⟨g, cap, cur, rfl, hb, hh, hcc, hm', hsz, htk⟩
          · exfalso; have := hz'.2; simp at this; omega
          obtain ⟨t, ht⟩ : ∃ t, xs[k - 1]? = some t := ⟨xs[k - 1], List.getElem?_eq_getElem (by omega)⟩
          have k1 : (k - 1) * 2 + 1 < cur.size := by omega
          have d1 : w3.cell? ⟨g, (k - 1) * 2 + 1, none⟩ = some cur[(k - 1) * 2 + 1] := by simp [World.cell?, hh, Array.getElem?_eq_getElem k1]
          have df : w3.frozen? ⟨g, (k - 1) * 2 + 1, none⟩ = false := by simp [World.frozen?, hh]
          have HE := Lib.hid (melPicked (most := most) (q := q) (hI3.store (i := (k - 1) * 2 + 1) rfl hB hA (by omega) (tcs_setB ht true) (by simp)) (by omega) (by simp; omega))
          clear hI3 hh htk hsz ht
          go_wp2
          go_ret
          have hE := HE.out
          rw [hx] at hE
          exact hE
        · have HE := Lib.hid (melPicked (most := most) (q := q) hI3 (by omega) (by omega))
          have d0 : (c == 0) = false := by simpa using hc
          have d1 : (c == 1) = false := by simpa using hc1
          clear hI3
          go_wp2
          go_ret
          exact HE.out

end Go.Proofs.YtmipkodgkldmbaaDoor

namespace Go.Proofs.YtmipkodgkldmbaaDoor
open Go.RowKit
set_option maxRecDepth 100000
set_option linter.unusedVariables false

def DrewMel (most : Nat) (w : World) (e : Ending) (w' : World) : Prop :=
  ∃ v xs, e = .returned v ∧ TRow w' w.heap.size w'.heap.size v xs ∧ xs.length ≤ most ∧ Below w.heap.size w w'
theorem drewMel {B A q most : Nat} {w w1 w2 : World} {v : Value} {xs : List (Int × Bool)} (h : DmInv w1 w2 B A q v xs) (hl : xs.length ≤ most) (hb : Below w.heap.size w w1) (hB : w.heap.size ≤ B) : DrewMel most w (.returned v) w2 :=
  ⟨v, xs, rfl, ⟨tmono h.own hb.size, fun g hg => (h.own.lt g hg).2⟩, hl, below_gb hb h.gb hB⟩

end Go.Proofs.YtmipkodgkldmbaaDoor

namespace Go.Proofs.YtmipkodgkldmbaaDoor
open Go.RowKit
set_option maxRecDepth 100000
set_option linter.unusedVariables false

theorem IRow.flat' {w : World} {lo hi n : Nat} {v : Value} {xs : List Int} (h : IRow w lo hi v xs) (hn : xs.length = n) : ∃ a cap, v = .slice a n cap ∧ (0 < n → ∃ g, a = some ⟨g, 0, none⟩ ∧ g < w.heap.size ∧ ∀ i, i < n → w.cell? ⟨g, i, none⟩ = some (.int .i64 (xs.getD i 0))) := by
  rcases h.form with ⟨rfl, rfl⟩ | ⟨g, cap, cur, rfl, _, _, hg, _, _, _, _, _, hc, _⟩
  · subst hn; exact ⟨none, 0, rfl, fun h => by simp at h⟩
  · subst hn; exact ⟨_, cap, rfl, fun _ => ⟨g, rfl, hg, hc⟩⟩

theorem sameInts_yes (lo hi lo' hi' : Nat) (v u : Value) (xs : List Int) (hx : xs.length ≤ 1000000) (w : World) (h : IRow w lo hi v xs) (k : IRow w lo' hi' u xs) :
    Calls Tryd.prog 28 #[v, u] w fun e w' => e = .returned (.bool true) ∧ Below w.heap.size w w' := by
  obtain ⟨n, hn⟩ : ∃ n, xs.length = n := ⟨_, rfl⟩
  obtain ⟨a, ca, rfl, fa⟩ := h.flat' hn
  obtain ⟨b, cb, rfl, fb⟩ := k.flat' hn
  rw [hn] at hx
  have FA := Lib.hid fa
  have FB := Lib.hid fb
  clear h k fa fb hn
  go_enter Tryd.func28, Tryd.ntmps28
  go_wp2
  go_loopw [5] (fun i wr => ∃ k : Nat, k ≤ n ∧ i = .int .i64 k ∧ Below w.heap.size w wr) (fun i _ => n - (intOf i).toNat)
  case atStart => exact ⟨0, Nat.zero_le _, rfl, Below.refl _ _⟩
  case round =>
    obtain ⟨k, hk, rfl, hb⟩ := hrel
    by_cases hlt : k < n
    · obtain ⟨g, rfl, sA, eA⟩ := FA.out (by omega)
      obtain ⟨g', rfl, sB, eB⟩ := FB.out (by omega)
      have e1 := (hb.cell (p := ⟨g, k, none⟩) sA).trans (eA k hlt)
      have e2 := (hb.cell (p := ⟨g', k, none⟩) sB).trans (eB k hlt)
      have hk0 : (0 : Int) ≤ (k : Int) := by omega
      have hk1 : (k : Int) < (n : Int) := by omega
      clear eA eB
      generalize xs.getD k 0 = z at e1 e2
      go_wp2
      go_quiet (fail)
      all_goals
        go_wp2
        go_roundw
        case rel => exact ⟨k + 1, by omega, by go_num, by first | exact hb | exact hb.drew | exact ⟨hb.os, hb.tape, hb.output, hb.size, hb.block⟩⟩
        case measure => simp [intOf]; omega
    · go_wp2
      go_ret
      exact ⟨rfl, hb⟩

/-- the sum of the first k -/
def sumT (xs : List Int) : Nat → Int
  | 0 => 0
  | k + 1 => sumT xs k + xs.getD k 0
theorem sumT_lim {xs : List Int} {n : Nat} (h : ∀ i, i < n → -100 ≤ xs.getD i 0 ∧ xs.getD i 0 ≤ 100) {k : Nat} (hk : k ≤ n) : -(100 * (k : Int)) ≤ sumT xs k ∧ sumT xs k ≤ 100 * (k : Int) := by
  induction k with
  | zero => exact ⟨Int.le_refl _, Int.le_refl _⟩
  | succ j ih =>
    have h1 := ih (by omega)
    have h2 := h j (by omega)
    simp only [sumT]
    omega

end Go.Proofs.YtmipkodgkldmbaaDoor

namespace Go.Proofs.YtmipkodgkldmbaaDoor
open Go.RowKit
set_option maxRecDepth 100000
set_option linter.unusedVariables false

def sl (l : List Int) (k : Int) : Int := l.getD k.toNat 0
theorem sl_list {l : List Int} {k : Int} (h0 : 0 ≤ k) (h1 : k < l.length) : (l.map (Value.int .i64))[k.toNat]? = some (.int .i64 (sl l k)) := by
  have h : k.toNat < l.length := by omega
  simp [sl, List.getD_eq_getElem?_getD, h]
theorem sl_arr {l : List Int} {k : Int} (h0 : 0 ≤ k) (h1 : k < l.length) : ((l.map (Value.int .i64)).toArray)[k.toNat]? = some (.int .i64 (sl l k)) := by
  rw [List.getElem?_toArray]; exact sl_list h0 h1
theorem sl_get {l : List Int} {k : Int} (h0 : 0 ≤ k) (h1 : k < l.length) (h : k.toNat < (l.map (Value.int .i64)).length) : (l.map (Value.int .i64))[k.toNat] = .int .i64 (sl l k) := by
  have e := sl_list h0 h1
  rw [List.getElem?_eq_getElem h] at e
  exact Option.some.inj e
theorem sl_cell {w : World} {b : Nat} {l : List Int} {k : Int} (h0 : 0 ≤ k) (h1 : k < l.length) (c : ∀ j, j < l.length → w.cell? ⟨b, j, none⟩ = some (.int .i64 (l.getD j 0))) : w.cell? ⟨b, k.toNat, none⟩ = some (.int .i64 (sl l k)) := c _ (by omega)
theorem sl_bd {l : List Int} {k : Int} (h : ∀ x, x ∈ l → -9223372036854775808 ≤ x ∧ x ≤ 9223372036854775807) : -9223372036854775808 ≤ sl l k ∧ sl l k ≤ 9223372036854775807 := by
  unfold sl
  rw [List.getD_eq_getElem?_getD]
  cases e : l[k.toNat]? with
  | none => exact ⟨by decide, by decide⟩
  | some x => exact h x (List.mem_of_getElem? e)
theorem ten_cell {w : World} {b : Nat} {k : Int} {x0 x1 x2 x3 x4 x5 x6 x7 x8 x9 : Int} (h0 : 0 ≤ k) (h1 : k < 10) (c0 : w.cell? ⟨b, 0, none⟩ = some (.int .i64 x0)) (c1 : w.cell? ⟨b, 1, none⟩ = some (.int .i64 x1)) (c2 : w.cell? ⟨b, 2, none⟩ = some (.int .i64 x2)) (c3 : w.cell? ⟨b, 3, none⟩ = some (.int .i64 x3)) (c4 : w.cell? ⟨b, 4, none⟩ = some (.int .i64 x4)) (c5 : w.cell? ⟨b, 5, none⟩ = some (.int .i64 x5)) (c6 : w.cell? ⟨b, 6, none⟩ = some (.int .i64 x6)) (c7 : w.cell? ⟨b, 7, none⟩ = some (.int .i64 x7)) (c8 : w.cell? ⟨b, 8, none⟩ = some (.int .i64 x8)) (c9 : w.cell? ⟨b, 9, none⟩ = some (.int .i64 x9)) : w.cell? ⟨b, k.toNat, none⟩ = some (.int .i64 (sl [x0, x1, x2, x3, x4, x5, x6, x7, x8, x9] k)) := by
  refine sl_cell h0 (by simpa using h1) fun j hj => ?_
  match j, hj with
  | 0, _ => exact c0
  | 1, _ => exact c1
  | 2, _ => exact c2
  | 3, _ => exact c3
  | 4, _ => exact c4
  | 5, _ => exact c5
  | 6, _ => exact c6
  | 7, _ => exact c7
  | 8, _ => exact c8
  | 9, _ => exact c9

end Go.Proofs.YtmipkodgkldmbaaDoor

namespace Go.Proofs.YtmipkodgkldmbaaDoor
open Go.RowKit
set_option maxRecDepth 100000
set_option linter.unusedVariables false

def DrewMv (most : Nat) (w : World) (e : Ending) (w' : World) : Prop :=
  ∃ v xs k, e = .returned (.tuple #[v, .int .i64 k]) ∧ TRow w' w.heap.size w'.heap.size v xs ∧ xs.length ≤ most ∧ Below w.heap.size w w' ∧ -9223372036854775808 ≤ k ∧ k ≤ 9223372036854775807
theorem drewMv {B A q most : Nat} {w w1 w2 : World} {v : Value} {xs : List (Int × Bool)} {k : Int} (h : DmInv w1 w2 B A q v xs) (hl : xs.length ≤ most) (hb : Below w.heap.size w w1) (hB : w.heap.size ≤ B) (h0 : -9223372036854775808 ≤ k) (h1 : k ≤ 9223372036854775807) : DrewMv most w (.returned (.tuple #[v, .int .i64 k])) w2 :=
  ⟨v, xs, k, rfl, ⟨tmono h.own hb.size, fun g hg => (h.own.lt g hg).2⟩, hl, below_gb hb h.gb hB, h0, h1⟩
theorem drewMv_e {B A q most : Nat} {w w1 w2 : World} {v : Value} {xs : List (Int × Bool)} {k : Int} {e : Ending} (he : e = .returned (.tuple #[v, .int .i64 k])) (h : DmInv w1 w2 B A q v xs) (hl : xs.length ≤ most) (hb : Below w.heap.size w w1) (hB : w.heap.size ≤ B) (h0 : -9223372036854775808 ≤ k) (h1 : k ≤ 9223372036854775807) : DrewMv most w e w2 := by
  rw [he]; exact drewMv h hl hb hB h0 h1
theorem DmInv.alloc {w wr : World} {B A q : Nat} {v : Value} {xs : List (Int × Bool)} (h : DmInv w wr B A q v xs) (hB : B < w.heap.size) (o : Obj) : DmInv w (wr.alloc o) B A q v xs :=
  ⟨h.own.alloc o, h.rd.alloc o, gb_alloc h.gb o⟩
theorem DmInv.drew {w wr : World} {B A q : Nat} {v : Value} {xs : List (Int × Bool)} (h : DmInv w wr B A q v xs) : DmInv w wr.drew B A q v xs :=
  ⟨h.own.drew, h.rd.drew, gb_drew h.gb⟩

end Go.Proofs.YtmipkodgkldmbaaDoor

namespace Go.Proofs.YtmipkodgkldmbaaDoor
open Go.RowKit
set_option maxRecDepth 100000
set_option linter.unusedVariables false

/-- a number of a draw, and the reader -/
def MdPicked (B A q : Nat) (w : World) (e : Ending) (w' : World) : Prop :=
  ∃ k : Int, e = .returned (.int .i64 k) ∧ -1 ≤ k ∧ k ≤ 9 ∧ Rd w' B A (q + 2) ∧ w.grownBy w' (some B)

set_option maxHeartbeats 4000000 in
theorem l92Mode_any (B A q : Nat) (hq : q ≤ 900000) (w : World) (h : Rd w B A q) :
    Calls Tryd.prog 47 #[.pointer (some ⟨B, 0, none⟩)] w (MdPicked B A q w) := by
  have hB := h.lt
  have hA := h.ltA
  go_enter Tryd.func47, Tryd.ntmps47
  go_wp2_with (fail)
  (go_at_call 52; refine (pick_any 12 B A q (by omega) (by omega) (by omega) _ h).mono ?_; rintro e w1 ⟨k1, rfl, h10, h11, hr1, hb1⟩)
  have hB1 := hr1.lt
  have hA1 := hr1.ltA
  by_cases g : k1 = 0
  · subst g
    go_wp2_with (fail)
    (go_at_call 52; refine (pick_any 3 B A (q + 1) (by omega) (by omega) (by omega) _ (hr1.alloc _)).mono ?_; rintro e w2 ⟨k2, rfl, h20, h21, hr2, hb2⟩)
    have hwB : w1.heap.size ≠ B := by omega
    have hn2 := (hb2.block w1.heap.size (by simp) (by simpa using hwB)).trans (heap_alloc_new w1 _)
    have e4 : w2.cell? ⟨w1.heap.size, k2.toNat, none⟩ = some (.int .i64 (sel3 0 9 (-1) k2)) := by simp [World.cell?, hn2, sel3_arr h20 h21]
    have hbd := sel3_bd (k := k2) (x := 0) (y := 9) (z := -1) (-1) 9 (by omega) (by omega) (by omega)
    have HG := Lib.hid (gb_step (gb_alloc hb1 (.cells #[.int .i64 0, .int .i64 9, .int .i64 (-1)] 3)) hb2)
    clear hn2
    go_wp2
    go_ret
    exact ⟨sel3 0 9 (-1) k2, rfl, hbd.1, hbd.2, hr2, HG.out⟩
  · have e1 : (k1 == 0) = false := by simpa using g
    clear g
    go_wp2_with (fail)
    (go_at_call 52; refine (pick_any 8 B A (q + 1) (by omega) (by omega) (by omega) _ hr1).mono ?_; rintro e w2 ⟨k2, rfl, h20, h21, hr2, hb2⟩)
    go_wp2
    go_ret
    exact ⟨_, rfl, by omega, by omega, hr2, by (repeat' (first | (with_reducible exact gb_refl _ _) | (with_reducible refine gb_alloc ?_ _) | (with_reducible refine gb_drew ?_) | (with_reducible refine gb_set ?_ ?_ _) | (with_reducible refine gb_step ?_ (by assumption)) | (with_reducible refine gb_bl ?_ (by assumption)) | (left; rfl) | (right; go_size) | go_size))⟩

def DrewI (w : World) (e : Ending) (w' : World) : Prop :=
  ∃ k : Int, e = .returned (.int .i64 k) ∧ -1 ≤ k ∧ k ≤ 9 ∧ Below w.heap.size w w'
theorem drawModeRange_any (a : Option Addr) (n cap : Nat) (w : World) (h : CodeAt w a n) (hc : n ≤ cap) (hcap : cap ≤ maxLen) :
    Calls Tryd.prog 16 #[.slice a n cap] w (DrewI w) := by
  go_enter Tryd.func16, Tryd.ntmps16
  go_wp2_with (fail)
  (go_at_call 48; refine (open_any a n cap _ h hc hcap).mono ?_; rintro e w1 ⟨A, rfl, hr1, hb1, hs1⟩)
  go_wp2_with (fail)
  (go_at_call 47; refine (l92Mode_any w.heap.size A 0 (by omega) _ hr1).mono ?_; rintro e w2 ⟨k, rfl, h0, h9, hr2, hb2⟩)
  have HE := Lib.hid (below_gb hb1 hb2 (Nat.le_refl _))
  clear hr1 hb1 hr2 hb2
  go_wp2
  go_ret
  exact ⟨k, rfl, h0, h9, HE.out⟩

def ChPicked (B A q : Nat) (w : World) (e : Ending) (w' : World) : Prop :=
  ∃ v xs, e = .returned v ∧ DmInv w w' B A (q + 20) v xs ∧ xs.length ≤ 8

set_option maxHeartbeats 4000000 in
theorem l92Chant_any (B A q : Nat) (hq : q ≤ 800000) (w : World) (h : Rd w B A q) :
    Calls Tryd.prog 51 #[.pointer (some ⟨B, 0, none⟩)] w (ChPicked B A q w) := by
  obtain ⟨i0, hi, hq0, hq1, hq2⟩ := info_parts infoTone
  have hB := h.lt
  have hA := h.ltA
  go_enter Tryd.func51, Tryd.ntmps51
  go_wp2_with (fail)
  (go_at_call 67; refine (l91Melody_any B A q 7 (by omega) (by omega) _ h).mono ?_; rintro e w1 ⟨v, xs, rfl, hI, hl⟩)
  have hB1 := hI.rd.lt
  go_wp2_with (fail)
  (go_at_call 52; refine (pick_any 5 B A (q + 2 * 7 + 4) (by omega) (by omega) (by omega) _ hI.rd).mono ?_; rintro e w2 ⟨k2, rfl, h20, h21, hr2, hb2⟩)
  have hI2 := hI.pick hr2 hb2 hB
  clear hI hr2 hb2
  by_cases g : 0 < k2
  · have ht2 : TRow w2 w.heap.size w2.heap.size v xs := ⟨hI2.own, fun g hg => (hI2.own.lt g hg).2⟩
    go_wp2_with (fail)
    (go_at_call 68; refine (sMelodyValid_any _ _ v xs _ ht2).mono ?_; rintro e w3 ⟨rfl, hb3⟩)
    have hI3 : DmInv w w3 B A (q + 2 * 7 + 4 + 1) v xs := ⟨(ht2.below hb3 (.inl (Nat.le_refl _))).1, hI2.rd.below hb3, gb_bl hI2.gb hb3⟩
    clear hI2 ht2 hb3
    cases hm : mv xs
    · have HE : Hid (ChPicked B A q w (.returned v) w3) := ⟨v, xs, rfl, ⟨hI3.own, hI3.rd.more (by omega), hI3.gb⟩, by omega⟩
      clear hI3
      go_wp2
      go_ret
      exact HE.out
    · clear hm
      go_wp2_with (fail)
      (go_at_call 52; refine (pick_any 4 B A (q + 2 * 7 + 4 + 1) (by omega) (by omega) (by omega) _ hI3.rd).mono ?_; rintro e w4 ⟨k4, rfl, h40, h41, hr4, hb4⟩)
      have hI4 := hI3.pick hr4 hb4 hB
      clear hI3 hr4 hb4
      have hown := hI4.own
      have HI := Lib.hid hI4
      clear hI4
      go_wp2_with (at_builtin; refine wpList_append_own _ rfl _ _ 28 rfl w.heap.size 33 i0 (.agg #[.int .i64 0, .bool false]) 2 16 Tryd.underlying28 hi hq0 hq1 hq2 rfl (by decide) _ _ _ rfl (hown.alloc _) ⟨w4.heap.size, 0, none⟩ 1 1 [.int .i64 (4 + k4), .bool false] rfl rfl news2 news2_one (by unfold maxLen; omega) (by omega) (by have := HI.out.gb.size; simp; omega) ?_)
      intro v' w5 hown' hgrow _
      have hI5 := HI.out.app (t := (4 + k4, false)) hB hA hown' hgrow
      have HE : Hid (ChPicked B A q w (.returned v') w5) := ⟨v', _, rfl, ⟨hI5.own, hI5.rd.more (by omega), hI5.gb⟩, by simp; omega⟩
      clear hown hown' hgrow hI5
      go_wp2
      go_ret
      exact HE.out
  · have HE : Hid (ChPicked B A q w (.returned v) w2) := ⟨v, xs, rfl, ⟨hI2.own, hI2.rd.more (by omega), hI2.gb⟩, by omega⟩
    have e0 : decide (0 < k2) = false := by simpa using g
    clear hI2 g
    go_wp2
    go_ret
    exact HE.out

theorem drewCh {B A q : Nat} {w w1 w2 : World} {v : Value} {xs : List (Int × Bool)} (h : DmInv w1 w2 B A q v xs) (hl : xs.length ≤ 8) (hb : Below w.heap.size w w1) (hB : w.heap.size ≤ B) : DrewMel 8 w (.returned v) w2 := drewMel h hl hb hB

theorem drawModeAll_any (a : Option Addr) (n cap : Nat) (w : World) (h : CodeAt w a n) (hc : n ≤ cap) (hcap : cap ≤ maxLen) :
    Calls Tryd.prog 25 #[.slice a n cap] w (DrewMel 8 w) := by
  go_enter Tryd.func25, Tryd.ntmps25
  go_wp2_with (fail)
  (go_at_call 48; refine (open_any a n cap _ h hc hcap).mono ?_; rintro e w1 ⟨A, rfl, hr1, hb1, hs1⟩)
  go_wp2_with (fail)
  (go_at_call 51; refine (l92Chant_any w.heap.size A 0 (by omega) _ hr1).mono ?_; rintro e w2 ⟨v, xs, rfl, hI, hl⟩)
  have HE := Lib.hid (drewMel hI hl hb1 (Nat.le_refl _))
  clear hI hr1
  go_wp2
  go_ret
  exact HE.out

theorem drawModeLikely_any (a : Option Addr) (n cap : Nat) (w : World) (h : CodeAt w a n) (hc : n ≤ cap) (hcap : cap ≤ maxLen) :
    Calls Tryd.prog 29 #[.slice a n cap] w (DrewMel 8 w) := by
  go_enter Tryd.func29, Tryd.ntmps29
  go_wp2_with (fail)
  (go_at_call 48; refine (open_any a n cap _ h hc hcap).mono ?_; rintro e w1 ⟨A, rfl, hr1, hb1, hs1⟩)
  go_wp2_with (fail)
  (go_at_call 51; refine (l92Chant_any w.heap.size A 0 (by omega) _ hr1).mono ?_; rintro e w2 ⟨v, xs, rfl, hI, hl⟩)
  have HE := Lib.hid (drewMel hI hl hb1 (Nat.le_refl _))
  clear hI hr1
  go_wp2
  go_ret
  exact HE.out

theorem drawModeMoves_any (a : Option Addr) (n cap : Nat) (w : World) (h : CodeAt w a n) (hc : n ≤ cap) (hcap : cap ≤ maxLen) :
    Calls Tryd.prog 33 #[.slice a n cap] w (DrewMel 8 w) := by
  go_enter Tryd.func33, Tryd.ntmps33
  go_wp2_with (fail)
  (go_at_call 48; refine (open_any a n cap _ h hc hcap).mono ?_; rintro e w1 ⟨A, rfl, hr1, hb1, hs1⟩)
  go_wp2_with (fail)
  (go_at_call 51; refine (l92Chant_any w.heap.size A 0 (by omega) _ hr1).mono ?_; rintro e w2 ⟨v, xs, rfl, hI, hl⟩)
  have HE := Lib.hid (drewMel hI hl hb1 (Nat.le_refl _))
  clear hI hr1
  go_wp2
  go_ret
  exact HE.out

end Go.Proofs.YtmipkodgkldmbaaDoor

namespace Go.Proofs.YtmipkodgkldmbaaDoor
open Go.RowKit Go.ChangeShapes Go.WideShapes Go.ChangeAt
set_option maxRecDepth 100000
set_option linter.unusedVariables false

/-- what is told of the move with an index -/
theorem mvI_at {xs : List (Int × Bool)} {i : Nat} (h : i < (mvI xs).length) : mmB ((mvI xs).getD i 0) xs = true ∧ 4 ≤ (lst xs).1 + (mvI xs).getD i 0 ∧ (lst xs).1 + (mvI xs).getD i 0 ≤ 7 ∧ (allM (mmL ((mvI xs).getD i 0) xs) 8).length ≠ 0 ∧ 0 < xs.length ∧ xs.length ≤ 24 ∧ 0 ≤ (lst xs).1 ∧ (lst xs).1 ≤ 20 := by
  have e : (mvI xs).getD i 0 = (mvI xs)[i] := by rw [List.getD_eq_getElem?_getD, List.getElem?_eq_getElem h]; rfl
  rw [e]
  obtain ⟨a, b, c, d, f, g⟩ := mvI_mem (List.getElem_mem h)
  have hl := rgOk_len a
  have := (mm_lst c hl.1).2
  exact ⟨c, d, f, g, hl.1, hl.2, this.1, this.2⟩
theorem mvI_up {xs : List (Int × Bool)} {i : Nat} (h : i + 1 < (mvI xs).length) : (mvI xs).getD i 0 < (mvI xs).getD (i + 1) 0 := by
  rw [List.getD_eq_getElem?_getD, List.getD_eq_getElem?_getD, List.getElem?_eq_getElem (by omega), List.getElem?_eq_getElem h]
  exact List.pairwise_iff_getElem.1 (mvI_sorted xs) i (i + 1) (by omega) h (by omega)
/-- is 0 one of the first i? -/
def zrM (ys : List Int) (i : Nat) : Bool := (ys.take i).contains 0
theorem zrM_next {ys : List Int} {i : Nat} (h : i < ys.length) : zrM ys (i + 1) = (zrM ys i || (ys.getD i 0 == 0)) := by
  have e : ys[i]? = some (ys.getD i 0) := by rw [List.getD_eq_getElem?_getD, List.getElem?_eq_getElem h]; rfl
  unfold zrM
  rw [List.take_add_one, e]
  generalize ys.getD i 0 = z
  rw [Bool.eq_iff_iff, Bool.or_eq_true, List.contains_iff_mem, List.contains_iff_mem, List.mem_append]
  simp
  exact or_congr Iff.rfl ⟨fun g => g.symm, fun g => g.symm⟩
theorem zrM_end (ys : List Int) : zrM ys ys.length = ys.contains 0 := by unfold zrM; rw [List.take_length]

set_option maxHeartbeats 4000000 in
theorem fnModeMoves_walk (a : Option Addr) (n cap : Nat) (w : World) (h : CodeAt w a n) (hc : n ≤ cap) (hcap : cap ≤ maxLen) (ht : MvTab w) :
    Calls Tryd.prog 7 #[.slice a n cap] w fun e w' => e = .returned (.bool true) ∧ Below w.heap.size w w' := by
  have HT := Lib.hid ht
  clear ht
  by_cases hn : 1048576 < n
  · have g : (1048576 : Int) < (n : Int) := by omega
    go_enter Tryd.func7, Tryd.ntmps7
    go_wp2
    go_ret
    exact ⟨rfl, Below.refl _ _⟩
  have g : decide ((1048576 : Int) < (n : Int)) = false := by simp; omega
  go_enter Tryd.func7, Tryd.ntmps7
  go_wp2_with (fail)
  (go_at_call 33; refine (drawModeMoves_any a n cap _ h hc hcap).mono ?_; rintro e w1 ⟨v, xs, rfl, hr1, hx9, hb1⟩)
  clear h hc hcap g hn
  have hlen := mvI_len xs
  have HL := Lib.hid (show (mvI xs).length ≤ 1000000 by omega)
  go_wp2_with (fail)
  (go_at_call 34; refine (modeMoves_any _ _ v xs _ hr1 (HT.out.below hb1)).mono ?_; rintro e w2 ⟨u, rfl, hu2, hb2⟩)
  go_wp2_with (fail)
  (go_at_call 35; refine (sModeMoves_any _ _ v xs _ (hr1.below hb2 (.inl (Nat.le_refl _)))).mono ?_; rintro e w3 ⟨u3, rfl, hu3, hb3⟩)
  have c3 := bl_step hb2 hb3
  have bw3 := bl_step hb1 c3
  have hu2 := hu2.below hb3 (.inl (Nat.le_refl _))
  go_wp2_with (fail)
  (go_at_call 28; refine (sameInts_yes _ _ _ _ u u3 _ HL.out _ hu2 hu3).mono ?_; rintro e w4 ⟨rfl, hb4⟩)
  have c4 := bl_step c3 hb4
  have bw4 := bl_step bw3 hb4
  have hu4 := hu2.below hb4 (.inl hb3.size)
  have hu34 := hu3.below hb4 (.inl (Nat.le_refl _))
  have z4 := hb4.size
  clear hu2 hu3
  by_cases hy : mvI xs = []
  · rw [hy] at hu4 hu34
    obtain ⟨aU, cU, rfl, fU⟩ := hu4.flat' (n := 0) rfl
    clear fU hr1
    go_wp2_with (fail)
    (go_at_call 28; refine (sameInts_yes _ _ _ _ _ u3 [] (by simp) _ hu4 hu34).mono ?_; rintro e w5 ⟨rfl, hb5⟩)
    go_wp2
    go_ret
    exact ⟨rfl, bl_step bw4 hb5⟩
  obtain ⟨L, hL⟩ : ∃ L, (mvI xs).length = L := ⟨_, rfl⟩
  have hLp : 0 < L := by rw [← hL]; exact List.length_pos_iff.2 hy
  have hL4 : L ≤ 4 := by omega
  obtain ⟨aU, cU, rfl, fU⟩ := hu4.flat' hL
  obtain ⟨gU, rfl, sU, eU⟩ := fU hLp
  have EU := Lib.hid eU
  have hA0 := mvI_at (xs := xs) (i := 0) (by omega)
  have hrk : rgOk xs = true := (mvI_mem (List.getElem_mem (by omega : 0 < (mvI xs).length))).1
  have hv : mv xs = true := by simp [rgOk] at hrk; exact hrk.1
  obtain ⟨_, _, _, _, hl0, hl1, s0, s1⟩ := hA0
  have HA := Lib.hid (fun (i : Nat) (h : i < L) => mvI_at (xs := xs) (i := i) (by omega))
  have HU := Lib.hid (fun (i : Nat) (h : i + 1 < L) => mvI_up (xs := xs) (i := i) (by omega))
  have HZ := Lib.hid (fun (i : Nat) (h : i < L) => zrM_next (ys := mvI xs) (i := i) (by omega))
  have hze : zrM (mvI xs) L = decide ((0 : Int) < ((allM (mmL 0 xs) 8).length : Int)) := by
    rw [← hL, zrM_end, mvI_zero hrk, mmo_len]
  have HZE := Lib.hid hze
  have HB0 := Lib.hid (mmo_zero hv)
  have hr4 := hr1.below c4 (.inl (Nat.le_refl _))
  have HR := Lib.hid hr4
  obtain ⟨aM, cM, rfl, hcM, hmM, hatM⟩ := hr4.argA
  obtain ⟨A, off, q, hqx, rfl, hAs, e0, e1⟩ := hatM.last hl0
  have m1 : IntKind.i64.wrap ((xs.length : Int) - 1) = (q : Int) := by rw [show (xs.length : Int) - 1 = (q : Int) by omega]; exact IntWalk.i64_in _ (by omega)
  have p0 : (0 : Int) ≤ (q : Int) := by omega
  have p1 : (q : Int) < (xs.length : Int) := by omega
  have hL0 : ((L : Int) == 0) = false := by simp; omega
  have HLp := Lib.hid hLp
  clear eU fU hu4 hu34 hy hr1 hr4 hLp hL hze hrk hv hatM hlen
  generalize mvI xs = ys at EU HA HU HZ HZE
  generalize (lst xs).2 = sb at e1
  generalize (lst xs).1 = s at e0 s0 s1 HA
  go_wp2
  go_loopw [6, 7] (fun z i wr => ∃ j : Nat, j ≤ L ∧ i = .int .i64 j ∧ z = .bool (zrM ys j) ∧ Below w4.heap.size w4 wr) (fun _ i _ => L - (intOf i).toNat)
  case atStart => exact ⟨0, Nat.zero_le _, rfl, rfl, by first | exact Below.refl _ _ | exact ⟨rfl, rfl, rfl, Nat.le_refl _, fun _ _ _ => rfl⟩⟩
  case round =>
    obtain ⟨j, hj, rfl, rfl, hb⟩ := hrel
    by_cases hlt : j < L
    · obtain ⟨a1, a2, a3, a4, _⟩ := HA.out j hlt
      have Q1 := Lib.hid (HZ.out j hlt)
      have j0 : (0 : Int) ≤ (j : Int) := by omega
      have j1 : (j : Int) < (L : Int) := by omega
      have d1 := (hb.cell (p := ⟨gU, j, none⟩) sU).trans (EU.out j hlt)
      have d2 := (hb.cell (p := ⟨A, off + q * 2, none⟩) hAs).trans e0
      have d3 := (hb.cell (p := ⟨A, off + q * 2 + 1, none⟩) hAs).trans e1
      have KM := Lib.hid (fun lo hi v W h ht => melodyMove_any lo hi v xs (ys.getD j 0) W h ht)
      rw [a1] at KM
      have hup : j = 0 ∨ ∃ i, j = i + 1 ∧ ys.getD i 0 < ys.getD j 0 := by
        cases j with
        | zero => exact .inl rfl
        | succ i => exact .inr ⟨i, rfl, HU.out i hlt⟩
      have HUP := Lib.hid hup
      clear a1 hup
      generalize zrM ys j = zj at Q1
      generalize hk : ys.getD j 0 = k at a2 a3 a4 d1 Q1 KM HUP
      have HK := Lib.hid hk
      clear hk
      have m2 : IntKind.i64.wrap (s + k) = s + k := IntWalk.i64_in _ (by omega)
      have q4 : decide (s + k < 4) = false := by simp; omega
      have q7 : decide (7 < s + k) = false := by simp; omega
      go_wp2_with (fail)
      (go_at_call 36; refine (KM.out _ _ _ _ (HR.out.below hb (.inr (Nat.le_refl _))) (HT.out.2.below (bl_step bw4 hb))).mono ?_; rintro e w5 ⟨x, rfl, hx5, hb5⟩)
      have hb5' := bl_step hb hb5
      clear d1 d2 d3
      have d1 := (hb5'.cell (p := ⟨gU, j, none⟩) sU).trans (EU.out j hlt)
      have d2 := (hb5'.cell (p := ⟨A, off + q * 2, none⟩) hAs).trans e0
      have d3 := (hb5'.cell (p := ⟨A, off + q * 2 + 1, none⟩) hAs).trans e1
      rw [HK.out] at d1
      obtain ⟨N, hN⟩ : ∃ N, (allM (mmL k xs) 8).length = N := ⟨_, rfl⟩
      have hN0 : ((N : Int) == 0) = false := by rw [beq_eq_false_iff_ne]; omega
      have KA := Lib.hid (fun lo hi W ht h => modeAll_any lo hi x (mmL k xs) W h ht)
      have HX5 := Lib.hid hx5
      have HN := Lib.hid hN
      have bw5 := bl_step bw4 hb5'
      have sU5 : gU < w5.heap.size := Nat.lt_of_lt_of_le sU hb5'.size
      clear a4 hN hx5
      trace "region 13"
      go_wp2
      go_quiet (fail)
      go_wp2
      rcases HUP.out with hj00 | ⟨i, hij, hik⟩
      · subst hj00
        cases zj
        all_goals
          go_wp2
          refine wp_region_any (by kernel_rfl) ?_
          (try (change wpAny _ _ _ _ _ _ _ (World.drew _)))
          first | (refine wpAny_take (i := 0) (v := ?_) rfl (by kernel_rfl) (by kernel_rfl) (by kernel_rfl) (fun _ _ _ h => h) (Or.inl ⟨by rfl, ?_⟩) ?_; rotate_left; (focus (intro wz; go_simp; done)); (try simp only [Act.put, List.getElem_toArray, List.getElem_cons_zero, List.setIfInBounds_toArray, List.set_cons_zero, List.set_cons_succ])) | (refine wpAny_take (i := 0) (v := ?_) rfl (by kernel_rfl) (by kernel_rfl) (by kernel_rfl) (fun _ _ _ h => h) (Or.inl ⟨by rfl, ?_⟩) ?_; rotate_left; (focus (intro wz; go_simp; with_reducible rfl)); (try simp only [Act.put, List.getElem_toArray, List.getElem_cons_zero, List.setIfInBounds_toArray, List.set_cons_zero, List.set_cons_succ])) | (refine wpAny_take (i := 0) (v := undef) rfl (by kernel_rfl) (by kernel_rfl) (by kernel_rfl) (fun _ _ _ h => h) (Or.inr ⟨by rfl, rfl⟩) ?_; (try simp only [Act.put, List.getElem_toArray, List.getElem_cons_zero, List.setIfInBounds_toArray, List.set_cons_zero, List.set_cons_succ])) | fail "op 0"
          first | (refine wpAny_take (i := 1) (v := ?_) rfl (by kernel_rfl) (by kernel_rfl) (by kernel_rfl) (fun _ _ _ h => h) (Or.inl ⟨by rfl, ?_⟩) ?_; rotate_left; (focus (intro wz; go_simp; done)); (try simp only [Act.put, List.getElem_toArray, List.getElem_cons_succ, List.getElem_cons_zero, List.setIfInBounds_toArray, List.set_cons_zero, List.set_cons_succ])) | (refine wpAny_take (i := 1) (v := ?_) rfl (by kernel_rfl) (by kernel_rfl) (by kernel_rfl) (fun _ _ _ h => h) (Or.inl ⟨by rfl, ?_⟩) ?_; rotate_left; (focus (intro wz; go_simp; with_reducible rfl)); (try simp only [Act.put, List.getElem_toArray, List.getElem_cons_succ, List.getElem_cons_zero, List.setIfInBounds_toArray, List.set_cons_zero, List.set_cons_succ])) | (refine wpAny_take (i := 1) (v := undef) rfl (by kernel_rfl) (by kernel_rfl) (by kernel_rfl) (fun _ _ _ h => h) (Or.inr ⟨by rfl, rfl⟩) ?_; (try simp only [Act.put, List.getElem_toArray, List.getElem_cons_succ, List.getElem_cons_zero, List.setIfInBounds_toArray, List.set_cons_zero, List.set_cons_succ])) | fail "op 1"
          first | (refine wpAny_take (i := 2) (v := ?_) rfl (by kernel_rfl) (by kernel_rfl) (by kernel_rfl) (fun _ _ _ h => h) (Or.inl ⟨by rfl, ?_⟩) ?_; rotate_left; (focus (intro wz; go_simp; done)); (try simp only [Act.put, List.getElem_toArray, List.getElem_cons_succ, List.getElem_cons_zero, List.setIfInBounds_toArray, List.set_cons_zero, List.set_cons_succ])) | (refine wpAny_take (i := 2) (v := ?_) rfl (by kernel_rfl) (by kernel_rfl) (by kernel_rfl) (fun _ _ _ h => h) (Or.inl ⟨by rfl, ?_⟩) ?_; rotate_left; (focus (intro wz; go_simp; with_reducible rfl)); (try simp only [Act.put, List.getElem_toArray, List.getElem_cons_succ, List.getElem_cons_zero, List.setIfInBounds_toArray, List.set_cons_zero, List.set_cons_succ])) | (refine wpAny_take (i := 2) (v := undef) rfl (by kernel_rfl) (by kernel_rfl) (by kernel_rfl) (fun _ _ _ h => h) (Or.inr ⟨by rfl, rfl⟩) ?_; (try simp only [Act.put, List.getElem_toArray, List.getElem_cons_succ, List.getElem_cons_zero, List.setIfInBounds_toArray, List.set_cons_zero, List.set_cons_succ])) | fail "op 2"
          first | (refine wpAny_take (i := 3) (v := ?_) rfl (by kernel_rfl) (by kernel_rfl) (by kernel_rfl) (fun _ _ _ h => h) (Or.inl ⟨by rfl, ?_⟩) ?_; rotate_left; (focus (intro wz; go_simp; done)); (try simp only [Act.put, List.getElem_toArray, List.getElem_cons_succ, List.getElem_cons_zero, List.setIfInBounds_toArray, List.set_cons_zero, List.set_cons_succ])) | (refine wpAny_take (i := 3) (v := ?_) rfl (by kernel_rfl) (by kernel_rfl) (by kernel_rfl) (fun _ _ _ h => h) (Or.inl ⟨by rfl, ?_⟩) ?_; rotate_left; (focus (intro wz; go_simp; with_reducible rfl)); (try simp only [Act.put, List.getElem_toArray, List.getElem_cons_succ, List.getElem_cons_zero, List.setIfInBounds_toArray, List.set_cons_zero, List.set_cons_succ])) | (refine wpAny_take (i := 3) (v := undef) rfl (by kernel_rfl) (by kernel_rfl) (by kernel_rfl) (fun _ _ _ h => h) (Or.inr ⟨by rfl, rfl⟩) ?_; (try simp only [Act.put, List.getElem_toArray, List.getElem_cons_succ, List.getElem_cons_zero, List.setIfInBounds_toArray, List.set_cons_zero, List.set_cons_succ])) | fail "op 3"
          first | (refine wpAny_take (i := 4) (v := ?_) rfl (by kernel_rfl) (by kernel_rfl) (by kernel_rfl) (fun _ _ _ h => h) (Or.inl ⟨by rfl, ?_⟩) ?_; rotate_left; (focus (intro wz; go_simp; done)); (try simp only [Act.put, List.getElem_toArray, List.getElem_cons_succ, List.getElem_cons_zero, List.setIfInBounds_toArray, List.set_cons_zero, List.set_cons_succ])) | (refine wpAny_take (i := 4) (v := ?_) rfl (by kernel_rfl) (by kernel_rfl) (by kernel_rfl) (fun _ _ _ h => h) (Or.inl ⟨by rfl, ?_⟩) ?_; rotate_left; (focus (intro wz; go_simp; with_reducible rfl)); (try simp only [Act.put, List.getElem_toArray, List.getElem_cons_succ, List.getElem_cons_zero, List.setIfInBounds_toArray, List.set_cons_zero, List.set_cons_succ])) | (refine wpAny_take (i := 4) (v := undef) rfl (by kernel_rfl) (by kernel_rfl) (by kernel_rfl) (fun _ _ _ h => h) (Or.inr ⟨by rfl, rfl⟩) ?_; (try simp only [Act.put, List.getElem_toArray, List.getElem_cons_succ, List.getElem_cons_zero, List.setIfInBounds_toArray, List.set_cons_zero, List.set_cons_succ])) | fail "op 4"
          first | (refine wpAny_take (i := 5) (v := ?_) rfl (by kernel_rfl) (by kernel_rfl) (by kernel_rfl) (fun _ _ _ h => h) (Or.inl ⟨by rfl, ?_⟩) ?_; rotate_left; (focus (intro wz; go_simp; done)); (try simp only [Act.put, List.getElem_toArray, List.getElem_cons_succ, List.getElem_cons_zero, List.setIfInBounds_toArray, List.set_cons_zero, List.set_cons_succ])) | (refine wpAny_take (i := 5) (v := ?_) rfl (by kernel_rfl) (by kernel_rfl) (by kernel_rfl) (fun _ _ _ h => h) (Or.inl ⟨by rfl, ?_⟩) ?_; rotate_left; (focus (intro wz; go_simp; with_reducible rfl)); (try simp only [Act.put, List.getElem_toArray, List.getElem_cons_succ, List.getElem_cons_zero, List.setIfInBounds_toArray, List.set_cons_zero, List.set_cons_succ])) | (refine wpAny_take (i := 5) (v := undef) rfl (by kernel_rfl) (by kernel_rfl) (by kernel_rfl) (fun _ _ _ h => h) (Or.inr ⟨by rfl, rfl⟩) ?_; (try simp only [Act.put, List.getElem_toArray, List.getElem_cons_succ, List.getElem_cons_zero, List.setIfInBounds_toArray, List.set_cons_zero, List.set_cons_succ])) | fail "op 5"
          first | (refine wpAny_take (i := 6) (v := ?_) rfl (by kernel_rfl) (by kernel_rfl) (by kernel_rfl) (fun _ _ _ h => h) (Or.inl ⟨by rfl, ?_⟩) ?_; rotate_left; (focus (intro wz; go_simp; done)); (try simp only [Act.put, List.getElem_toArray, List.getElem_cons_succ, List.getElem_cons_zero, List.setIfInBounds_toArray, List.set_cons_zero, List.set_cons_succ])) | (refine wpAny_take (i := 6) (v := ?_) rfl (by kernel_rfl) (by kernel_rfl) (by kernel_rfl) (fun _ _ _ h => h) (Or.inl ⟨by rfl, ?_⟩) ?_; rotate_left; (focus (intro wz; go_simp; with_reducible rfl)); (try simp only [Act.put, List.getElem_toArray, List.getElem_cons_succ, List.getElem_cons_zero, List.setIfInBounds_toArray, List.set_cons_zero, List.set_cons_succ])) | (refine wpAny_take (i := 6) (v := undef) rfl (by kernel_rfl) (by kernel_rfl) (by kernel_rfl) (fun _ _ _ h => h) (Or.inr ⟨by rfl, rfl⟩) ?_; (try simp only [Act.put, List.getElem_toArray, List.getElem_cons_succ, List.getElem_cons_zero, List.setIfInBounds_toArray, List.set_cons_zero, List.set_cons_succ])) | fail "op 6"
          first | (refine wpAny_take (i := 7) (v := ?_) rfl (by kernel_rfl) (by kernel_rfl) (by kernel_rfl) (fun _ _ _ h => h) (Or.inl ⟨by rfl, ?_⟩) ?_; rotate_left; (focus (intro wz; go_simp; done)); (try simp only [Act.put, List.getElem_toArray, List.getElem_cons_succ, List.getElem_cons_zero, List.setIfInBounds_toArray, List.set_cons_zero, List.set_cons_succ])) | (refine wpAny_take (i := 7) (v := ?_) rfl (by kernel_rfl) (by kernel_rfl) (by kernel_rfl) (fun _ _ _ h => h) (Or.inl ⟨by rfl, ?_⟩) ?_; rotate_left; (focus (intro wz; go_simp; with_reducible rfl)); (try simp only [Act.put, List.getElem_toArray, List.getElem_cons_succ, List.getElem_cons_zero, List.setIfInBounds_toArray, List.set_cons_zero, List.set_cons_succ])) | (refine wpAny_take (i := 7) (v := undef) rfl (by kernel_rfl) (by kernel_rfl) (by kernel_rfl) (fun _ _ _ h => h) (Or.inr ⟨by rfl, rfl⟩) ?_; (try simp only [Act.put, List.getElem_toArray, List.getElem_cons_succ, List.getElem_cons_zero, List.setIfInBounds_toArray, List.set_cons_zero, List.set_cons_succ])) | fail "op 7"
          first | (refine wpAny_take (i := 8) (v := ?_) rfl (by kernel_rfl) (by kernel_rfl) (by kernel_rfl) (fun _ _ _ h => h) (Or.inl ⟨by rfl, ?_⟩) ?_; rotate_left; (focus (intro wz; go_simp; done)); (try simp only [Act.put, List.getElem_toArray, List.getElem_cons_succ, List.getElem_cons_zero, List.setIfInBounds_toArray, List.set_cons_zero, List.set_cons_succ])) | (refine wpAny_take (i := 8) (v := ?_) rfl (by kernel_rfl) (by kernel_rfl) (by kernel_rfl) (fun _ _ _ h => h) (Or.inl ⟨by rfl, ?_⟩) ?_; rotate_left; (focus (intro wz; go_simp; with_reducible rfl)); (try simp only [Act.put, List.getElem_toArray, List.getElem_cons_succ, List.getElem_cons_zero, List.setIfInBounds_toArray, List.set_cons_zero, List.set_cons_succ])) | (refine wpAny_take (i := 8) (v := undef) rfl (by kernel_rfl) (by kernel_rfl) (by kernel_rfl) (fun _ _ _ h => h) (Or.inr ⟨by rfl, rfl⟩) ?_; (try simp only [Act.put, List.getElem_toArray, List.getElem_cons_succ, List.getElem_cons_zero, List.setIfInBounds_toArray, List.set_cons_zero, List.set_cons_succ])) | fail "op 8"
          first | (refine wpAny_take (i := 9) (v := ?_) rfl (by kernel_rfl) (by kernel_rfl) (by kernel_rfl) (fun _ _ _ h => h) (Or.inl ⟨by rfl, ?_⟩) ?_; rotate_left; (focus (intro wz; go_simp; done)); (try simp only [Act.put, List.getElem_toArray, List.getElem_cons_succ, List.getElem_cons_zero, List.setIfInBounds_toArray, List.set_cons_zero, List.set_cons_succ])) | (refine wpAny_take (i := 9) (v := ?_) rfl (by kernel_rfl) (by kernel_rfl) (by kernel_rfl) (fun _ _ _ h => h) (Or.inl ⟨by rfl, ?_⟩) ?_; rotate_left; (focus (intro wz; go_simp; with_reducible rfl)); (try simp only [Act.put, List.getElem_toArray, List.getElem_cons_succ, List.getElem_cons_zero, List.setIfInBounds_toArray, List.set_cons_zero, List.set_cons_succ])) | (refine wpAny_take (i := 9) (v := undef) rfl (by kernel_rfl) (by kernel_rfl) (by kernel_rfl) (fun _ _ _ h => h) (Or.inr ⟨by rfl, rfl⟩) ?_; (try simp only [Act.put, List.getElem_toArray, List.getElem_cons_succ, List.getElem_cons_zero, List.setIfInBounds_toArray, List.set_cons_zero, List.set_cons_succ])) | fail "op 9"
          first | (refine wpAny_take (i := 10) (v := ?_) rfl (by kernel_rfl) (by kernel_rfl) (by kernel_rfl) (fun _ _ _ h => h) (Or.inl ⟨by rfl, ?_⟩) ?_; rotate_left; (focus (intro wz; go_simp; done)); (try simp only [Act.put, List.getElem_toArray, List.getElem_cons_succ, List.getElem_cons_zero, List.setIfInBounds_toArray, List.set_cons_zero, List.set_cons_succ])) | (refine wpAny_take (i := 10) (v := ?_) rfl (by kernel_rfl) (by kernel_rfl) (by kernel_rfl) (fun _ _ _ h => h) (Or.inl ⟨by rfl, ?_⟩) ?_; rotate_left; (focus (intro wz; go_simp; with_reducible rfl)); (try simp only [Act.put, List.getElem_toArray, List.getElem_cons_succ, List.getElem_cons_zero, List.setIfInBounds_toArray, List.set_cons_zero, List.set_cons_succ])) | (refine wpAny_take (i := 10) (v := undef) rfl (by kernel_rfl) (by kernel_rfl) (by kernel_rfl) (fun _ _ _ h => h) (Or.inr ⟨by rfl, rfl⟩) ?_; (try simp only [Act.put, List.getElem_toArray, List.getElem_cons_succ, List.getElem_cons_zero, List.setIfInBounds_toArray, List.set_cons_zero, List.set_cons_succ])) | fail "op 10"
          first | (refine wpAny_take (i := 11) (v := ?_) rfl (by kernel_rfl) (by kernel_rfl) (by kernel_rfl) (fun _ _ _ h => h) (Or.inl ⟨by rfl, ?_⟩) ?_; rotate_left; (focus (intro wz; go_simp; done)); (try simp only [Act.put, List.getElem_toArray, List.getElem_cons_succ, List.getElem_cons_zero, List.setIfInBounds_toArray, List.set_cons_zero, List.set_cons_succ])) | (refine wpAny_take (i := 11) (v := ?_) rfl (by kernel_rfl) (by kernel_rfl) (by kernel_rfl) (fun _ _ _ h => h) (Or.inl ⟨by rfl, ?_⟩) ?_; rotate_left; (focus (intro wz; go_simp; with_reducible rfl)); (try simp only [Act.put, List.getElem_toArray, List.getElem_cons_succ, List.getElem_cons_zero, List.setIfInBounds_toArray, List.set_cons_zero, List.set_cons_succ])) | (refine wpAny_take (i := 11) (v := undef) rfl (by kernel_rfl) (by kernel_rfl) (by kernel_rfl) (fun _ _ _ h => h) (Or.inr ⟨by rfl, rfl⟩) ?_; (try simp only [Act.put, List.getElem_toArray, List.getElem_cons_succ, List.getElem_cons_zero, List.setIfInBounds_toArray, List.set_cons_zero, List.set_cons_succ])) | fail "op 11"
          refine wpAny_ready (rs := [12]) (by kernel_rfl) (by simp) ?_
          refine AllReady.cons rfl (fun K hK => ?_) AllReady.nil
          go_simp
          go_wp2_with (fail)
          (go_at_call 26; refine (KA.out _ _ _ (HT.out.1.below (by (repeat' (first | (with_reducible assumption) | (with_reducible exact Below.refl _ _) | (with_reducible refine Below.alloc ?_ ?_ _) | (with_reducible refine Below.drew ?_) | (with_reducible refine bl_drewN ?_ _) | (with_reducible refine Below.setCell ?_ ?_ _) | (with_reducible refine bl_step ?_ (by assumption)) | go_size)))) (by first | exact HX5.out | exact HX5.out.below (Below.refl _ _).drew (.inl (Nat.le_refl _)) | exact HX5.out.below (Below.refl _ _).drew.drew (.inl (Nat.le_refl _)))).mono ?_; rintro e w6 ⟨u6, rfl, hu6, hb6⟩; obtain ⟨a6, c6, rfl⟩ := hu6.sl HN.out; have f0 := (hb6.cell (p := ⟨gU, 0, none⟩) sU5).trans d1)
          (try go_wp2_with (fail))
          (try (refine hK _ _ ?_))
          (try clear hK K)
          (try simp only [Act.put, List.getElem_toArray, List.getElem_cons_succ, List.getElem_cons_zero, List.setIfInBounds_toArray, List.set_cons_zero, List.set_cons_succ])
          first | (refine wpAny_take (i := 13) (v := ?_) rfl (by kernel_rfl) (by kernel_rfl) (by kernel_rfl) (fun _ _ _ h => h) (Or.inl ⟨by rfl, ?_⟩) ?_; rotate_left; (focus (intro wz; go_simp; done)); (try simp only [Act.put, List.getElem_toArray, List.getElem_cons_succ, List.getElem_cons_zero, List.setIfInBounds_toArray, List.set_cons_zero, List.set_cons_succ])) | (refine wpAny_take (i := 13) (v := ?_) rfl (by kernel_rfl) (by kernel_rfl) (by kernel_rfl) (fun _ _ _ h => h) (Or.inl ⟨by rfl, ?_⟩) ?_; rotate_left; (focus (intro wz; go_simp; with_reducible rfl)); (try simp only [Act.put, List.getElem_toArray, List.getElem_cons_succ, List.getElem_cons_zero, List.setIfInBounds_toArray, List.set_cons_zero, List.set_cons_succ])) | (refine wpAny_take (i := 13) (v := undef) rfl (by kernel_rfl) (by kernel_rfl) (by kernel_rfl) (fun _ _ _ h => h) (Or.inr ⟨by rfl, rfl⟩) ?_; (try simp only [Act.put, List.getElem_toArray, List.getElem_cons_succ, List.getElem_cons_zero, List.setIfInBounds_toArray, List.set_cons_zero, List.set_cons_succ])) | fail "op 13"
          first | (refine wpAny_take (i := 14) (v := ?_) rfl (by kernel_rfl) (by kernel_rfl) (by kernel_rfl) (fun _ _ _ h => h) (Or.inl ⟨by rfl, ?_⟩) ?_; rotate_left; (focus (intro wz; go_simp; done)); (try simp only [Act.put, List.getElem_toArray, List.getElem_cons_succ, List.getElem_cons_zero, List.setIfInBounds_toArray, List.set_cons_zero, List.set_cons_succ])) | (refine wpAny_take (i := 14) (v := ?_) rfl (by kernel_rfl) (by kernel_rfl) (by kernel_rfl) (fun _ _ _ h => h) (Or.inl ⟨by rfl, ?_⟩) ?_; rotate_left; (focus (intro wz; go_simp; with_reducible rfl)); (try simp only [Act.put, List.getElem_toArray, List.getElem_cons_succ, List.getElem_cons_zero, List.setIfInBounds_toArray, List.set_cons_zero, List.set_cons_succ])) | (refine wpAny_take (i := 14) (v := undef) rfl (by kernel_rfl) (by kernel_rfl) (by kernel_rfl) (fun _ _ _ h => h) (Or.inr ⟨by rfl, rfl⟩) ?_; (try simp only [Act.put, List.getElem_toArray, List.getElem_cons_succ, List.getElem_cons_zero, List.setIfInBounds_toArray, List.set_cons_zero, List.set_cons_succ])) | fail "op 14"
          first | (refine wpAny_take (i := 15) (v := ?_) rfl (by kernel_rfl) (by kernel_rfl) (by kernel_rfl) (fun _ _ _ h => h) (Or.inl ⟨by rfl, ?_⟩) ?_; rotate_left; (focus (intro wz; go_simp; done)); (try simp only [Act.put, List.getElem_toArray, List.getElem_cons_succ, List.getElem_cons_zero, List.setIfInBounds_toArray, List.set_cons_zero, List.set_cons_succ])) | (refine wpAny_take (i := 15) (v := ?_) rfl (by kernel_rfl) (by kernel_rfl) (by kernel_rfl) (fun _ _ _ h => h) (Or.inl ⟨by rfl, ?_⟩) ?_; rotate_left; (focus (intro wz; go_simp; with_reducible rfl)); (try simp only [Act.put, List.getElem_toArray, List.getElem_cons_succ, List.getElem_cons_zero, List.setIfInBounds_toArray, List.set_cons_zero, List.set_cons_succ])) | (refine wpAny_take (i := 15) (v := undef) rfl (by kernel_rfl) (by kernel_rfl) (by kernel_rfl) (fun _ _ _ h => h) (Or.inr ⟨by rfl, rfl⟩) ?_; (try simp only [Act.put, List.getElem_toArray, List.getElem_cons_succ, List.getElem_cons_zero, List.setIfInBounds_toArray, List.set_cons_zero, List.set_cons_succ])) | fail "op 15"
          first | (refine wpAny_take (i := 16) (v := ?_) rfl (by kernel_rfl) (by kernel_rfl) (by kernel_rfl) (fun _ _ _ h => h) (Or.inl ⟨by rfl, ?_⟩) ?_; rotate_left; (focus (intro wz; go_simp; done)); (try simp only [Act.put, List.getElem_toArray, List.getElem_cons_succ, List.getElem_cons_zero, List.setIfInBounds_toArray, List.set_cons_zero, List.set_cons_succ])) | (refine wpAny_take (i := 16) (v := ?_) rfl (by kernel_rfl) (by kernel_rfl) (by kernel_rfl) (fun _ _ _ h => h) (Or.inl ⟨by rfl, ?_⟩) ?_; rotate_left; (focus (intro wz; go_simp; with_reducible rfl)); (try simp only [Act.put, List.getElem_toArray, List.getElem_cons_succ, List.getElem_cons_zero, List.setIfInBounds_toArray, List.set_cons_zero, List.set_cons_succ])) | (refine wpAny_take (i := 16) (v := undef) rfl (by kernel_rfl) (by kernel_rfl) (by kernel_rfl) (fun _ _ _ h => h) (Or.inr ⟨by rfl, rfl⟩) ?_; (try simp only [Act.put, List.getElem_toArray, List.getElem_cons_succ, List.getElem_cons_zero, List.setIfInBounds_toArray, List.set_cons_zero, List.set_cons_succ])) | fail "op 16"
          first | (refine wpAny_take (i := 17) (v := ?_) rfl (by kernel_rfl) (by kernel_rfl) (by kernel_rfl) (fun _ _ _ h => h) (Or.inl ⟨by rfl, ?_⟩) ?_; rotate_left; (focus (intro wz; go_simp; done)); (try simp only [Act.put, List.getElem_toArray, List.getElem_cons_succ, List.getElem_cons_zero, List.setIfInBounds_toArray, List.set_cons_zero, List.set_cons_succ])) | (refine wpAny_take (i := 17) (v := ?_) rfl (by kernel_rfl) (by kernel_rfl) (by kernel_rfl) (fun _ _ _ h => h) (Or.inl ⟨by rfl, ?_⟩) ?_; rotate_left; (focus (intro wz; go_simp; with_reducible rfl)); (try simp only [Act.put, List.getElem_toArray, List.getElem_cons_succ, List.getElem_cons_zero, List.setIfInBounds_toArray, List.set_cons_zero, List.set_cons_succ])) | (refine wpAny_take (i := 17) (v := undef) rfl (by kernel_rfl) (by kernel_rfl) (by kernel_rfl) (fun _ _ _ h => h) (Or.inr ⟨by rfl, rfl⟩) ?_; (try simp only [Act.put, List.getElem_toArray, List.getElem_cons_succ, List.getElem_cons_zero, List.setIfInBounds_toArray, List.set_cons_zero, List.set_cons_succ])) | fail "op 17"
          first | (refine wpAny_take (i := 18) (v := ?_) rfl (by kernel_rfl) (by kernel_rfl) (by kernel_rfl) (fun _ _ _ h => h) (Or.inl ⟨by rfl, ?_⟩) ?_; rotate_left; (focus (intro wz; go_simp; done)); (try simp only [Act.put, List.getElem_toArray, List.getElem_cons_succ, List.getElem_cons_zero, List.setIfInBounds_toArray, List.set_cons_zero, List.set_cons_succ])) | (refine wpAny_take (i := 18) (v := ?_) rfl (by kernel_rfl) (by kernel_rfl) (by kernel_rfl) (fun _ _ _ h => h) (Or.inl ⟨by rfl, ?_⟩) ?_; rotate_left; (focus (intro wz; go_simp; with_reducible rfl)); (try simp only [Act.put, List.getElem_toArray, List.getElem_cons_succ, List.getElem_cons_zero, List.setIfInBounds_toArray, List.set_cons_zero, List.set_cons_succ])) | (refine wpAny_take (i := 18) (v := undef) rfl (by kernel_rfl) (by kernel_rfl) (by kernel_rfl) (fun _ _ _ h => h) (Or.inr ⟨by rfl, rfl⟩) ?_; (try simp only [Act.put, List.getElem_toArray, List.getElem_cons_succ, List.getElem_cons_zero, List.setIfInBounds_toArray, List.set_cons_zero, List.set_cons_succ])) | fail "op 18"
          first | (refine wpAny_take (i := 19) (v := ?_) rfl (by kernel_rfl) (by kernel_rfl) (by kernel_rfl) (fun _ _ _ h => h) (Or.inl ⟨by rfl, ?_⟩) ?_; rotate_left; (focus (intro wz; go_simp; done)); (try simp only [Act.put, List.getElem_toArray, List.getElem_cons_succ, List.getElem_cons_zero, List.setIfInBounds_toArray, List.set_cons_zero, List.set_cons_succ])) | (refine wpAny_take (i := 19) (v := ?_) rfl (by kernel_rfl) (by kernel_rfl) (by kernel_rfl) (fun _ _ _ h => h) (Or.inl ⟨by rfl, ?_⟩) ?_; rotate_left; (focus (intro wz; go_simp; with_reducible rfl)); (try simp only [Act.put, List.getElem_toArray, List.getElem_cons_succ, List.getElem_cons_zero, List.setIfInBounds_toArray, List.set_cons_zero, List.set_cons_succ])) | (refine wpAny_take (i := 19) (v := undef) rfl (by kernel_rfl) (by kernel_rfl) (by kernel_rfl) (fun _ _ _ h => h) (Or.inr ⟨by rfl, rfl⟩) ?_; (try simp only [Act.put, List.getElem_toArray, List.getElem_cons_succ, List.getElem_cons_zero, List.setIfInBounds_toArray, List.set_cons_zero, List.set_cons_succ])) | fail "op 19"
          first | (refine wpAny_take (i := 20) (v := ?_) rfl (by kernel_rfl) (by kernel_rfl) (by kernel_rfl) (fun _ _ _ h => h) (Or.inl ⟨by rfl, ?_⟩) ?_; rotate_left; (focus (intro wz; go_simp; done)); (try simp only [Act.put, List.getElem_toArray, List.getElem_cons_succ, List.getElem_cons_zero, List.setIfInBounds_toArray, List.set_cons_zero, List.set_cons_succ])) | (refine wpAny_take (i := 20) (v := ?_) rfl (by kernel_rfl) (by kernel_rfl) (by kernel_rfl) (fun _ _ _ h => h) (Or.inl ⟨by rfl, ?_⟩) ?_; rotate_left; (focus (intro wz; go_simp; with_reducible rfl)); (try simp only [Act.put, List.getElem_toArray, List.getElem_cons_succ, List.getElem_cons_zero, List.setIfInBounds_toArray, List.set_cons_zero, List.set_cons_succ])) | (refine wpAny_take (i := 20) (v := undef) rfl (by kernel_rfl) (by kernel_rfl) (by kernel_rfl) (fun _ _ _ h => h) (Or.inr ⟨by rfl, rfl⟩) ?_; (try simp only [Act.put, List.getElem_toArray, List.getElem_cons_succ, List.getElem_cons_zero, List.setIfInBounds_toArray, List.set_cons_zero, List.set_cons_succ])) | fail "op 20"
          first | (refine wpAny_take (i := 21) (v := ?_) rfl (by kernel_rfl) (by kernel_rfl) (by kernel_rfl) (fun _ _ _ h => h) (Or.inl ⟨by rfl, ?_⟩) ?_; rotate_left; (focus (intro wz; go_simp; done)); (try simp only [Act.put, List.getElem_toArray, List.getElem_cons_succ, List.getElem_cons_zero, List.setIfInBounds_toArray, List.set_cons_zero, List.set_cons_succ])) | (refine wpAny_take (i := 21) (v := ?_) rfl (by kernel_rfl) (by kernel_rfl) (by kernel_rfl) (fun _ _ _ h => h) (Or.inl ⟨by rfl, ?_⟩) ?_; rotate_left; (focus (intro wz; go_simp; with_reducible rfl)); (try simp only [Act.put, List.getElem_toArray, List.getElem_cons_succ, List.getElem_cons_zero, List.setIfInBounds_toArray, List.set_cons_zero, List.set_cons_succ])) | (refine wpAny_take (i := 21) (v := undef) rfl (by kernel_rfl) (by kernel_rfl) (by kernel_rfl) (fun _ _ _ h => h) (Or.inr ⟨by rfl, rfl⟩) ?_; (try simp only [Act.put, List.getElem_toArray, List.getElem_cons_succ, List.getElem_cons_zero, List.setIfInBounds_toArray, List.set_cons_zero, List.set_cons_succ])) | fail "op 21"
          first | (refine wpAny_take (i := 22) (v := ?_) rfl (by kernel_rfl) (by kernel_rfl) (by kernel_rfl) (fun _ _ _ h => h) (Or.inl ⟨by rfl, ?_⟩) ?_; rotate_left; (focus (intro wz; go_simp; done)); (try simp only [Act.put, List.getElem_toArray, List.getElem_cons_succ, List.getElem_cons_zero, List.setIfInBounds_toArray, List.set_cons_zero, List.set_cons_succ])) | (refine wpAny_take (i := 22) (v := ?_) rfl (by kernel_rfl) (by kernel_rfl) (by kernel_rfl) (fun _ _ _ h => h) (Or.inl ⟨by rfl, ?_⟩) ?_; rotate_left; (focus (intro wz; go_simp; with_reducible rfl)); (try simp only [Act.put, List.getElem_toArray, List.getElem_cons_succ, List.getElem_cons_zero, List.setIfInBounds_toArray, List.set_cons_zero, List.set_cons_succ])) | (refine wpAny_take (i := 22) (v := undef) rfl (by kernel_rfl) (by kernel_rfl) (by kernel_rfl) (fun _ _ _ h => h) (Or.inr ⟨by rfl, rfl⟩) ?_; (try simp only [Act.put, List.getElem_toArray, List.getElem_cons_succ, List.getElem_cons_zero, List.setIfInBounds_toArray, List.set_cons_zero, List.set_cons_succ])) | fail "op 22"
          first | (refine wpAny_take (i := 23) (v := ?_) rfl (by kernel_rfl) (by kernel_rfl) (by kernel_rfl) (fun _ _ _ h => h) (Or.inl ⟨by rfl, ?_⟩) ?_; rotate_left; (focus (intro wz; go_simp; done)); (try simp only [Act.put, List.getElem_toArray, List.getElem_cons_succ, List.getElem_cons_zero, List.setIfInBounds_toArray, List.set_cons_zero, List.set_cons_succ])) | (refine wpAny_take (i := 23) (v := ?_) rfl (by kernel_rfl) (by kernel_rfl) (by kernel_rfl) (fun _ _ _ h => h) (Or.inl ⟨by rfl, ?_⟩) ?_; rotate_left; (focus (intro wz; go_simp; with_reducible rfl)); (try simp only [Act.put, List.getElem_toArray, List.getElem_cons_succ, List.getElem_cons_zero, List.setIfInBounds_toArray, List.set_cons_zero, List.set_cons_succ])) | (refine wpAny_take (i := 23) (v := undef) rfl (by kernel_rfl) (by kernel_rfl) (by kernel_rfl) (fun _ _ _ h => h) (Or.inr ⟨by rfl, rfl⟩) ?_; (try simp only [Act.put, List.getElem_toArray, List.getElem_cons_succ, List.getElem_cons_zero, List.setIfInBounds_toArray, List.set_cons_zero, List.set_cons_succ])) | fail "op 23"
          first | (refine wpAny_take (i := 24) (v := ?_) rfl (by kernel_rfl) (by kernel_rfl) (by kernel_rfl) (fun _ _ _ h => h) (Or.inl ⟨by rfl, ?_⟩) ?_; rotate_left; (focus (intro wz; go_simp; done)); (try simp only [Act.put, List.getElem_toArray, List.getElem_cons_succ, List.getElem_cons_zero, List.setIfInBounds_toArray, List.set_cons_zero, List.set_cons_succ])) | (refine wpAny_take (i := 24) (v := ?_) rfl (by kernel_rfl) (by kernel_rfl) (by kernel_rfl) (fun _ _ _ h => h) (Or.inl ⟨by rfl, ?_⟩) ?_; rotate_left; (focus (intro wz; go_simp; with_reducible rfl)); (try simp only [Act.put, List.getElem_toArray, List.getElem_cons_succ, List.getElem_cons_zero, List.setIfInBounds_toArray, List.set_cons_zero, List.set_cons_succ])) | (refine wpAny_take (i := 24) (v := undef) rfl (by kernel_rfl) (by kernel_rfl) (by kernel_rfl) (fun _ _ _ h => h) (Or.inr ⟨by rfl, rfl⟩) ?_; (try simp only [Act.put, List.getElem_toArray, List.getElem_cons_succ, List.getElem_cons_zero, List.setIfInBounds_toArray, List.set_cons_zero, List.set_cons_succ])) | fail "op 24"
          first | (refine wpAny_take (i := 25) (v := ?_) rfl (by kernel_rfl) (by kernel_rfl) (by kernel_rfl) (fun _ _ _ h => h) (Or.inl ⟨by rfl, ?_⟩) ?_; rotate_left; (focus (intro wz; go_simp; done)); (try simp only [Act.put, List.getElem_toArray, List.getElem_cons_succ, List.getElem_cons_zero, List.setIfInBounds_toArray, List.set_cons_zero, List.set_cons_succ])) | (refine wpAny_take (i := 25) (v := ?_) rfl (by kernel_rfl) (by kernel_rfl) (by kernel_rfl) (fun _ _ _ h => h) (Or.inl ⟨by rfl, ?_⟩) ?_; rotate_left; (focus (intro wz; go_simp; with_reducible rfl)); (try simp only [Act.put, List.getElem_toArray, List.getElem_cons_succ, List.getElem_cons_zero, List.setIfInBounds_toArray, List.set_cons_zero, List.set_cons_succ])) | (refine wpAny_take (i := 25) (v := undef) rfl (by kernel_rfl) (by kernel_rfl) (by kernel_rfl) (fun _ _ _ h => h) (Or.inr ⟨by rfl, rfl⟩) ?_; (try simp only [Act.put, List.getElem_toArray, List.getElem_cons_succ, List.getElem_cons_zero, List.setIfInBounds_toArray, List.set_cons_zero, List.set_cons_succ])) | fail "op 25"
          first | (refine wpAny_take (i := 26) (v := ?_) rfl (by kernel_rfl) (by kernel_rfl) (by kernel_rfl) (fun _ _ _ h => h) (Or.inl ⟨by rfl, ?_⟩) ?_; rotate_left; (focus (intro wz; go_simp; done)); (try simp only [Act.put, List.getElem_toArray, List.getElem_cons_succ, List.getElem_cons_zero, List.setIfInBounds_toArray, List.set_cons_zero, List.set_cons_succ])) | (refine wpAny_take (i := 26) (v := ?_) rfl (by kernel_rfl) (by kernel_rfl) (by kernel_rfl) (fun _ _ _ h => h) (Or.inl ⟨by rfl, ?_⟩) ?_; rotate_left; (focus (intro wz; go_simp; with_reducible rfl)); (try simp only [Act.put, List.getElem_toArray, List.getElem_cons_succ, List.getElem_cons_zero, List.setIfInBounds_toArray, List.set_cons_zero, List.set_cons_succ])) | (refine wpAny_take (i := 26) (v := undef) rfl (by kernel_rfl) (by kernel_rfl) (by kernel_rfl) (fun _ _ _ h => h) (Or.inr ⟨by rfl, rfl⟩) ?_; (try simp only [Act.put, List.getElem_toArray, List.getElem_cons_succ, List.getElem_cons_zero, List.setIfInBounds_toArray, List.set_cons_zero, List.set_cons_succ])) | fail "op 26"
          first | (refine wpAny_take (i := 27) (v := ?_) rfl (by kernel_rfl) (by kernel_rfl) (by kernel_rfl) (fun _ _ _ h => h) (Or.inl ⟨by rfl, ?_⟩) ?_; rotate_left; (focus (intro wz; go_simp; done)); (try simp only [Act.put, List.getElem_toArray, List.getElem_cons_succ, List.getElem_cons_zero, List.setIfInBounds_toArray, List.set_cons_zero, List.set_cons_succ])) | (refine wpAny_take (i := 27) (v := ?_) rfl (by kernel_rfl) (by kernel_rfl) (by kernel_rfl) (fun _ _ _ h => h) (Or.inl ⟨by rfl, ?_⟩) ?_; rotate_left; (focus (intro wz; go_simp; with_reducible rfl)); (try simp only [Act.put, List.getElem_toArray, List.getElem_cons_succ, List.getElem_cons_zero, List.setIfInBounds_toArray, List.set_cons_zero, List.set_cons_succ])) | (refine wpAny_take (i := 27) (v := undef) rfl (by kernel_rfl) (by kernel_rfl) (by kernel_rfl) (fun _ _ _ h => h) (Or.inr ⟨by rfl, rfl⟩) ?_; (try simp only [Act.put, List.getElem_toArray, List.getElem_cons_succ, List.getElem_cons_zero, List.setIfInBounds_toArray, List.set_cons_zero, List.set_cons_succ])) | fail "op 27"
          first | (refine wpAny_take (i := 28) (v := ?_) rfl (by kernel_rfl) (by kernel_rfl) (by kernel_rfl) (fun _ _ _ h => h) (Or.inl ⟨by rfl, ?_⟩) ?_; rotate_left; (focus (intro wz; go_simp; done)); (try simp only [Act.put, List.getElem_toArray, List.getElem_cons_succ, List.getElem_cons_zero, List.setIfInBounds_toArray, List.set_cons_zero, List.set_cons_succ])) | (refine wpAny_take (i := 28) (v := ?_) rfl (by kernel_rfl) (by kernel_rfl) (by kernel_rfl) (fun _ _ _ h => h) (Or.inl ⟨by rfl, ?_⟩) ?_; rotate_left; (focus (intro wz; go_simp; with_reducible rfl)); (try simp only [Act.put, List.getElem_toArray, List.getElem_cons_succ, List.getElem_cons_zero, List.setIfInBounds_toArray, List.set_cons_zero, List.set_cons_succ])) | (refine wpAny_take (i := 28) (v := undef) rfl (by kernel_rfl) (by kernel_rfl) (by kernel_rfl) (fun _ _ _ h => h) (Or.inr ⟨by rfl, rfl⟩) ?_; (try simp only [Act.put, List.getElem_toArray, List.getElem_cons_succ, List.getElem_cons_zero, List.setIfInBounds_toArray, List.set_cons_zero, List.set_cons_succ])) | fail "op 28"
          first | (refine wpAny_take (i := 29) (v := ?_) rfl (by kernel_rfl) (by kernel_rfl) (by kernel_rfl) (fun _ _ _ h => h) (Or.inl ⟨by rfl, ?_⟩) ?_; rotate_left; (focus (intro wz; go_simp; done)); (try simp only [Act.put, List.getElem_toArray, List.getElem_cons_succ, List.getElem_cons_zero, List.setIfInBounds_toArray, List.set_cons_zero, List.set_cons_succ])) | (refine wpAny_take (i := 29) (v := ?_) rfl (by kernel_rfl) (by kernel_rfl) (by kernel_rfl) (fun _ _ _ h => h) (Or.inl ⟨by rfl, ?_⟩) ?_; rotate_left; (focus (intro wz; go_simp; with_reducible rfl)); (try simp only [Act.put, List.getElem_toArray, List.getElem_cons_succ, List.getElem_cons_zero, List.setIfInBounds_toArray, List.set_cons_zero, List.set_cons_succ])) | (refine wpAny_take (i := 29) (v := undef) rfl (by kernel_rfl) (by kernel_rfl) (by kernel_rfl) (fun _ _ _ h => h) (Or.inr ⟨by rfl, rfl⟩) ?_; (try simp only [Act.put, List.getElem_toArray, List.getElem_cons_succ, List.getElem_cons_zero, List.setIfInBounds_toArray, List.set_cons_zero, List.set_cons_succ])) | fail "op 29"
          first | (refine wpAny_take (i := 30) (v := ?_) rfl (by kernel_rfl) (by kernel_rfl) (by kernel_rfl) (fun _ _ _ h => h) (Or.inl ⟨by rfl, ?_⟩) ?_; rotate_left; (focus (intro wz; go_simp; done)); (try simp only [Act.put, List.getElem_toArray, List.getElem_cons_succ, List.getElem_cons_zero, List.setIfInBounds_toArray, List.set_cons_zero, List.set_cons_succ])) | (refine wpAny_take (i := 30) (v := ?_) rfl (by kernel_rfl) (by kernel_rfl) (by kernel_rfl) (fun _ _ _ h => h) (Or.inl ⟨by rfl, ?_⟩) ?_; rotate_left; (focus (intro wz; go_simp; with_reducible rfl)); (try simp only [Act.put, List.getElem_toArray, List.getElem_cons_succ, List.getElem_cons_zero, List.setIfInBounds_toArray, List.set_cons_zero, List.set_cons_succ])) | (refine wpAny_take (i := 30) (v := undef) rfl (by kernel_rfl) (by kernel_rfl) (by kernel_rfl) (fun _ _ _ h => h) (Or.inr ⟨by rfl, rfl⟩) ?_; (try simp only [Act.put, List.getElem_toArray, List.getElem_cons_succ, List.getElem_cons_zero, List.setIfInBounds_toArray, List.set_cons_zero, List.set_cons_succ])) | fail "op 30"
          first | (refine wpAny_take (i := 31) (v := ?_) rfl (by kernel_rfl) (by kernel_rfl) (by kernel_rfl) (fun _ _ _ h => h) (Or.inl ⟨by rfl, ?_⟩) ?_; rotate_left; (focus (intro wz; go_simp; done)); (try simp only [Act.put, List.getElem_toArray, List.getElem_cons_succ, List.getElem_cons_zero, List.setIfInBounds_toArray, List.set_cons_zero, List.set_cons_succ])) | (refine wpAny_take (i := 31) (v := ?_) rfl (by kernel_rfl) (by kernel_rfl) (by kernel_rfl) (fun _ _ _ h => h) (Or.inl ⟨by rfl, ?_⟩) ?_; rotate_left; (focus (intro wz; go_simp; with_reducible rfl)); (try simp only [Act.put, List.getElem_toArray, List.getElem_cons_succ, List.getElem_cons_zero, List.setIfInBounds_toArray, List.set_cons_zero, List.set_cons_succ])) | (refine wpAny_take (i := 31) (v := undef) rfl (by kernel_rfl) (by kernel_rfl) (by kernel_rfl) (fun _ _ _ h => h) (Or.inr ⟨by rfl, rfl⟩) ?_; (try simp only [Act.put, List.getElem_toArray, List.getElem_cons_succ, List.getElem_cons_zero, List.setIfInBounds_toArray, List.set_cons_zero, List.set_cons_succ])) | fail "op 31"
          refine wpAny_done (by kernel_rfl) ?_ _
          have hb6' : Below w4.heap.size w4 w6 := by first | exact bl_step hb5'.drew hb6 | exact bl_step hb5'.drew.drew hb6 | (repeat' (first | (with_reducible assumption) | (with_reducible exact Below.refl _ _) | (with_reducible refine Below.alloc ?_ ?_ _) | (with_reducible refine Below.drew ?_) | (with_reducible refine bl_drewN ?_ _) | (with_reducible refine Below.setCell ?_ ?_ _) | (with_reducible refine bl_step ?_ (by assumption)) | go_size))
          clear hb6 hu6
          all_goals go_wp2
          go_roundw
          case rel => exact ⟨0 + 1, by omega, by go_num, by rw [Q1.out]; first | done | rfl | simp, hb6'⟩
          case measure => simp [intOf]; omega
      · have d4 := (hb5'.cell (p := ⟨gU, i, none⟩) sU).trans (EU.out i (by omega))
        have i0 : (0 : Int) < (j : Int) := by omega
        have i0n : 0 < j := by omega
        have i1 : (j : Int) - 1 = (i : Int) := by omega
        have i2 : IntKind.i64.wrap ((j : Int) - 1) = (i : Int) := by rw [i1]; exact IntWalk.i64_in _ (by omega)
        have i3 : (0 : Int) ≤ (i : Int) := by omega
        have i4 : (i : Int) < (L : Int) := by omega
        have q8 : decide (k ≤ ys.getD i 0) = false := by simpa using hik
        generalize ys.getD i 0 = k' at d4 q8
        clear hik
        have HIJ := Lib.hid hij
        clear i1 hij
        cases zj
        all_goals
          go_wp2
          refine wp_region_any (by kernel_rfl) ?_
          (try (change wpAny _ _ _ _ _ _ _ (World.drew _)))
          first | (refine wpAny_take (i := 0) (v := ?_) rfl (by kernel_rfl) (by kernel_rfl) (by kernel_rfl) (fun _ _ _ h => h) (Or.inl ⟨by rfl, ?_⟩) ?_; rotate_left; (focus (intro wz; go_simp; done)); (try simp only [Act.put, List.getElem_toArray, List.getElem_cons_zero, List.setIfInBounds_toArray, List.set_cons_zero, List.set_cons_succ])) | (refine wpAny_take (i := 0) (v := ?_) rfl (by kernel_rfl) (by kernel_rfl) (by kernel_rfl) (fun _ _ _ h => h) (Or.inl ⟨by rfl, ?_⟩) ?_; rotate_left; (focus (intro wz; go_simp; with_reducible rfl)); (try simp only [Act.put, List.getElem_toArray, List.getElem_cons_zero, List.setIfInBounds_toArray, List.set_cons_zero, List.set_cons_succ])) | (refine wpAny_take (i := 0) (v := undef) rfl (by kernel_rfl) (by kernel_rfl) (by kernel_rfl) (fun _ _ _ h => h) (Or.inr ⟨by rfl, rfl⟩) ?_; (try simp only [Act.put, List.getElem_toArray, List.getElem_cons_zero, List.setIfInBounds_toArray, List.set_cons_zero, List.set_cons_succ])) | fail "op 0"
          first | (refine wpAny_take (i := 1) (v := ?_) rfl (by kernel_rfl) (by kernel_rfl) (by kernel_rfl) (fun _ _ _ h => h) (Or.inl ⟨by rfl, ?_⟩) ?_; rotate_left; (focus (intro wz; go_simp; done)); (try simp only [Act.put, List.getElem_toArray, List.getElem_cons_succ, List.getElem_cons_zero, List.setIfInBounds_toArray, List.set_cons_zero, List.set_cons_succ])) | (refine wpAny_take (i := 1) (v := ?_) rfl (by kernel_rfl) (by kernel_rfl) (by kernel_rfl) (fun _ _ _ h => h) (Or.inl ⟨by rfl, ?_⟩) ?_; rotate_left; (focus (intro wz; go_simp; with_reducible rfl)); (try simp only [Act.put, List.getElem_toArray, List.getElem_cons_succ, List.getElem_cons_zero, List.setIfInBounds_toArray, List.set_cons_zero, List.set_cons_succ])) | (refine wpAny_take (i := 1) (v := undef) rfl (by kernel_rfl) (by kernel_rfl) (by kernel_rfl) (fun _ _ _ h => h) (Or.inr ⟨by rfl, rfl⟩) ?_; (try simp only [Act.put, List.getElem_toArray, List.getElem_cons_succ, List.getElem_cons_zero, List.setIfInBounds_toArray, List.set_cons_zero, List.set_cons_succ])) | fail "op 1"
          first | (refine wpAny_take (i := 2) (v := ?_) rfl (by kernel_rfl) (by kernel_rfl) (by kernel_rfl) (fun _ _ _ h => h) (Or.inl ⟨by rfl, ?_⟩) ?_; rotate_left; (focus (intro wz; go_simp; done)); (try simp only [Act.put, List.getElem_toArray, List.getElem_cons_succ, List.getElem_cons_zero, List.setIfInBounds_toArray, List.set_cons_zero, List.set_cons_succ])) | (refine wpAny_take (i := 2) (v := ?_) rfl (by kernel_rfl) (by kernel_rfl) (by kernel_rfl) (fun _ _ _ h => h) (Or.inl ⟨by rfl, ?_⟩) ?_; rotate_left; (focus (intro wz; go_simp; with_reducible rfl)); (try simp only [Act.put, List.getElem_toArray, List.getElem_cons_succ, List.getElem_cons_zero, List.setIfInBounds_toArray, List.set_cons_zero, List.set_cons_succ])) | (refine wpAny_take (i := 2) (v := undef) rfl (by kernel_rfl) (by kernel_rfl) (by kernel_rfl) (fun _ _ _ h => h) (Or.inr ⟨by rfl, rfl⟩) ?_; (try simp only [Act.put, List.getElem_toArray, List.getElem_cons_succ, List.getElem_cons_zero, List.setIfInBounds_toArray, List.set_cons_zero, List.set_cons_succ])) | fail "op 2"
          first | (refine wpAny_take (i := 3) (v := ?_) rfl (by kernel_rfl) (by kernel_rfl) (by kernel_rfl) (fun _ _ _ h => h) (Or.inl ⟨by rfl, ?_⟩) ?_; rotate_left; (focus (intro wz; go_simp; done)); (try simp only [Act.put, List.getElem_toArray, List.getElem_cons_succ, List.getElem_cons_zero, List.setIfInBounds_toArray, List.set_cons_zero, List.set_cons_succ])) | (refine wpAny_take (i := 3) (v := ?_) rfl (by kernel_rfl) (by kernel_rfl) (by kernel_rfl) (fun _ _ _ h => h) (Or.inl ⟨by rfl, ?_⟩) ?_; rotate_left; (focus (intro wz; go_simp; with_reducible rfl)); (try simp only [Act.put, List.getElem_toArray, List.getElem_cons_succ, List.getElem_cons_zero, List.setIfInBounds_toArray, List.set_cons_zero, List.set_cons_succ])) | (refine wpAny_take (i := 3) (v := undef) rfl (by kernel_rfl) (by kernel_rfl) (by kernel_rfl) (fun _ _ _ h => h) (Or.inr ⟨by rfl, rfl⟩) ?_; (try simp only [Act.put, List.getElem_toArray, List.getElem_cons_succ, List.getElem_cons_zero, List.setIfInBounds_toArray, List.set_cons_zero, List.set_cons_succ])) | fail "op 3"
          first | (refine wpAny_take (i := 4) (v := ?_) rfl (by kernel_rfl) (by kernel_rfl) (by kernel_rfl) (fun _ _ _ h => h) (Or.inl ⟨by rfl, ?_⟩) ?_; rotate_left; (focus (intro wz; go_simp; done)); (try simp only [Act.put, List.getElem_toArray, List.getElem_cons_succ, List.getElem_cons_zero, List.setIfInBounds_toArray, List.set_cons_zero, List.set_cons_succ])) | (refine wpAny_take (i := 4) (v := ?_) rfl (by kernel_rfl) (by kernel_rfl) (by kernel_rfl) (fun _ _ _ h => h) (Or.inl ⟨by rfl, ?_⟩) ?_; rotate_left; (focus (intro wz; go_simp; with_reducible rfl)); (try simp only [Act.put, List.getElem_toArray, List.getElem_cons_succ, List.getElem_cons_zero, List.setIfInBounds_toArray, List.set_cons_zero, List.set_cons_succ])) | (refine wpAny_take (i := 4) (v := undef) rfl (by kernel_rfl) (by kernel_rfl) (by kernel_rfl) (fun _ _ _ h => h) (Or.inr ⟨by rfl, rfl⟩) ?_; (try simp only [Act.put, List.getElem_toArray, List.getElem_cons_succ, List.getElem_cons_zero, List.setIfInBounds_toArray, List.set_cons_zero, List.set_cons_succ])) | fail "op 4"
          first | (refine wpAny_take (i := 5) (v := ?_) rfl (by kernel_rfl) (by kernel_rfl) (by kernel_rfl) (fun _ _ _ h => h) (Or.inl ⟨by rfl, ?_⟩) ?_; rotate_left; (focus (intro wz; go_simp; done)); (try simp only [Act.put, List.getElem_toArray, List.getElem_cons_succ, List.getElem_cons_zero, List.setIfInBounds_toArray, List.set_cons_zero, List.set_cons_succ])) | (refine wpAny_take (i := 5) (v := ?_) rfl (by kernel_rfl) (by kernel_rfl) (by kernel_rfl) (fun _ _ _ h => h) (Or.inl ⟨by rfl, ?_⟩) ?_; rotate_left; (focus (intro wz; go_simp; with_reducible rfl)); (try simp only [Act.put, List.getElem_toArray, List.getElem_cons_succ, List.getElem_cons_zero, List.setIfInBounds_toArray, List.set_cons_zero, List.set_cons_succ])) | (refine wpAny_take (i := 5) (v := undef) rfl (by kernel_rfl) (by kernel_rfl) (by kernel_rfl) (fun _ _ _ h => h) (Or.inr ⟨by rfl, rfl⟩) ?_; (try simp only [Act.put, List.getElem_toArray, List.getElem_cons_succ, List.getElem_cons_zero, List.setIfInBounds_toArray, List.set_cons_zero, List.set_cons_succ])) | fail "op 5"
          first | (refine wpAny_take (i := 6) (v := ?_) rfl (by kernel_rfl) (by kernel_rfl) (by kernel_rfl) (fun _ _ _ h => h) (Or.inl ⟨by rfl, ?_⟩) ?_; rotate_left; (focus (intro wz; go_simp; done)); (try simp only [Act.put, List.getElem_toArray, List.getElem_cons_succ, List.getElem_cons_zero, List.setIfInBounds_toArray, List.set_cons_zero, List.set_cons_succ])) | (refine wpAny_take (i := 6) (v := ?_) rfl (by kernel_rfl) (by kernel_rfl) (by kernel_rfl) (fun _ _ _ h => h) (Or.inl ⟨by rfl, ?_⟩) ?_; rotate_left; (focus (intro wz; go_simp; with_reducible rfl)); (try simp only [Act.put, List.getElem_toArray, List.getElem_cons_succ, List.getElem_cons_zero, List.setIfInBounds_toArray, List.set_cons_zero, List.set_cons_succ])) | (refine wpAny_take (i := 6) (v := undef) rfl (by kernel_rfl) (by kernel_rfl) (by kernel_rfl) (fun _ _ _ h => h) (Or.inr ⟨by rfl, rfl⟩) ?_; (try simp only [Act.put, List.getElem_toArray, List.getElem_cons_succ, List.getElem_cons_zero, List.setIfInBounds_toArray, List.set_cons_zero, List.set_cons_succ])) | fail "op 6"
          first | (refine wpAny_take (i := 7) (v := ?_) rfl (by kernel_rfl) (by kernel_rfl) (by kernel_rfl) (fun _ _ _ h => h) (Or.inl ⟨by rfl, ?_⟩) ?_; rotate_left; (focus (intro wz; go_simp; done)); (try simp only [Act.put, List.getElem_toArray, List.getElem_cons_succ, List.getElem_cons_zero, List.setIfInBounds_toArray, List.set_cons_zero, List.set_cons_succ])) | (refine wpAny_take (i := 7) (v := ?_) rfl (by kernel_rfl) (by kernel_rfl) (by kernel_rfl) (fun _ _ _ h => h) (Or.inl ⟨by rfl, ?_⟩) ?_; rotate_left; (focus (intro wz; go_simp; with_reducible rfl)); (try simp only [Act.put, List.getElem_toArray, List.getElem_cons_succ, List.getElem_cons_zero, List.setIfInBounds_toArray, List.set_cons_zero, List.set_cons_succ])) | (refine wpAny_take (i := 7) (v := undef) rfl (by kernel_rfl) (by kernel_rfl) (by kernel_rfl) (fun _ _ _ h => h) (Or.inr ⟨by rfl, rfl⟩) ?_; (try simp only [Act.put, List.getElem_toArray, List.getElem_cons_succ, List.getElem_cons_zero, List.setIfInBounds_toArray, List.set_cons_zero, List.set_cons_succ])) | fail "op 7"
          first | (refine wpAny_take (i := 8) (v := ?_) rfl (by kernel_rfl) (by kernel_rfl) (by kernel_rfl) (fun _ _ _ h => h) (Or.inl ⟨by rfl, ?_⟩) ?_; rotate_left; (focus (intro wz; go_simp; done)); (try simp only [Act.put, List.getElem_toArray, List.getElem_cons_succ, List.getElem_cons_zero, List.setIfInBounds_toArray, List.set_cons_zero, List.set_cons_succ])) | (refine wpAny_take (i := 8) (v := ?_) rfl (by kernel_rfl) (by kernel_rfl) (by kernel_rfl) (fun _ _ _ h => h) (Or.inl ⟨by rfl, ?_⟩) ?_; rotate_left; (focus (intro wz; go_simp; with_reducible rfl)); (try simp only [Act.put, List.getElem_toArray, List.getElem_cons_succ, List.getElem_cons_zero, List.setIfInBounds_toArray, List.set_cons_zero, List.set_cons_succ])) | (refine wpAny_take (i := 8) (v := undef) rfl (by kernel_rfl) (by kernel_rfl) (by kernel_rfl) (fun _ _ _ h => h) (Or.inr ⟨by rfl, rfl⟩) ?_; (try simp only [Act.put, List.getElem_toArray, List.getElem_cons_succ, List.getElem_cons_zero, List.setIfInBounds_toArray, List.set_cons_zero, List.set_cons_succ])) | fail "op 8"
          first | (refine wpAny_take (i := 9) (v := ?_) rfl (by kernel_rfl) (by kernel_rfl) (by kernel_rfl) (fun _ _ _ h => h) (Or.inl ⟨by rfl, ?_⟩) ?_; rotate_left; (focus (intro wz; go_simp; done)); (try simp only [Act.put, List.getElem_toArray, List.getElem_cons_succ, List.getElem_cons_zero, List.setIfInBounds_toArray, List.set_cons_zero, List.set_cons_succ])) | (refine wpAny_take (i := 9) (v := ?_) rfl (by kernel_rfl) (by kernel_rfl) (by kernel_rfl) (fun _ _ _ h => h) (Or.inl ⟨by rfl, ?_⟩) ?_; rotate_left; (focus (intro wz; go_simp; with_reducible rfl)); (try simp only [Act.put, List.getElem_toArray, List.getElem_cons_succ, List.getElem_cons_zero, List.setIfInBounds_toArray, List.set_cons_zero, List.set_cons_succ])) | (refine wpAny_take (i := 9) (v := undef) rfl (by kernel_rfl) (by kernel_rfl) (by kernel_rfl) (fun _ _ _ h => h) (Or.inr ⟨by rfl, rfl⟩) ?_; (try simp only [Act.put, List.getElem_toArray, List.getElem_cons_succ, List.getElem_cons_zero, List.setIfInBounds_toArray, List.set_cons_zero, List.set_cons_succ])) | fail "op 9"
          first | (refine wpAny_take (i := 10) (v := ?_) rfl (by kernel_rfl) (by kernel_rfl) (by kernel_rfl) (fun _ _ _ h => h) (Or.inl ⟨by rfl, ?_⟩) ?_; rotate_left; (focus (intro wz; go_simp; done)); (try simp only [Act.put, List.getElem_toArray, List.getElem_cons_succ, List.getElem_cons_zero, List.setIfInBounds_toArray, List.set_cons_zero, List.set_cons_succ])) | (refine wpAny_take (i := 10) (v := ?_) rfl (by kernel_rfl) (by kernel_rfl) (by kernel_rfl) (fun _ _ _ h => h) (Or.inl ⟨by rfl, ?_⟩) ?_; rotate_left; (focus (intro wz; go_simp; with_reducible rfl)); (try simp only [Act.put, List.getElem_toArray, List.getElem_cons_succ, List.getElem_cons_zero, List.setIfInBounds_toArray, List.set_cons_zero, List.set_cons_succ])) | (refine wpAny_take (i := 10) (v := undef) rfl (by kernel_rfl) (by kernel_rfl) (by kernel_rfl) (fun _ _ _ h => h) (Or.inr ⟨by rfl, rfl⟩) ?_; (try simp only [Act.put, List.getElem_toArray, List.getElem_cons_succ, List.getElem_cons_zero, List.setIfInBounds_toArray, List.set_cons_zero, List.set_cons_succ])) | fail "op 10"
          first | (refine wpAny_take (i := 11) (v := ?_) rfl (by kernel_rfl) (by kernel_rfl) (by kernel_rfl) (fun _ _ _ h => h) (Or.inl ⟨by rfl, ?_⟩) ?_; rotate_left; (focus (intro wz; go_simp; done)); (try simp only [Act.put, List.getElem_toArray, List.getElem_cons_succ, List.getElem_cons_zero, List.setIfInBounds_toArray, List.set_cons_zero, List.set_cons_succ])) | (refine wpAny_take (i := 11) (v := ?_) rfl (by kernel_rfl) (by kernel_rfl) (by kernel_rfl) (fun _ _ _ h => h) (Or.inl ⟨by rfl, ?_⟩) ?_; rotate_left; (focus (intro wz; go_simp; with_reducible rfl)); (try simp only [Act.put, List.getElem_toArray, List.getElem_cons_succ, List.getElem_cons_zero, List.setIfInBounds_toArray, List.set_cons_zero, List.set_cons_succ])) | (refine wpAny_take (i := 11) (v := undef) rfl (by kernel_rfl) (by kernel_rfl) (by kernel_rfl) (fun _ _ _ h => h) (Or.inr ⟨by rfl, rfl⟩) ?_; (try simp only [Act.put, List.getElem_toArray, List.getElem_cons_succ, List.getElem_cons_zero, List.setIfInBounds_toArray, List.set_cons_zero, List.set_cons_succ])) | fail "op 11"
          refine wpAny_ready (rs := [12]) (by kernel_rfl) (by simp) ?_
          refine AllReady.cons rfl (fun K hK => ?_) AllReady.nil
          go_simp
          go_wp2_with (fail)
          (go_at_call 26; refine (KA.out _ _ _ (HT.out.1.below (by (repeat' (first | (with_reducible assumption) | (with_reducible exact Below.refl _ _) | (with_reducible refine Below.alloc ?_ ?_ _) | (with_reducible refine Below.drew ?_) | (with_reducible refine bl_drewN ?_ _) | (with_reducible refine Below.setCell ?_ ?_ _) | (with_reducible refine bl_step ?_ (by assumption)) | go_size)))) (by first | exact HX5.out | exact HX5.out.below (Below.refl _ _).drew (.inl (Nat.le_refl _)) | exact HX5.out.below (Below.refl _ _).drew.drew (.inl (Nat.le_refl _)))).mono ?_; rintro e w6 ⟨u6, rfl, hu6, hb6⟩; obtain ⟨a6, c6, rfl⟩ := hu6.sl HN.out; have f0 := (hb6.cell (p := ⟨gU, j, none⟩) sU5).trans d1; have f1 := (hb6.cell (p := ⟨gU, i, none⟩) sU5).trans d4)
          (try go_wp2_with (fail))
          (try (refine hK _ _ ?_))
          (try clear hK K)
          (try simp only [Act.put, List.getElem_toArray, List.getElem_cons_succ, List.getElem_cons_zero, List.setIfInBounds_toArray, List.set_cons_zero, List.set_cons_succ])
          first | (refine wpAny_take (i := 13) (v := ?_) rfl (by kernel_rfl) (by kernel_rfl) (by kernel_rfl) (fun _ _ _ h => h) (Or.inl ⟨by rfl, ?_⟩) ?_; rotate_left; (focus (intro wz; go_simp; done)); (try simp only [Act.put, List.getElem_toArray, List.getElem_cons_succ, List.getElem_cons_zero, List.setIfInBounds_toArray, List.set_cons_zero, List.set_cons_succ])) | (refine wpAny_take (i := 13) (v := ?_) rfl (by kernel_rfl) (by kernel_rfl) (by kernel_rfl) (fun _ _ _ h => h) (Or.inl ⟨by rfl, ?_⟩) ?_; rotate_left; (focus (intro wz; go_simp; with_reducible rfl)); (try simp only [Act.put, List.getElem_toArray, List.getElem_cons_succ, List.getElem_cons_zero, List.setIfInBounds_toArray, List.set_cons_zero, List.set_cons_succ])) | (refine wpAny_take (i := 13) (v := undef) rfl (by kernel_rfl) (by kernel_rfl) (by kernel_rfl) (fun _ _ _ h => h) (Or.inr ⟨by rfl, rfl⟩) ?_; (try simp only [Act.put, List.getElem_toArray, List.getElem_cons_succ, List.getElem_cons_zero, List.setIfInBounds_toArray, List.set_cons_zero, List.set_cons_succ])) | fail "op 13"
          first | (refine wpAny_take (i := 14) (v := ?_) rfl (by kernel_rfl) (by kernel_rfl) (by kernel_rfl) (fun _ _ _ h => h) (Or.inl ⟨by rfl, ?_⟩) ?_; rotate_left; (focus (intro wz; go_simp; done)); (try simp only [Act.put, List.getElem_toArray, List.getElem_cons_succ, List.getElem_cons_zero, List.setIfInBounds_toArray, List.set_cons_zero, List.set_cons_succ])) | (refine wpAny_take (i := 14) (v := ?_) rfl (by kernel_rfl) (by kernel_rfl) (by kernel_rfl) (fun _ _ _ h => h) (Or.inl ⟨by rfl, ?_⟩) ?_; rotate_left; (focus (intro wz; go_simp; with_reducible rfl)); (try simp only [Act.put, List.getElem_toArray, List.getElem_cons_succ, List.getElem_cons_zero, List.setIfInBounds_toArray, List.set_cons_zero, List.set_cons_succ])) | (refine wpAny_take (i := 14) (v := undef) rfl (by kernel_rfl) (by kernel_rfl) (by kernel_rfl) (fun _ _ _ h => h) (Or.inr ⟨by rfl, rfl⟩) ?_; (try simp only [Act.put, List.getElem_toArray, List.getElem_cons_succ, List.getElem_cons_zero, List.setIfInBounds_toArray, List.set_cons_zero, List.set_cons_succ])) | fail "op 14"
          first | (refine wpAny_take (i := 15) (v := ?_) rfl (by kernel_rfl) (by kernel_rfl) (by kernel_rfl) (fun _ _ _ h => h) (Or.inl ⟨by rfl, ?_⟩) ?_; rotate_left; (focus (intro wz; go_simp; done)); (try simp only [Act.put, List.getElem_toArray, List.getElem_cons_succ, List.getElem_cons_zero, List.setIfInBounds_toArray, List.set_cons_zero, List.set_cons_succ])) | (refine wpAny_take (i := 15) (v := ?_) rfl (by kernel_rfl) (by kernel_rfl) (by kernel_rfl) (fun _ _ _ h => h) (Or.inl ⟨by rfl, ?_⟩) ?_; rotate_left; (focus (intro wz; go_simp; with_reducible rfl)); (try simp only [Act.put, List.getElem_toArray, List.getElem_cons_succ, List.getElem_cons_zero, List.setIfInBounds_toArray, List.set_cons_zero, List.set_cons_succ])) | (refine wpAny_take (i := 15) (v := undef) rfl (by kernel_rfl) (by kernel_rfl) (by kernel_rfl) (fun _ _ _ h => h) (Or.inr ⟨by rfl, rfl⟩) ?_; (try simp only [Act.put, List.getElem_toArray, List.getElem_cons_succ, List.getElem_cons_zero, List.setIfInBounds_toArray, List.set_cons_zero, List.set_cons_succ])) | fail "op 15"
          first | (refine wpAny_take (i := 16) (v := ?_) rfl (by kernel_rfl) (by kernel_rfl) (by kernel_rfl) (fun _ _ _ h => h) (Or.inl ⟨by rfl, ?_⟩) ?_; rotate_left; (focus (intro wz; go_simp; done)); (try simp only [Act.put, List.getElem_toArray, List.getElem_cons_succ, List.getElem_cons_zero, List.setIfInBounds_toArray, List.set_cons_zero, List.set_cons_succ])) | (refine wpAny_take (i := 16) (v := ?_) rfl (by kernel_rfl) (by kernel_rfl) (by kernel_rfl) (fun _ _ _ h => h) (Or.inl ⟨by rfl, ?_⟩) ?_; rotate_left; (focus (intro wz; go_simp; with_reducible rfl)); (try simp only [Act.put, List.getElem_toArray, List.getElem_cons_succ, List.getElem_cons_zero, List.setIfInBounds_toArray, List.set_cons_zero, List.set_cons_succ])) | (refine wpAny_take (i := 16) (v := undef) rfl (by kernel_rfl) (by kernel_rfl) (by kernel_rfl) (fun _ _ _ h => h) (Or.inr ⟨by rfl, rfl⟩) ?_; (try simp only [Act.put, List.getElem_toArray, List.getElem_cons_succ, List.getElem_cons_zero, List.setIfInBounds_toArray, List.set_cons_zero, List.set_cons_succ])) | fail "op 16"
          first | (refine wpAny_take (i := 17) (v := ?_) rfl (by kernel_rfl) (by kernel_rfl) (by kernel_rfl) (fun _ _ _ h => h) (Or.inl ⟨by rfl, ?_⟩) ?_; rotate_left; (focus (intro wz; go_simp; done)); (try simp only [Act.put, List.getElem_toArray, List.getElem_cons_succ, List.getElem_cons_zero, List.setIfInBounds_toArray, List.set_cons_zero, List.set_cons_succ])) | (refine wpAny_take (i := 17) (v := ?_) rfl (by kernel_rfl) (by kernel_rfl) (by kernel_rfl) (fun _ _ _ h => h) (Or.inl ⟨by rfl, ?_⟩) ?_; rotate_left; (focus (intro wz; go_simp; with_reducible rfl)); (try simp only [Act.put, List.getElem_toArray, List.getElem_cons_succ, List.getElem_cons_zero, List.setIfInBounds_toArray, List.set_cons_zero, List.set_cons_succ])) | (refine wpAny_take (i := 17) (v := undef) rfl (by kernel_rfl) (by kernel_rfl) (by kernel_rfl) (fun _ _ _ h => h) (Or.inr ⟨by rfl, rfl⟩) ?_; (try simp only [Act.put, List.getElem_toArray, List.getElem_cons_succ, List.getElem_cons_zero, List.setIfInBounds_toArray, List.set_cons_zero, List.set_cons_succ])) | fail "op 17"
          first | (refine wpAny_take (i := 18) (v := ?_) rfl (by kernel_rfl) (by kernel_rfl) (by kernel_rfl) (fun _ _ _ h => h) (Or.inl ⟨by rfl, ?_⟩) ?_; rotate_left; (focus (intro wz; go_simp; done)); (try simp only [Act.put, List.getElem_toArray, List.getElem_cons_succ, List.getElem_cons_zero, List.setIfInBounds_toArray, List.set_cons_zero, List.set_cons_succ])) | (refine wpAny_take (i := 18) (v := ?_) rfl (by kernel_rfl) (by kernel_rfl) (by kernel_rfl) (fun _ _ _ h => h) (Or.inl ⟨by rfl, ?_⟩) ?_; rotate_left; (focus (intro wz; go_simp; with_reducible rfl)); (try simp only [Act.put, List.getElem_toArray, List.getElem_cons_succ, List.getElem_cons_zero, List.setIfInBounds_toArray, List.set_cons_zero, List.set_cons_succ])) | (refine wpAny_take (i := 18) (v := undef) rfl (by kernel_rfl) (by kernel_rfl) (by kernel_rfl) (fun _ _ _ h => h) (Or.inr ⟨by rfl, rfl⟩) ?_; (try simp only [Act.put, List.getElem_toArray, List.getElem_cons_succ, List.getElem_cons_zero, List.setIfInBounds_toArray, List.set_cons_zero, List.set_cons_succ])) | fail "op 18"
          first | (refine wpAny_take (i := 19) (v := ?_) rfl (by kernel_rfl) (by kernel_rfl) (by kernel_rfl) (fun _ _ _ h => h) (Or.inl ⟨by rfl, ?_⟩) ?_; rotate_left; (focus (intro wz; go_simp; done)); (try simp only [Act.put, List.getElem_toArray, List.getElem_cons_succ, List.getElem_cons_zero, List.setIfInBounds_toArray, List.set_cons_zero, List.set_cons_succ])) | (refine wpAny_take (i := 19) (v := ?_) rfl (by kernel_rfl) (by kernel_rfl) (by kernel_rfl) (fun _ _ _ h => h) (Or.inl ⟨by rfl, ?_⟩) ?_; rotate_left; (focus (intro wz; go_simp; with_reducible rfl)); (try simp only [Act.put, List.getElem_toArray, List.getElem_cons_succ, List.getElem_cons_zero, List.setIfInBounds_toArray, List.set_cons_zero, List.set_cons_succ])) | (refine wpAny_take (i := 19) (v := undef) rfl (by kernel_rfl) (by kernel_rfl) (by kernel_rfl) (fun _ _ _ h => h) (Or.inr ⟨by rfl, rfl⟩) ?_; (try simp only [Act.put, List.getElem_toArray, List.getElem_cons_succ, List.getElem_cons_zero, List.setIfInBounds_toArray, List.set_cons_zero, List.set_cons_succ])) | fail "op 19"
          first | (refine wpAny_take (i := 20) (v := ?_) rfl (by kernel_rfl) (by kernel_rfl) (by kernel_rfl) (fun _ _ _ h => h) (Or.inl ⟨by rfl, ?_⟩) ?_; rotate_left; (focus (intro wz; go_simp; done)); (try simp only [Act.put, List.getElem_toArray, List.getElem_cons_succ, List.getElem_cons_zero, List.setIfInBounds_toArray, List.set_cons_zero, List.set_cons_succ])) | (refine wpAny_take (i := 20) (v := ?_) rfl (by kernel_rfl) (by kernel_rfl) (by kernel_rfl) (fun _ _ _ h => h) (Or.inl ⟨by rfl, ?_⟩) ?_; rotate_left; (focus (intro wz; go_simp; with_reducible rfl)); (try simp only [Act.put, List.getElem_toArray, List.getElem_cons_succ, List.getElem_cons_zero, List.setIfInBounds_toArray, List.set_cons_zero, List.set_cons_succ])) | (refine wpAny_take (i := 20) (v := undef) rfl (by kernel_rfl) (by kernel_rfl) (by kernel_rfl) (fun _ _ _ h => h) (Or.inr ⟨by rfl, rfl⟩) ?_; (try simp only [Act.put, List.getElem_toArray, List.getElem_cons_succ, List.getElem_cons_zero, List.setIfInBounds_toArray, List.set_cons_zero, List.set_cons_succ])) | fail "op 20"
          first | (refine wpAny_take (i := 21) (v := ?_) rfl (by kernel_rfl) (by kernel_rfl) (by kernel_rfl) (fun _ _ _ h => h) (Or.inl ⟨by rfl, ?_⟩) ?_; rotate_left; (focus (intro wz; go_simp; done)); (try simp only [Act.put, List.getElem_toArray, List.getElem_cons_succ, List.getElem_cons_zero, List.setIfInBounds_toArray, List.set_cons_zero, List.set_cons_succ])) | (refine wpAny_take (i := 21) (v := ?_) rfl (by kernel_rfl) (by kernel_rfl) (by kernel_rfl) (fun _ _ _ h => h) (Or.inl ⟨by rfl, ?_⟩) ?_; rotate_left; (focus (intro wz; go_simp; with_reducible rfl)); (try simp only [Act.put, List.getElem_toArray, List.getElem_cons_succ, List.getElem_cons_zero, List.setIfInBounds_toArray, List.set_cons_zero, List.set_cons_succ])) | (refine wpAny_take (i := 21) (v := undef) rfl (by kernel_rfl) (by kernel_rfl) (by kernel_rfl) (fun _ _ _ h => h) (Or.inr ⟨by rfl, rfl⟩) ?_; (try simp only [Act.put, List.getElem_toArray, List.getElem_cons_succ, List.getElem_cons_zero, List.setIfInBounds_toArray, List.set_cons_zero, List.set_cons_succ])) | fail "op 21"
          first | (refine wpAny_take (i := 22) (v := ?_) rfl (by kernel_rfl) (by kernel_rfl) (by kernel_rfl) (fun _ _ _ h => h) (Or.inl ⟨by rfl, ?_⟩) ?_; rotate_left; (focus (intro wz; go_simp; done)); (try simp only [Act.put, List.getElem_toArray, List.getElem_cons_succ, List.getElem_cons_zero, List.setIfInBounds_toArray, List.set_cons_zero, List.set_cons_succ])) | (refine wpAny_take (i := 22) (v := ?_) rfl (by kernel_rfl) (by kernel_rfl) (by kernel_rfl) (fun _ _ _ h => h) (Or.inl ⟨by rfl, ?_⟩) ?_; rotate_left; (focus (intro wz; go_simp; with_reducible rfl)); (try simp only [Act.put, List.getElem_toArray, List.getElem_cons_succ, List.getElem_cons_zero, List.setIfInBounds_toArray, List.set_cons_zero, List.set_cons_succ])) | (refine wpAny_take (i := 22) (v := undef) rfl (by kernel_rfl) (by kernel_rfl) (by kernel_rfl) (fun _ _ _ h => h) (Or.inr ⟨by rfl, rfl⟩) ?_; (try simp only [Act.put, List.getElem_toArray, List.getElem_cons_succ, List.getElem_cons_zero, List.setIfInBounds_toArray, List.set_cons_zero, List.set_cons_succ])) | fail "op 22"
          first | (refine wpAny_take (i := 24) (v := ?_) rfl (by kernel_rfl) (by kernel_rfl) (by kernel_rfl) (fun _ _ _ h => h) (Or.inl ⟨by rfl, ?_⟩) ?_; rotate_left; (focus (intro wz; go_simp; done)); (try simp only [Act.put, List.getElem_toArray, List.getElem_cons_succ, List.getElem_cons_zero, List.setIfInBounds_toArray, List.set_cons_zero, List.set_cons_succ])) | (refine wpAny_take (i := 24) (v := ?_) rfl (by kernel_rfl) (by kernel_rfl) (by kernel_rfl) (fun _ _ _ h => h) (Or.inl ⟨by rfl, ?_⟩) ?_; rotate_left; (focus (intro wz; go_simp; with_reducible rfl)); (try simp only [Act.put, List.getElem_toArray, List.getElem_cons_succ, List.getElem_cons_zero, List.setIfInBounds_toArray, List.set_cons_zero, List.set_cons_succ])) | (refine wpAny_take (i := 24) (v := undef) rfl (by kernel_rfl) (by kernel_rfl) (by kernel_rfl) (fun _ _ _ h => h) (Or.inr ⟨by rfl, rfl⟩) ?_; (try simp only [Act.put, List.getElem_toArray, List.getElem_cons_succ, List.getElem_cons_zero, List.setIfInBounds_toArray, List.set_cons_zero, List.set_cons_succ])) | fail "op 24"
          first | (refine wpAny_take (i := 25) (v := ?_) rfl (by kernel_rfl) (by kernel_rfl) (by kernel_rfl) (fun _ _ _ h => h) (Or.inl ⟨by rfl, ?_⟩) ?_; rotate_left; (focus (intro wz; go_simp; done)); (try simp only [Act.put, List.getElem_toArray, List.getElem_cons_succ, List.getElem_cons_zero, List.setIfInBounds_toArray, List.set_cons_zero, List.set_cons_succ])) | (refine wpAny_take (i := 25) (v := ?_) rfl (by kernel_rfl) (by kernel_rfl) (by kernel_rfl) (fun _ _ _ h => h) (Or.inl ⟨by rfl, ?_⟩) ?_; rotate_left; (focus (intro wz; go_simp; with_reducible rfl)); (try simp only [Act.put, List.getElem_toArray, List.getElem_cons_succ, List.getElem_cons_zero, List.setIfInBounds_toArray, List.set_cons_zero, List.set_cons_succ])) | (refine wpAny_take (i := 25) (v := undef) rfl (by kernel_rfl) (by kernel_rfl) (by kernel_rfl) (fun _ _ _ h => h) (Or.inr ⟨by rfl, rfl⟩) ?_; (try simp only [Act.put, List.getElem_toArray, List.getElem_cons_succ, List.getElem_cons_zero, List.setIfInBounds_toArray, List.set_cons_zero, List.set_cons_succ])) | fail "op 25"
          first | (refine wpAny_take (i := 26) (v := ?_) rfl (by kernel_rfl) (by kernel_rfl) (by kernel_rfl) (fun _ _ _ h => h) (Or.inl ⟨by rfl, ?_⟩) ?_; rotate_left; (focus (intro wz; go_simp; done)); (try simp only [Act.put, List.getElem_toArray, List.getElem_cons_succ, List.getElem_cons_zero, List.setIfInBounds_toArray, List.set_cons_zero, List.set_cons_succ])) | (refine wpAny_take (i := 26) (v := ?_) rfl (by kernel_rfl) (by kernel_rfl) (by kernel_rfl) (fun _ _ _ h => h) (Or.inl ⟨by rfl, ?_⟩) ?_; rotate_left; (focus (intro wz; go_simp; with_reducible rfl)); (try simp only [Act.put, List.getElem_toArray, List.getElem_cons_succ, List.getElem_cons_zero, List.setIfInBounds_toArray, List.set_cons_zero, List.set_cons_succ])) | (refine wpAny_take (i := 26) (v := undef) rfl (by kernel_rfl) (by kernel_rfl) (by kernel_rfl) (fun _ _ _ h => h) (Or.inr ⟨by rfl, rfl⟩) ?_; (try simp only [Act.put, List.getElem_toArray, List.getElem_cons_succ, List.getElem_cons_zero, List.setIfInBounds_toArray, List.set_cons_zero, List.set_cons_succ])) | fail "op 26"
          first | (refine wpAny_take (i := 27) (v := ?_) rfl (by kernel_rfl) (by kernel_rfl) (by kernel_rfl) (fun _ _ _ h => h) (Or.inl ⟨by rfl, ?_⟩) ?_; rotate_left; (focus (intro wz; go_simp; done)); (try simp only [Act.put, List.getElem_toArray, List.getElem_cons_succ, List.getElem_cons_zero, List.setIfInBounds_toArray, List.set_cons_zero, List.set_cons_succ])) | (refine wpAny_take (i := 27) (v := ?_) rfl (by kernel_rfl) (by kernel_rfl) (by kernel_rfl) (fun _ _ _ h => h) (Or.inl ⟨by rfl, ?_⟩) ?_; rotate_left; (focus (intro wz; go_simp; with_reducible rfl)); (try simp only [Act.put, List.getElem_toArray, List.getElem_cons_succ, List.getElem_cons_zero, List.setIfInBounds_toArray, List.set_cons_zero, List.set_cons_succ])) | (refine wpAny_take (i := 27) (v := undef) rfl (by kernel_rfl) (by kernel_rfl) (by kernel_rfl) (fun _ _ _ h => h) (Or.inr ⟨by rfl, rfl⟩) ?_; (try simp only [Act.put, List.getElem_toArray, List.getElem_cons_succ, List.getElem_cons_zero, List.setIfInBounds_toArray, List.set_cons_zero, List.set_cons_succ])) | fail "op 27"
          refine wpAny_ready (rs := [23, 28]) (by kernel_rfl) (by simp) ?_
          refine AllReady.cons rfl (fun K hK => ?_) (AllReady.cons rfl (fun K hK => ?_) AllReady.nil)
          · go_simp
            (try (refine hK _ _ ?_))
            (try clear hK K)
            (try simp only [Act.put, List.getElem_toArray, List.getElem_cons_succ, List.getElem_cons_zero, List.setIfInBounds_toArray, List.set_cons_zero, List.set_cons_succ])
            refine wpAny_ready (rs := [28]) (by kernel_rfl) (by simp) ?_
            refine AllReady.cons rfl (fun K hK => ?_) AllReady.nil
            go_simp
            (try (refine hK _ _ ?_))
            (try clear hK K)
            (try simp only [Act.put, List.getElem_toArray, List.getElem_cons_succ, List.getElem_cons_zero, List.setIfInBounds_toArray, List.set_cons_zero, List.set_cons_succ])
            first | (refine wpAny_take (i := 29) (v := ?_) rfl (by kernel_rfl) (by kernel_rfl) (by kernel_rfl) (fun _ _ _ h => h) (Or.inl ⟨by rfl, ?_⟩) ?_; rotate_left; (focus (intro wz; go_simp; done)); (try simp only [Act.put, List.getElem_toArray, List.getElem_cons_succ, List.getElem_cons_zero, List.setIfInBounds_toArray, List.set_cons_zero, List.set_cons_succ])) | (refine wpAny_take (i := 29) (v := ?_) rfl (by kernel_rfl) (by kernel_rfl) (by kernel_rfl) (fun _ _ _ h => h) (Or.inl ⟨by rfl, ?_⟩) ?_; rotate_left; (focus (intro wz; go_simp; with_reducible rfl)); (try simp only [Act.put, List.getElem_toArray, List.getElem_cons_succ, List.getElem_cons_zero, List.setIfInBounds_toArray, List.set_cons_zero, List.set_cons_succ])) | (refine wpAny_take (i := 29) (v := undef) rfl (by kernel_rfl) (by kernel_rfl) (by kernel_rfl) (fun _ _ _ h => h) (Or.inr ⟨by rfl, rfl⟩) ?_; (try simp only [Act.put, List.getElem_toArray, List.getElem_cons_succ, List.getElem_cons_zero, List.setIfInBounds_toArray, List.set_cons_zero, List.set_cons_succ])) | fail "op 29"
            first | (refine wpAny_take (i := 30) (v := ?_) rfl (by kernel_rfl) (by kernel_rfl) (by kernel_rfl) (fun _ _ _ h => h) (Or.inl ⟨by rfl, ?_⟩) ?_; rotate_left; (focus (intro wz; go_simp; done)); (try simp only [Act.put, List.getElem_toArray, List.getElem_cons_succ, List.getElem_cons_zero, List.setIfInBounds_toArray, List.set_cons_zero, List.set_cons_succ])) | (refine wpAny_take (i := 30) (v := ?_) rfl (by kernel_rfl) (by kernel_rfl) (by kernel_rfl) (fun _ _ _ h => h) (Or.inl ⟨by rfl, ?_⟩) ?_; rotate_left; (focus (intro wz; go_simp; with_reducible rfl)); (try simp only [Act.put, List.getElem_toArray, List.getElem_cons_succ, List.getElem_cons_zero, List.setIfInBounds_toArray, List.set_cons_zero, List.set_cons_succ])) | (refine wpAny_take (i := 30) (v := undef) rfl (by kernel_rfl) (by kernel_rfl) (by kernel_rfl) (fun _ _ _ h => h) (Or.inr ⟨by rfl, rfl⟩) ?_; (try simp only [Act.put, List.getElem_toArray, List.getElem_cons_succ, List.getElem_cons_zero, List.setIfInBounds_toArray, List.set_cons_zero, List.set_cons_succ])) | fail "op 30"
            first | (refine wpAny_take (i := 31) (v := ?_) rfl (by kernel_rfl) (by kernel_rfl) (by kernel_rfl) (fun _ _ _ h => h) (Or.inl ⟨by rfl, ?_⟩) ?_; rotate_left; (focus (intro wz; go_simp; done)); (try simp only [Act.put, List.getElem_toArray, List.getElem_cons_succ, List.getElem_cons_zero, List.setIfInBounds_toArray, List.set_cons_zero, List.set_cons_succ])) | (refine wpAny_take (i := 31) (v := ?_) rfl (by kernel_rfl) (by kernel_rfl) (by kernel_rfl) (fun _ _ _ h => h) (Or.inl ⟨by rfl, ?_⟩) ?_; rotate_left; (focus (intro wz; go_simp; with_reducible rfl)); (try simp only [Act.put, List.getElem_toArray, List.getElem_cons_succ, List.getElem_cons_zero, List.setIfInBounds_toArray, List.set_cons_zero, List.set_cons_succ])) | (refine wpAny_take (i := 31) (v := undef) rfl (by kernel_rfl) (by kernel_rfl) (by kernel_rfl) (fun _ _ _ h => h) (Or.inr ⟨by rfl, rfl⟩) ?_; (try simp only [Act.put, List.getElem_toArray, List.getElem_cons_succ, List.getElem_cons_zero, List.setIfInBounds_toArray, List.set_cons_zero, List.set_cons_succ])) | fail "op 31"
            refine wpAny_done (by kernel_rfl) ?_ _
            have hb6' : Below w4.heap.size w4 w6 := by first | exact bl_step hb5'.drew hb6 | exact bl_step hb5'.drew.drew hb6 | (repeat' (first | (with_reducible assumption) | (with_reducible exact Below.refl _ _) | (with_reducible refine Below.alloc ?_ ?_ _) | (with_reducible refine Below.drew ?_) | (with_reducible refine bl_drewN ?_ _) | (with_reducible refine Below.setCell ?_ ?_ _) | (with_reducible refine bl_step ?_ (by assumption)) | go_size))
            clear hb6 hu6
            all_goals go_wp2
            go_roundw
            case rel => exact ⟨j + 1, by omega, by go_num, by rw [Q1.out]; first | done | rfl | simp, hb6'⟩
            case measure => simp [intOf]; omega
          · go_simp
            (try (refine hK _ _ ?_))
            (try clear hK K)
            (try simp only [Act.put, List.getElem_toArray, List.getElem_cons_succ, List.getElem_cons_zero, List.setIfInBounds_toArray, List.set_cons_zero, List.set_cons_succ])
            refine wpAny_ready (rs := [23]) (by kernel_rfl) (by simp) ?_
            refine AllReady.cons rfl (fun K hK => ?_) AllReady.nil
            go_simp
            (try (refine hK _ _ ?_))
            (try clear hK K)
            (try simp only [Act.put, List.getElem_toArray, List.getElem_cons_succ, List.getElem_cons_zero, List.setIfInBounds_toArray, List.set_cons_zero, List.set_cons_succ])
            first | (refine wpAny_take (i := 29) (v := ?_) rfl (by kernel_rfl) (by kernel_rfl) (by kernel_rfl) (fun _ _ _ h => h) (Or.inl ⟨by rfl, ?_⟩) ?_; rotate_left; (focus (intro wz; go_simp; done)); (try simp only [Act.put, List.getElem_toArray, List.getElem_cons_succ, List.getElem_cons_zero, List.setIfInBounds_toArray, List.set_cons_zero, List.set_cons_succ])) | (refine wpAny_take (i := 29) (v := ?_) rfl (by kernel_rfl) (by kernel_rfl) (by kernel_rfl) (fun _ _ _ h => h) (Or.inl ⟨by rfl, ?_⟩) ?_; rotate_left; (focus (intro wz; go_simp; with_reducible rfl)); (try simp only [Act.put, List.getElem_toArray, List.getElem_cons_succ, List.getElem_cons_zero, List.setIfInBounds_toArray, List.set_cons_zero, List.set_cons_succ])) | (refine wpAny_take (i := 29) (v := undef) rfl (by kernel_rfl) (by kernel_rfl) (by kernel_rfl) (fun _ _ _ h => h) (Or.inr ⟨by rfl, rfl⟩) ?_; (try simp only [Act.put, List.getElem_toArray, List.getElem_cons_succ, List.getElem_cons_zero, List.setIfInBounds_toArray, List.set_cons_zero, List.set_cons_succ])) | fail "op 29"
            first | (refine wpAny_take (i := 30) (v := ?_) rfl (by kernel_rfl) (by kernel_rfl) (by kernel_rfl) (fun _ _ _ h => h) (Or.inl ⟨by rfl, ?_⟩) ?_; rotate_left; (focus (intro wz; go_simp; done)); (try simp only [Act.put, List.getElem_toArray, List.getElem_cons_succ, List.getElem_cons_zero, List.setIfInBounds_toArray, List.set_cons_zero, List.set_cons_succ])) | (refine wpAny_take (i := 30) (v := ?_) rfl (by kernel_rfl) (by kernel_rfl) (by kernel_rfl) (fun _ _ _ h => h) (Or.inl ⟨by rfl, ?_⟩) ?_; rotate_left; (focus (intro wz; go_simp; with_reducible rfl)); (try simp only [Act.put, List.getElem_toArray, List.getElem_cons_succ, List.getElem_cons_zero, List.setIfInBounds_toArray, List.set_cons_zero, List.set_cons_succ])) | (refine wpAny_take (i := 30) (v := undef) rfl (by kernel_rfl) (by kernel_rfl) (by kernel_rfl) (fun _ _ _ h => h) (Or.inr ⟨by rfl, rfl⟩) ?_; (try simp only [Act.put, List.getElem_toArray, List.getElem_cons_succ, List.getElem_cons_zero, List.setIfInBounds_toArray, List.set_cons_zero, List.set_cons_succ])) | fail "op 30"
            first | (refine wpAny_take (i := 31) (v := ?_) rfl (by kernel_rfl) (by kernel_rfl) (by kernel_rfl) (fun _ _ _ h => h) (Or.inl ⟨by rfl, ?_⟩) ?_; rotate_left; (focus (intro wz; go_simp; done)); (try simp only [Act.put, List.getElem_toArray, List.getElem_cons_succ, List.getElem_cons_zero, List.setIfInBounds_toArray, List.set_cons_zero, List.set_cons_succ])) | (refine wpAny_take (i := 31) (v := ?_) rfl (by kernel_rfl) (by kernel_rfl) (by kernel_rfl) (fun _ _ _ h => h) (Or.inl ⟨by rfl, ?_⟩) ?_; rotate_left; (focus (intro wz; go_simp; with_reducible rfl)); (try simp only [Act.put, List.getElem_toArray, List.getElem_cons_succ, List.getElem_cons_zero, List.setIfInBounds_toArray, List.set_cons_zero, List.set_cons_succ])) | (refine wpAny_take (i := 31) (v := undef) rfl (by kernel_rfl) (by kernel_rfl) (by kernel_rfl) (fun _ _ _ h => h) (Or.inr ⟨by rfl, rfl⟩) ?_; (try simp only [Act.put, List.getElem_toArray, List.getElem_cons_succ, List.getElem_cons_zero, List.setIfInBounds_toArray, List.set_cons_zero, List.set_cons_succ])) | fail "op 31"
            refine wpAny_done (by kernel_rfl) ?_ _
            have hb6' : Below w4.heap.size w4 w6 := by first | exact bl_step hb5'.drew hb6 | exact bl_step hb5'.drew.drew hb6 | (repeat' (first | (with_reducible assumption) | (with_reducible exact Below.refl _ _) | (with_reducible refine Below.alloc ?_ ?_ _) | (with_reducible refine Below.drew ?_) | (with_reducible refine bl_drewN ?_ _) | (with_reducible refine Below.setCell ?_ ?_ _) | (with_reducible refine bl_step ?_ (by assumption)) | go_size))
            clear hb6 hu6
            all_goals go_wp2
            go_roundw
            case rel => exact ⟨j + 1, by omega, by go_num, by rw [Q1.out]; first | done | rfl | simp, hb6'⟩
            case measure => simp [intOf]; omega
    · have hjL : j = L := by omega
      subst hjL
      rw [HZE.out]
      have KM := Lib.hid (fun lo hi v W h ht => melodyMove_any lo hi v xs 0 W h ht)
      rw [HB0.out] at KM
      go_wp2_with (fail)
      (go_at_call 36; refine (KM.out _ _ _ _ (HR.out.below hb (.inr (Nat.le_refl _))) (HT.out.2.below (bl_step bw4 hb))).mono ?_; rintro e w5 ⟨x, rfl, hx5, hb5⟩)
      have hb5' := bl_step hb hb5
      have hj4 : (j : Int) ≤ 4 := by omega
      go_wp2_with (fail)
      (go_at_call 26; refine (modeAll_any _ _ x _ _ hx5 (HT.out.1.below (bl_step bw4 hb5'))).mono ?_; rintro e w6 ⟨u6, rfl, hu6, hb6⟩)
      have hb6' := bl_step hb5' hb6
      obtain ⟨N, hN⟩ : ∃ N, (allM (mmL 0 xs) 8).length = N := ⟨_, rfl⟩
      obtain ⟨a6, c6, rfl⟩ := hu6.sl hN
      rw [hN]
      clear hu6 hx5 hN
      go_wp2
      go_ret
      exact ⟨by simp, bl_step bw4 hb6'⟩

noncomputable def fnModeMoves_world (os : Os) : World := { World.holding Tryd.prog os ⟨#[], #[], []⟩ with heap := (((World.holding Tryd.prog os ⟨#[], #[], []⟩).heap.modify 1 fun | .cells _ t frozen => .cells #[.int .i64 0, .int .i64 2, .int .i64 4, .int .i64 5, .int .i64 7, .int .i64 9, .int .i64 10] t frozen | o => o).modify 0 fun | .cells _ t frozen => .cells #[.int .i64 8, .int .i64 6, .int .i64 10, .int .i64 8, .int .i64 10, .int .i64 8, .int .i64 11, .int .i64 10] t frozen | o => o) }
theorem fnModeMoves_met (os : Os) : laidMet Tryd.prog Rows.fnModeMovesRow.laid ((fnModeMoves_world os).forCall (fun _ _ => 0) ⟨#[], #[.slice none 0 0], []⟩).memory :=
  laidMet_of_run' 8 (by kernel_rfl) (by kernel_rfl)
theorem fnModeMoves_reads (os : Os) {H : Type} (enc : TypeId × Value → H) : ∃ places, DataW.whole enc Tryd.prog ((fnModeMoves_world os).forCall (fun _ _ => 0) ⟨#[], #[.slice none 0 0], []⟩).memory Tryd.f7.params.toList Rows.fnModeMovesSpec.vars false (#[.slice none 0 0] : Array Value).toList 8 = some ([.nil], [Rows.laid_loop_example_neumes_impl_modeTenors, Rows.laid_loop_example_neumes_impl_stepHeights], places) :=
  ⟨((DataW.whole enc Tryd.prog ((fnModeMoves_world os).forCall (fun _ _ => 0) ⟨#[], #[.slice none 0 0], []⟩).memory Tryd.f7.params.toList Rows.fnModeMovesSpec.vars false (#[.slice none 0 0] : Array Value).toList 8).getD ([], [], [])).2.2, by kernel_rfl⟩
set_option maxRecDepth 100000 in
theorem fnModeMoves_lifted (os : Os) (started : os.Started) (H : Type) (enc : TypeId × Value → H) (F : Stop.Interp) :
    ReturnsInHanded {} Tryd.checked os 7 .any ((OpenSpec.ofChange Rows.fnModeMovesSpec).preRow enc Tryd.prog Tryd.f7 Rows.fnModeMovesRow.domain false Rows.fnModeMovesRow.laid) (((OpenSpec.ofChange Rows.fnModeMovesSpec).at F).post enc Tryd.prog Tryd.f7 false true false false) := by
  obtain ⟨places, hx⟩ := fnModeMoves_reads os enc
  refine returnsInHanded_of_row (C := Tryd.checked) (s := OpenSpec.ofChange Rows.fnModeMovesSpec) own started (by kernel_rfl) Tryd.func7
    (witness_row_at (enc := enc) (C := Tryd.checked) false (fnModeMoves_world os) #[.slice none 0 0] rfl (by kernel_rfl) (by kernel_rfl) (by kernel_rfl)
      (OpenSpec.preRow_of_cond 8 hx (by kernel_rfl) (fun k hk => by cases hk) (by kernel_rfl) (fnModeMoves_met os))) ?_
  intro W base args ds gs before hval0 hW _ _ _ hL _ _
  have hval : ∀ (j : Nat) t v, Tryd.f7.params[j]? = some t → args[j]? = some v → Value.okWide Tryd.prog W .any base t v := hval0
  have hW' := hW
  obtain ⟨p, q, hA0, hV, rfl, _, _⟩ := hW
  have hA : DataW.TrodAll enc Tryd.prog W 0 (fun _ => true) true Tryd.f7.params.toList args.toList ds p := hA0
  rw [Tryd.params7] at hA hval
  obtain ⟨v0, vs0, d0, ds0, p0, q0, hargs, rfl, rfl, h0, r0⟩ := trodAll_cons hA
  obtain ⟨rfl, rfl, rfl⟩ := trodAll_nil r0
  obtain rfl : args = #[v0] := by cases args; simp_all
  obtain ⟨g0, g1, rfl⟩ := vars2 hV
  obtain ⟨a0, n0, c0, rfl⟩ := okWide_slice Tryd.underlying22 (hval 0 22 v0 rfl rfl)
  have k0 := h0
  have lt0 : ∀ x ∈ p0, x.block < W.heap.size := by obtain ⟨m, hm⟩ := k0; exact DataW.trod_lt m _ _ _ hm
  have y0 := code_in h0
  clear hA0 hval0
  refine (fnModeMoves_walk a0 n0 c0 W y0.1 y0.2.1 y0.2.2 ⟨tenTab_at hL (.tail _ (.head _)), stepTab_in hL (.head _)⟩).mono fun e W' ⟨he, hb⟩ => ?_
  subst he
  exact ⟨_, rfl, _, _, _, [], _, _, hW', trodAll_cons_mk (shut_bool Tryd.underlying4 _) trodAll_mk0, trodAll_cons_mk (Below.trod laidOut (by kernel_rfl) (of_decide_eq_true (by kernel_rfl)) k0 hb lt0) (trodAll_mk0), hb.trodVars laidOut (by kernel_rfl) hV, hb.frame _, fun h => by cases h⟩

theorem fnModeMoves_holds : Rows.FnModeMovesSaid :=
  OpenClaim.holds_of_cond 7 Tryd.f7 rfl rfl rfl rfl rfl rfl rfl ⟨rfl, rfl, rfl, rfl, rfl⟩ rfl rfl rfl rfl rfl (by kernel_rfl) Tryd.func7 (by kernel_rfl)
    (of_decide_eq_true (by kernel_rfl)) (by unfold Func.isWrapper; first | (rw [if_pos (by decide +kernel)]; kernel_rfl) | (rw [if_neg (by decide +kernel)]; exact ⟨rfl, rfl⟩))
    (fun os started H enc _ F => by rw [OpenClaim.pre_eq_preRow]; exact fnModeMoves_lifted os started H enc F)
theorem fnModeMoves_plain (f : FuncId) (fn : Func) (hf : Tryd.pinned.checked.prog.funcNamed "loop.example/neumes/laws.FnModeMoves" = some f) (hfn : Tryd.pinned.checked.prog.funcs[f]? = some fn) :
    false = Tryd.pinned.checked.prog.looks [] ∧ ∀ (j : Nat) t, fn.params[j]? = some t → Tryd.pinned.checked.prog.wantsStandIn t = false := by
  obtain rfl : f = 7 := Option.some.inj ((show Tryd.prog.funcNamed "loop.example/neumes/laws.FnModeMoves" = some 7 by kernel_rfl).symm.trans hf) |>.symm
  obtain rfl : fn = Tryd.f7 := (Option.some.inj (Tryd.func7.symm.trans hfn)).symm
  refine ⟨by kernel_rfl, fun j t ht => ?_⟩
  rw [Tryd.params7] at ht
  have hm := Array.mem_of_getElem? ht
  simp only [List.mem_toArray, List.mem_cons, List.not_mem_nil, or_false] at hm
  subst hm
  exact (show Tryd.prog.wantsStandIn _ = false by kernel_rfl)
/-- the card -/
theorem fnModeMoves_card : Rows.FnModeMovesCardSaid :=
  Claim7.holds_tied_plain_at .later [] _ _ _ _ fnModeMoves_holds (fun _ h => by cases h) (by kernel_rfl) (fun _ h => by cases h) fnModeMoves_row_tie rfl ⟨rfl, rfl⟩ (by kernel_rfl) rfl fnModeMoves_plain (by kernel_rfl)


end Go.Proofs.YtmipkodgkldmbaaDoor
