/-
  The text of a melody, in both programs.
-/
import Derived.Test.YthnofdkkocpjhaaDoorMelT
import Derived.Test.YthnofdkkocpjhaaDoorMelV
import Derived.Test.YthnofdkkocpjhaaDoorTxi
import Derived.Test.YthnofdkkocpjhaaDoorShelf
import Derived.Lib.Join
namespace Go.Proofs.YthnofdkkocpjhaaDoor
open Go.RowKit
set_option maxRecDepth 100000
set_option linter.unusedVariables false

/-- the text of a tone as a list -/
def txl (t : Int × Bool) : List UInt8 := [tb0 t.1 t.2, tb1 t.1]
def mtx : List (Int × Bool) → List UInt8
  | [] => []
  | t :: r => txl t ++ r.flatMap fun u => 32 :: txl u
def mts (xs : List (Int × Bool)) : ByteArray := ⟨(mtx xs).toArray⟩
theorem mtx_snoc {xs : List (Int × Bool)} (h : xs ≠ []) (t : Int × Bool) : mtx (xs ++ [t]) = mtx xs ++ ([32] ++ txl t) := by
  cases xs with
  | nil => exact absurd rfl h
  | cons u r => simp [mtx, List.flatMap_append]
theorem mtx_len (xs : List (Int × Bool)) : (mtx xs).length ≤ 3 * xs.length := by
  cases xs with
  | nil => simp [mtx]
  | cons t r =>
    have : (r.flatMap fun u => 32 :: txl u).length = 3 * r.length := by
      induction r with
      | nil => rfl
      | cons a r ih => simp [txl] at ih ⊢; omega
    simp only [mtx, List.length_append, this, List.length_cons]
    simp [txl]; omega
theorem join_mtx (xs : List (Int × Bool)) : Lib.join ((xs.map fun t => (⟨#[tb0 t.1 t.2, tb1 t.1]⟩ : ByteArray)).map (·.data.toList)) [32] = mtx xs := by
  cases xs with
  | nil => rfl
  | cons t r =>
    rw [List.map_cons, List.map_cons, Lib.join_cons]
    simp only [mtx, Lib.joinTail, List.map_map, List.flatMap]
    rfl
theorem mts_size (xs : List (Int × Bool)) : (mts xs).size ≤ 3 * xs.length := by
  show (mtx xs).toArray.size ≤ _
  simpa using mtx_len xs
theorem mts_first (t : Int × Bool) : mts [t] = ⟨#[tb0 t.1 t.2, tb1 t.1]⟩ := by simp [mts, mtx, txl]
theorem mts_more {xs : List (Int × Bool)} (h : xs ≠ []) (t : Int × Bool) : mts xs ++ ⟨#[32]⟩ ++ ⟨#[tb0 t.1 t.2, tb1 t.1]⟩ = mts (xs ++ [t]) := by
  rw [mts, ByteArray.mk_append_mk, ByteArray.mk_append_mk, mts, mtx_snoc h]
  simp [txl]

theorem infoStr : (Tryd.prog.info? 9).map (fun i => (i.zero, i.size, i.bytes)) = some (some (.string ⟨#[]⟩), 1, 16) := by kernel_rfl
/-- the cells of the words -/
def wcs (xs : List (Int × Bool)) : List Value := xs.map fun t => Value.string ⟨#[tb0 t.1 t.2, tb1 t.1]⟩
theorem snews {w : World} {s : ByteArray} {t : TypeId} : ∀ j u, ([.string s] : List Value)[j]? = some u → (w.alloc (.cells #[.string s] t)).cell? ((⟨w.heap.size, 0, none⟩ : Addr).add j) = some u := by
  intro j u hj
  match j, hj with
  | 0, hj => simp at hj; subst hj; simp [Addr.add]
theorem snews_one {s : ByteArray} : ∀ u ∈ ([.string s] : List Value), u.oneCell' = true := by
  intro u hu; simp at hu; subst hu; rfl

def TxInv (w wr : World) (v m : Value) (xs ys : List (Int × Bool)) : Prop :=
  ∃ p, m = .pointer p ∧ wr.ownsRow w.heap.size 9 1 v xs.length (wcs xs) ∧ (∃ lo, Mel wr lo p ys) ∧ Below w.heap.size w wr

set_option maxHeartbeats 4000000 in
theorem mtext_any (p : Option Addr) (lo : Nat) (xs : List (Int × Bool)) (w : World) (h : Mel w lo p xs) (ha : allv xs = true) (hn : xs.length ≤ 24) :
    Calls Tryd.prog 31 #[.pointer p] w fun e w' => e = .returned (.string (mts xs)) ∧ Below w.heap.size w w' := by
  obtain ⟨i0, hi, hq0, hq1, hq2⟩ := info_parts infoStr
  have HA := Lib.hid ha
  have h0 : TxInv w (w.alloc (.cells #[] 9)) (.slice (some ⟨w.heap.size, 0, none⟩) 0 0) (.pointer p) [] xs :=
    ⟨p, rfl, ⟨rfl, .inr ⟨w.heap.size, 0, #[], rfl, Nat.le_refl _, heap_alloc_new w _, by simp, by simp [maxLen], by simp, by simp [wcs]⟩⟩, ⟨lo, h.below ((Below.refl _ _).alloc (Nat.le_refl _) _)⟩, (Below.refl _ _).alloc (Nat.le_refl _) _⟩
  clear h ha
  go_enter Tryd.func31, Tryd.ntmps31
  go_wp2
  go_loopg [0, 3] xs.length (fun k m v wr => ∃ j, j + k = xs.length ∧ TxInv w wr v m (xs.take j) (xs.drop j))
  case atStart => exact ⟨0, by omega, by simpa using h0⟩
  case round =>
    obtain ⟨j, hj, p, rfl, hown, ⟨lo', hm⟩, hb⟩ := hrel
    by_cases hlt : j < xs.length
    · have hd : xs.drop j = xs[j] :: xs.drop (j + 1) := List.drop_eq_getElem_cons hlt
      have ht : xs[j]? = some xs[j] := List.getElem?_eq_getElem hlt
      have hx : xs.take (j + 1) = xs.take j ++ [xs[j]] := by rw [List.take_add_one, ht]; rfl
      have hl : (xs.take j).length = j := by simp; omega
      have hv := List.all_eq_true.1 HA.out _ (List.mem_of_getElem? ht)
      rw [hd] at hm
      have HX := Lib.hid hx
      clear hd ht hx
      generalize xs[j] = t at hm HX hv
      obtain ⟨s, b⟩ := t
      obtain ⟨B, q, rfl, hlo, hh, hr⟩ := hm
      have c0 : wr.cell? ⟨B, 0, none⟩ = some (.int .i64 s) := by simp [World.cell?, hh]
      have c1 : wr.cell? ⟨B, 1, none⟩ = some (.bool b) := by simp [World.cell?, hh]
      have hBlt : B < wr.heap.size := by
        rcases Nat.lt_or_ge B wr.heap.size with h | h
        · exact h
        · rw [Array.getElem?_eq_none h] at hh; cases hh
      have HB := Lib.hid hh
      have HR := Lib.hid hr
      have HJ := Lib.hid hj
      have hv' : vd s b = true := hv
      have HV := Lib.hid hv'
      rw [hl] at hown
      have HO := Lib.hid hown
      clear hh hr hj hl h0 hown hv hv'
      go_wp2_with (fail)
      (go_at_call 44; refine (text_any s b HV.out _).mono ?_; rintro e w1 ⟨rfl, hb1⟩)
      have hown := tbelow HO.out hb1
      have hbw := bl_step hb hb1
      have HB1 := Lib.hid ((hb1.block B hBlt).trans HB.out)
      have HR1 := Lib.hid (HR.out.below hb1)
      clear hb c0 c1
      go_wp2_with (at_builtin; refine wpList_append_own _ rfl _ _ 71 rfl w.heap.size 9 i0 (.string ⟨#[]⟩) 1 16 Tryd.underlying71 hi hq0 hq1 hq2 rfl (by decide) _ _ _ rfl (hown.alloc _) ⟨w1.heap.size, 0, none⟩ 1 1 [.string ⟨#[tb0 s b, tb1 s]⟩] rfl rfl snews snews_one (by unfold maxLen; omega) (by omega) (by have := hbw.size; simp; omega) ?_)
      intro v' w2 hown' hgrow _
      have hh2 := app_blk (by decide) HB1.out hown hgrow
      have d2 : w2.cell? ⟨B, 2, none⟩ = some (.pointer q) := by simp [World.cell?, hh2]
      have HI : Hid (TxInv w w2 v' (.pointer q) (xs.take (j + 1)) (xs.drop (j + 1))) := by
        refine ⟨q, rfl, ?_, ⟨lo', HR1.out.app (by decide) hown hgrow⟩, (hbw.alloc hbw.size _).grown hgrow (by have := hbw.size; simp; omega) (fun k hk => (hown.lt k hk).1)⟩
        have e : (xs.take (j + 1)).length = j + 1 := by simp; omega
        rw [e, HX.out, wcs, List.map_append]
        exact hown'
      clear hown' hgrow hown hh2 hbw
      go_wp2
      have hj := HJ.out
      go_roundg (gk - 1)
      case measure => omega
      case rel => exact ⟨j + 1, by omega, HI.out⟩
    · have hj0 : j = xs.length := by omega
      subst hj0
      have hp : p = none := by simpa [Mel] using hm
      subst hp
      rw [List.take_length] at hown
      clear hm h0
      rcases hown.2 with ⟨rfl, hz⟩ | ⟨g, cap, cur, rfl, hg, hh, hc, hmx, hsz, htk⟩
      · have hxe : xs = [] := List.eq_nil_of_length_eq_zero hz
        subst hxe
        have KJ : ∀ W : World, Calls Tryd.prog 34 #[.slice none 0 0, .string ⟨#[32]⟩] W fun e w' => e = .returned (.string (mts [])) ∧ W = w' := fun W => (Tryd.strings_Join_none _ _ _ W).mono fun e w' ⟨h1, h2⟩ => ⟨h1, h2.symm⟩
        have HK := Lib.hid KJ
        clear KJ hown
        go_wp2_with (fail)
        (go_at_call 34; refine (HK.out _).mono ?_; rintro e wx ⟨rfl, rfl⟩)
        go_wp2
        go_ret
        exact ⟨rfl, hb⟩
      · have hcl : ∀ (k : Nat) x, (xs.map fun t => (⟨#[tb0 t.1 t.2, tb1 t.1]⟩ : ByteArray))[k]? = some x → wr.cell? ⟨g, 0 + k, none⟩ = some (.string x) := fun k x hx => by
          have h1 : (wcs xs)[k]? = some (.string x) := by
            rw [List.getElem?_map] at hx
            obtain ⟨t, ht, rfl⟩ := Option.map_eq_some_iff.1 hx
            rw [wcs, List.getElem?_map, ht]; rfl
          have h2 := hown.cells (g := g) rfl k _ h1
          rw [Go.WideShapes.add_plain] at h2
          exact h2
        have hgs : g < wr.heap.size := (hown.lt g rfl).2
        have KJ := Tryd.strings_Join g 0 cap (xs.map fun t => (⟨#[tb0 t.1 t.2, tb1 t.1]⟩ : ByteArray)) ⟨#[32]⟩ wr hcl hgs (by simp; omega) (by simpa using hc) (by
          have := mtx_len xs
          show (Lib.join _ [32]).length ≤ _
          rw [join_mtx]; omega)
        rw [List.length_map] at KJ
        have HK : Hid (Calls Tryd.prog 34 #[.slice (some ⟨g, 0, none⟩) xs.length cap, .string ⟨#[32]⟩] wr fun e w' => e = .returned (.string (mts xs)) ∧ Below wr.heap.size wr w') := KJ.mono fun e w' ⟨h1, h2⟩ => ⟨h1.trans (by
          show Ending.returned (.string ⟨(Lib.join _ [32]).toArray⟩) = _
          rw [join_mtx]; rfl), h2⟩
        clear KJ hcl hown hh hsz htk hc hmx hgs
        go_wp2_with (fail)
        (go_at_call 34; refine (HK.out).mono ?_; rintro e w1 ⟨rfl, hb1⟩)
        go_wp2
        go_ret
        exact ⟨rfl, bl_step hb hb1⟩
end Go.Proofs.YthnofdkkocpjhaaDoor
