/-
  A melody backwards, in both programs.
-/
import Derived.Test.YtgehfianpahgcaaDoorMelT
import Derived.Test.YtgehfianpahgcaaDoorMelV
namespace Go.Proofs.YtgehfianpahgcaaDoor
open Go.RowKit
set_option maxRecDepth 100000
set_option linter.unusedVariables false

def MBuilt (w : World) (xs : List (Int × Bool)) (e : Ending) (w' : World) : Prop :=
  ∃ p, e = .returned (.pointer p) ∧ Mel w' w.heap.size p xs ∧ Below w.heap.size w w'
def BkInv (w wr : World) (m o : Value) (xs ys : List (Int × Bool)) : Prop :=
  ∃ p q, m = .pointer p ∧ o = .pointer q ∧ (∃ lo, Mel wr lo p ys) ∧ Mel wr w.heap.size q xs ∧ Below w.heap.size w wr

set_option maxHeartbeats 2000000 in
theorem back_any (p : Option Addr) (lo : Nat) (xs : List (Int × Bool)) (w : World) (h : Mel w lo p xs) :
    Calls Tryd.prog 97 #[.pointer p] w (MBuilt w xs.reverse) := by
  go_enter Tryd.func97, Tryd.ntmps97
  go_wp2
  go_loopg [0, 3] xs.length (fun k m o wr => ∃ j, j + k = xs.length ∧ BkInv w wr m o (xs.take j).reverse (xs.drop j))
  case atStart => exact ⟨0, by omega, p, none, rfl, rfl, ⟨lo, by simpa using h⟩, by simp [Mel], Below.refl _ _⟩
  case round =>
    obtain ⟨j, hj, p, q, rfl, rfl, ⟨lo', hm⟩, hq, hb⟩ := hrel
    by_cases hlt : j < xs.length
    · have hd : xs.drop j = xs[j] :: xs.drop (j + 1) := List.drop_eq_getElem_cons hlt
      have ht : xs[j]? = some xs[j] := List.getElem?_eq_getElem hlt
      have hx : (xs.take (j + 1)).reverse = xs[j] :: (xs.take j).reverse := by rw [List.take_add_one, ht]; simp
      rw [hd] at hm
      have HX := Lib.hid hx
      clear hd ht hx
      generalize xs[j] = t at hm HX
      obtain ⟨s, b⟩ := t
      obtain ⟨B, r, rfl, hlo, hB, c0, c1, c2, hr⟩ := hm.head
      have HR := Lib.hid (hr.below ((Below.refl _ _).alloc (Nat.le_refl _) (.cells #[.int .i64 s, .bool b, .pointer q] 110)))
      have HQ := Lib.hid (hq.cons_ (t := (s, b)) hb.size)
      have HB := Lib.hid (hb.alloc hb.size (.cells #[.int .i64 s, .bool b, .pointer q] 110))
      have HJ := Lib.hid hj
      clear hr hm hq hj
      go_wp2
      have hj := HJ.out
      go_roundg (gk - 1)
      case measure => omega
      case rel => exact ⟨j + 1, by omega, _, _, rfl, rfl, ⟨_, HR.out⟩, by rw [HX.out]; exact HQ.out, HB.out⟩
    · have hj0 : j = xs.length := by omega
      subst hj0
      have hp : p = none := by simpa [Mel] using hm
      subst hp
      rw [List.take_length] at hq
      have HE : Hid (MBuilt w xs.reverse (.returned (.pointer q)) wr) := ⟨q, rfl, hq, hb⟩
      clear hm hq
      go_wp2
      go_ret
      exact HE.out

/-- a list of tones that a call has built, and whether it succeeds -/
def TBuilt2 (w : World) (xs : List (Int × Bool)) (ok : Bool) (e : Ending) (w' : World) : Prop :=
  ∃ v, e = .returned (.tuple #[v, .bool ok]) ∧ TRow w' w.heap.size w'.heap.size v xs ∧ Below w.heap.size w w'

theorem mvl_back (xs : List (Int × Bool)) : (mvl xs).reverse.length ≤ 24 := by rw [List.length_reverse]; exact mvl_len xs

set_option maxHeartbeats 2000000 in
theorem melodyBack_any (lo hi : Nat) (v : Value) (xs : List (Int × Bool)) (w : World) (h : TRow w lo hi v xs) :
    Calls Tryd.prog 50 #[v] w (TBuilt2 w (mvl xs).reverse (mv xs)) := by
  have hl := mvl_back xs
  go_enter Tryd.func50, Tryd.ntmps50
  go_wp2_with (fail)
  (go_at_call 94; refine (newMelody_any lo hi v xs _ h).mono ?_; rintro e w1 ⟨p, rfl, hm, hb1⟩)
  go_wp2_with (fail)
  (go_at_call 97; refine (back_any _ _ _ _ hm).mono ?_; rintro e w2 ⟨q, rfl, hq, hb2⟩)
  have hbw := bl_step hb1 hb2
  clear hm
  go_wp2_with (fail)
  (go_at_call 98; refine (tones_any _ _ _ _ hq hl).mono ?_; rintro e w3 ⟨u, rfl, hr, hb3⟩)
  have HE : Hid (TBuilt2 w (mvl xs).reverse (mv xs) (.returned (.tuple #[u, .bool (mv xs)])) w3) := ⟨u, rfl, ⟨tmono hr.1 hbw.size, hr.2⟩, bl_step hbw hb3⟩
  clear hq hr
  go_wp2
  go_ret2
  exact HE.out

/-- the model's loop behind all but k tones -/
def SbInv (w wr : World) (xs : List (Int × Bool)) (k : Nat) (o i : Value) : Prop :=
  i = .int .i64 ((k : Int) - 1) ∧ k ≤ xs.length ∧ wr.ownsRow w.heap.size 24 2 o (xs.length - k) (tcs (xs.drop k).reverse) ∧ Below w.heap.size w wr

set_option maxHeartbeats 4000000 in
theorem sMelodyBack_any (lo hi : Nat) (v : Value) (xs : List (Int × Bool)) (w : World) (h : TRow w lo hi v xs) :
    Calls Tryd.prog 51 #[v] w (TBuilt2 w (mvl xs).reverse (mv xs)) := by
  obtain ⟨i0, hi, hq0, hq1, hq2⟩ := info_parts infoTone
  have h1 := h.below (w' := w.alloc (.cells #[] 24)) ((Below.refl _ _).alloc (Nat.le_refl _) _) (.inr (Nat.le_refl _))
  have hown0 : (w.alloc (.cells #[] 24)).ownsRow w.heap.size 24 2 (.slice (some ⟨w.heap.size, 0, none⟩) 0 0) 0 [] := ⟨rfl, .inr ⟨w.heap.size, 0, #[], rfl, Nat.le_refl _, heap_alloc_new w _, by simp, by simp [maxLen], by simp, by simp⟩⟩
  by_cases hv : mv xs = false
  · have HE : ∀ w1, Below (w.alloc (.cells #[] 24)).heap.size (w.alloc (.cells #[] 24)) w1 → TBuilt2 w (mvl xs).reverse (mv xs) (.returned (.tuple #[.slice (some ⟨w.heap.size, 0, none⟩) 0 0, .bool false])) w1 := fun w1 hb => by
      rw [mvl_no hv, hv]
      have := tbelow hown0 hb
      exact ⟨_, rfl, ⟨this, fun g hg => (this.lt g hg).2⟩, bl_step ((Below.refl _ _).alloc (Nat.le_refl _) _) hb⟩
    have HE := Lib.hid HE
    clear hown0 h
    go_enter Tryd.func51, Tryd.ntmps51
    go_wp2_with (fail)
    (go_at_call 96; refine (sMelodyValid_any _ _ _ xs _ h1).mono ?_; rintro e w1 ⟨rfl, hb1⟩)
    have HF := Lib.hid (HE.out w1 hb1)
    clear h1
    go_wp2
    go_ret2
    exact HF.out
  rw [Bool.not_eq_false] at hv
  have hmv : xs.length ≤ 24 := by have := mvl_len xs; rwa [mvl_yes hv] at this
  have HE : ∀ w1 o, w1.ownsRow w.heap.size 24 2 o xs.length (tcs xs.reverse) → Below w.heap.size w w1 → TBuilt2 w (mvl xs).reverse (mv xs) (.returned (.tuple #[o, .bool true])) w1 := fun w1 o ho hb => by
    rw [mvl_yes hv, hv]
    exact ⟨o, rfl, ⟨by rw [List.length_reverse]; exact ho, fun g hg => (ho.lt g hg).2⟩, hb⟩
  have HE := Lib.hid HE
  have HO := Lib.hid hown0
  clear hown0
  rcases h.form with ⟨rfl, rfl⟩ | ⟨g, cap, rfl, hg, hg2, hgs, hcap, hmax, hc⟩
  · clear h
    go_enter Tryd.func51, Tryd.ntmps51
    go_wp2_with (fail)
    (go_at_call 96; refine (sMelodyValid_any _ _ _ [] _ h1).mono ?_; rintro e w1 ⟨rfl, hb1⟩)
    have HF := Lib.hid (HE.out w1 _ (tbelow HO.out hb1) (bl_step ((Below.refl _ _).alloc (Nat.le_refl _) _) hb1))
    clear h1 hv
    go_wp2
    go_rounds 1
    go_ret2
    exact HF.out
  have HC := Lib.hid hc
  clear h hc hmax
  go_enter Tryd.func51, Tryd.ntmps51
  go_wp2_with (fail)
  (go_at_call 96; refine (sMelodyValid_any _ _ _ xs _ h1).mono ?_; rintro e w1 ⟨rfl, hb1⟩)
  have HO1 := Lib.hid (tbelow HO.out hb1)
  have HB1 := Lib.hid (bl_step ((Below.refl _ _).alloc (Nat.le_refl _) _) hb1)
  clear h1 hb1
  go_wp2
  go_loopw [4, 5] (fun o i wr => ∃ k : Nat, SbInv w wr xs k o i) (fun _ i _ => (intOf i + 1).toNat)
  case atStart => exact ⟨xs.length, rfl, Nat.le_refl _, by simpa [tcs] using HO1.out, HB1.out⟩
  case round =>
    obtain ⟨k, rfl, hk, hown, hb⟩ := hrel
    by_cases hk0 : k = 0
    · subst hk0
      have HF := Lib.hid (HE.out wr _ (by simpa using hown) hb)
      clear hown
      go_wp2
      go_ret2
      exact HF.out
    · obtain ⟨j, rfl⟩ : ∃ j, k = j + 1 := ⟨k - 1, by omega⟩
      obtain ⟨t, ht⟩ : ∃ t, xs[j]? = some t := ⟨xs[j], List.getElem?_eq_getElem (by omega)⟩
      rw [show (((j + 1 : Nat) : Int) - 1) = (j : Int) by omega]
      obtain ⟨s, b⟩ := t
      obtain ⟨e1, e2⟩ := HC.out j _ ht
      have e1 := (hb.cell (p := ⟨g, j * 2, none⟩) hgs).trans e1
      have e2 := (hb.cell (p := ⟨g, j * 2 + 1, none⟩) hgs).trans e2
      have hj0 : (0 : Int) ≤ (j : Int) := by omega
      have hj1 : (j : Int) < (xs.length : Int) := by omega
      have hd : (xs.drop j).reverse = (xs.drop (j + 1)).reverse ++ [(s, b)] := by
        have hlt : j < xs.length := by omega
        have hg : xs[j] = (s, b) := by have := List.getElem?_eq_getElem hlt; rw [ht] at this; exact (Option.some.inj this).symm
        rw [List.drop_eq_getElem_cons hlt, List.reverse_cons, hg]
      have hln : xs.length - (j + 1) + 1 = xs.length - j := by omega
      have HD : Hid (∀ (w2 : World) (o' : Value), w2.ownsRow w.heap.size 24 2 o' (xs.length - (j + 1) + 1) (tcs (xs.drop (j + 1)).reverse ++ [.int .i64 s, .bool b]) → w2.ownsRow w.heap.size 24 2 o' (xs.length - j) (tcs (xs.drop j).reverse)) := fun w2 o' ho => by
        rw [hd, tcs_app, ← hln]; exact ho
      clear ht hd hln
      go_wp2_with (at_builtin; refine wpList_append_own _ rfl _ _ 52 rfl w.heap.size 24 i0 (.agg #[.int .i64 0, .bool false]) 2 16 Tryd.underlying52 hi hq0 hq1 hq2 rfl (by decide) _ _ _ rfl (hown.alloc _) ⟨wr.heap.size, 0, none⟩ 1 1 [.int .i64 s, .bool b] rfl rfl news2 news2_one (by unfold maxLen; omega) (by omega) (by have := hb.size; simp; omega) ?_)
      intro v' w2 hown' hgrow _
      have HF := Lib.hid (HD.out w2 v' hown')
      have HB2 := Lib.hid ((hb.alloc hb.size (.cells #[.int .i64 s, .bool b] 24)).grown hgrow (by have := hb.size; simp; omega) (fun k hk => (hown.lt k hk).1))
      clear hown' hgrow hown hb
      go_wp2
      go_roundw
      case rel => exact ⟨j, by go_num, by omega, HF.out, HB2.out⟩
      case measure => simp [intOf]
end Go.Proofs.YtgehfianpahgcaaDoor
