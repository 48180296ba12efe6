/-
  What a text tells, in the model: all tones are tried.
-/
import Derived.Test.YtjodcaeohkjlnaaDoorTxt
import Derived.Test.YtjodcaeohkjlnaaDoorMelT
import Derived.Laws.Strings
namespace Go.Proofs.YtjodcaeohkjlnaaDoor
open Go.RowKit
set_option maxRecDepth 100000
set_option linter.unusedVariables false

def AaInv (w wr : World) (v : Value) (k : Nat) : Prop :=
  wr.ownsRow w.heap.size 24 2 v (allTo k).length (tcs (allTo k)) ∧ Below w.heap.size w wr
theorem AaInv.app {w wr w2 : World} {v v' : Value} {xs : List (Int × Bool)} {t : Int × Bool} {o : Obj} (h : wr.ownsRow w.heap.size 24 2 v xs.length (tcs xs)) (hb : Below w.heap.size w wr)
    (hown : w2.ownsRow w.heap.size 24 2 v' (xs.length + 1) (tcs xs ++ [.int .i64 t.1, .bool t.2])) (hg : (wr.alloc o).grownBy w2 v.ownBlock) :
    w2.ownsRow w.heap.size 24 2 v' (xs ++ [t]).length (tcs (xs ++ [t])) ∧ Below w.heap.size w w2 := by
  refine ⟨?_, (hb.alloc hb.size o).grown hg (by have := hb.size; simp; omega) (fun k hk => (h.lt k hk).1)⟩
  rw [tcs_app]
  simpa [tcs] using hown

set_option maxHeartbeats 4000000 in
theorem l1All_any (w : World) : Calls Tryd.prog 87 #[] w (TBuilt w allT) := by
  obtain ⟨i0, hi, hq0, hq1, hq2⟩ := info_parts infoTone
  have h0 : AaInv w (w.alloc (.cells #[] 24)) (.slice (some ⟨w.heap.size, 0, none⟩) 0 0) 0 :=
    ⟨⟨rfl, .inr ⟨w.heap.size, 0, #[], rfl, Nat.le_refl _, heap_alloc_new w _, by simp [allTo], by simp [maxLen], by simp, by simp [tcs, allTo]⟩⟩, (Below.refl _ _).alloc (Nat.le_refl _) _⟩
  go_enter Tryd.func87, Tryd.ntmps87
  go_wp2
  go_loopw [1, 2] (fun v i wr => ∃ k : Nat, k ≤ 21 ∧ i = .int .i64 k ∧ AaInv w wr v k) (fun _ i _ => 21 - (intOf i).toNat)
  case atStart => exact ⟨0, Nat.zero_le _, rfl, h0⟩
  case round =>
    obtain ⟨k, hk, rfl, hown, hb⟩ := hrel
    have hln := allTo_len k
    by_cases hlt : k < 21
    · have hk0 : (0 : Int) ≤ (k : Int) := by omega
      have hk1 : (k : Int) ≤ 20 := by omega
      by_cases h7 : k % 7 = 2
      · have HX : Hid (allTo (k + 1) = allTo k ++ [((k : Int), true)] ++ [((k : Int), false)]) := by show allTo k ++ stepT k = _; rw [stepT, if_pos h7]; simp
        have e7 : ((k : Int) % 7 == 2) = true := by simp; omega
        clear h7 h0
        generalize allTo k = xs at hown hln HX
        go_wp2_with (fail)
        (go_at_call 127; refine (l1Letter_any _ hk0 _).mono ?_; rintro e wx ⟨rfl, rfl⟩)
        go_wp2_with (at_builtin; refine wpList_append_own _ rfl (.tmp 11) (.tmp 14) 44 rfl w.heap.size 24 i0 (.agg #[.int .i64 0, .bool false]) 2 16 Tryd.underlying44 hi hq0 hq1 hq2 rfl (by decide) _ _ _ rfl (hown.alloc _) ⟨wr.heap.size, 0, none⟩ 1 1 [.int .i64 (k : Int), .bool true] rfl rfl news2 news2_one (by unfold maxLen; omega) (by omega) (by have := hb.size; simp; omega) ?_)
        intro v' w2 hown' hgrow _
        obtain ⟨hown2, hb2⟩ := AaInv.app (t := ((k : Int), true)) hown hb hown' hgrow
        have hl2 : (xs ++ [((k : Int), true)]).length ≤ 50 := by simp; omega
        clear hown hb hown' hgrow
        generalize xs ++ [((k : Int), true)] = ys at hown2 hl2 HX
        go_wp2_with (at_builtin; refine wpList_append_own _ rfl (.tmp 16) (.tmp 19) 44 rfl w.heap.size 24 i0 (.agg #[.int .i64 0, .bool false]) 2 16 Tryd.underlying44 hi hq0 hq1 hq2 rfl (by decide) _ _ _ rfl (hown2.alloc _) ⟨w2.heap.size, 0, none⟩ 1 1 [.int .i64 (k : Int), .bool false] rfl rfl news2 news2_one (by unfold maxLen; omega) (by omega) (by have := hb2.size; simp; omega) ?_)
        intro v'' w3 hown3 hgrow3 _
        have HI := Lib.hid (AaInv.app (t := ((k : Int), false)) hown2 hb2 hown3 hgrow3)
        clear hown2 hb2 hown3 hgrow3
        go_wp2
        go_roundw
        case rel => exact ⟨k + 1, by omega, by go_num, by unfold AaInv; rw [HX.out]; exact HI.out⟩
        case measure => simp [intOf]; omega
      · have HX : Hid (allTo (k + 1) = allTo k ++ [((k : Int), false)]) := by show allTo k ++ stepT k = _; rw [stepT, if_neg h7]
        have e7 : ((k : Int) % 7 == 2) = false := by simp; omega
        clear h7 h0
        generalize allTo k = xs at hown hln HX
        go_wp2_with (fail)
        (go_at_call 127; refine (l1Letter_any _ hk0 _).mono ?_; rintro e wx ⟨rfl, rfl⟩)
        go_wp2_with (at_builtin; refine wpList_append_own _ rfl (.tmp 16) (.tmp 19) 44 rfl w.heap.size 24 i0 (.agg #[.int .i64 0, .bool false]) 2 16 Tryd.underlying44 hi hq0 hq1 hq2 rfl (by decide) _ _ _ rfl (hown.alloc _) ⟨wr.heap.size, 0, none⟩ 1 1 [.int .i64 (k : Int), .bool false] rfl rfl news2 news2_one (by unfold maxLen; omega) (by omega) (by have := hb.size; simp; omega) ?_)
        intro v' w2 hown' hgrow _
        have HI := Lib.hid (AaInv.app (t := ((k : Int), false)) hown hb hown' hgrow)
        clear hown hb hown' hgrow
        go_wp2
        go_roundw
        case rel => exact ⟨k + 1, by omega, by go_num, by unfold AaInv; rw [HX.out]; exact HI.out⟩
        case measure => simp [intOf]; omega
    · have hk6 : k = 21 := by omega
      subst hk6
      have HE : Hid (TBuilt w allT (.returned _) wr) := ⟨_, rfl, ⟨hown, fun g hg => (hown.lt g hg).2⟩, hb⟩
      clear hown hln h0
      go_wp2
      go_ret
      exact HE.out

/-- no tone below k has the text -/
def NoTx (l : ByteArray) (k : Nat) : Prop := ∀ j t, j < k → allT[j]? = some t → (ttx t.1 t.2).data.toList ≠ l.data.toList
theorem NoTx.next {l : ByteArray} {k : Nat} {t : Int × Bool} (h : NoTx l k) (ht : allT[k]? = some t) (hn : (ttx t.1 t.2).data.toList ≠ l.data.toList) : NoTx l (k + 1) := by
  intro j u hj hu
  by_cases e : j = k
  · subst e; rw [ht] at hu; injection hu with hu; subst hu; exact hn
  · exact h j u (by omega) hu
theorem NoTx.all {l : ByteArray} (h : NoTx l allT.length) : tfr l = (0, false, false) := tfr_miss fun t ht => by
  obtain ⟨j, hj, rfl⟩ := List.getElem_of_mem ht
  exact h j _ hj (List.getElem?_eq_getElem hj)

set_option maxHeartbeats 4000000 in
theorem sToneFrom_any (l : ByteArray) (w : World) :
    Calls Tryd.prog 27 #[.string l] w fun e w' => e = .returned (.tuple #[.agg #[.int .i64 (tfr l).1, .bool (tfr l).2.1], .bool (tfr l).2.2]) ∧ Below w.heap.size w w' := by
  go_enter Tryd.func27, Tryd.ntmps27
  go_wp2_with (fail)
  (go_at_call 87; refine (l1All_any _).mono ?_; rintro e w1 ⟨v, rfl, hr, hb1⟩)
  rcases hr.form with ⟨_, hz⟩ | ⟨g, cap, rfl, hg, hg2, hgs, hcap, hmax, hc⟩
  · exact absurd (congrArg List.length hz) (by decide)
  have HC := Lib.hid hc
  have hal : allT.length ≤ 42 := allTo_len 21
  clear hc hr hmax
  go_wp2
  go_loopw [5] (fun i wr => ∃ k : Nat, k ≤ allT.length ∧ i = .int .i64 k ∧ NoTx l k ∧ Below w1.heap.size w1 wr) (fun i _ => allT.length - (intOf i).toNat)
  case atStart => exact ⟨0, Nat.zero_le _, rfl, fun j t hj => by omega, Below.refl _ _⟩
  case round =>
    obtain ⟨k, hk, rfl, hno, hb⟩ := hrel
    have z0 : w.heap.size < w1.heap.size := by have := hb1.size; simp at this; omega
    have d0 : wr.cell? ⟨w.heap.size, 0, none⟩ = some (.int .i64 0) := (hb.cell (p := ⟨w.heap.size, 0, none⟩) z0).trans ((hb1.cell (p := ⟨w.heap.size, 0, none⟩) (by simp)).trans (by go_simp))
    have d1 : wr.cell? ⟨w.heap.size, 1, none⟩ = some (.bool false) := (hb.cell (p := ⟨w.heap.size, 1, none⟩) z0).trans ((hb1.cell (p := ⟨w.heap.size, 1, none⟩) (by simp)).trans (by go_simp))
    have df : ∀ o, wr.frozen? ⟨w.heap.size, o, none⟩ = false := fun o => (hb.frozen (p := ⟨w.heap.size, o, none⟩) z0).trans ((hb1.frozen (p := ⟨w.heap.size, o, none⟩) (by simp)).trans (by go_simp))
    by_cases hlt : k < allT.length
    · have ht : allT[k]? = some allT[k] := List.getElem?_eq_getElem hlt
      obtain ⟨e1, e2⟩ := HC.out k _ ht
      have e1 := (hb.cell (p := ⟨g, k * 2, none⟩) hgs).trans e1
      have e2 := (hb.cell (p := ⟨g, k * 2 + 1, none⟩) hgs).trans e2
      have hk0 : (0 : Int) ≤ (k : Int) := by omega
      have hk1 : (k : Int) < (allT.length : Int) := by omega
      generalize allT[k] = t at ht e1 e2
      obtain ⟨s, b⟩ := t
      have HT := Lib.hid ht
      have HN := Lib.hid hno
      clear ht hno
      have hz : w1.heap.size ≤ wr.heap.size := hb.size
      by_cases he : (ttx s b).data.toList = l.data.toList
      · have HF := Lib.hid (tfr_hit HT.out he (fun j t hj hu => HN.out j t hj hu))
        have g0 : ((ttx s b).toList == l.toList) = true := by rw [ByteArray.toList_eq, ByteArray.toList_eq]; simpa using he
        clear he
        go_wp2_with (fail)
        (go_at_call 22; refine (sToneText_any s b _).mono ?_; rintro e w2 ⟨rfl, hb2⟩)
        have a1 := (hb2.cell (p := ⟨g, k * 2, none⟩) (Nat.lt_of_lt_of_le hgs hz)).trans e1
        have a2 := (hb2.cell (p := ⟨g, k * 2 + 1, none⟩) (Nat.lt_of_lt_of_le hgs hz)).trans e2
        have b0 := (hb2.cell (p := ⟨w.heap.size, 0, none⟩) (Nat.lt_of_lt_of_le z0 hz)).trans d0
        have b1 := (hb2.cell (p := ⟨w.heap.size, 1, none⟩) (Nat.lt_of_lt_of_le z0 hz)).trans d1
        have bf : ∀ o, w2.frozen? ⟨w.heap.size, o, none⟩ = false := fun o => (hb2.frozen (p := ⟨w.heap.size, o, none⟩) (Nat.lt_of_lt_of_le z0 hz)).trans (df o)
        have hbw : Below w.heap.size w w2 := bl_step (bl_step (bl_step ((Below.refl _ _).alloc (Nat.le_refl _) _) hb1) hb) hb2
        clear d0 d1 df e1 e2
        go_wp2
        refine bodyPost_ret (v := .tuple #[.agg #[.int .i64 s, .bool b], .bool true]) (by simp only [results, Tryd.results27]; go_simp) rfl ⟨by rw [HF.out], ?_⟩
        exact (hbw.setCell (Nat.le_refl _) _).setCell (Nat.le_refl _) _
      · have HX := Lib.hid (HN.out.next HT.out he)
        have g0 : ((ttx s b).toList == l.toList) = false := by rw [ByteArray.toList_eq, ByteArray.toList_eq]; simpa using he
        clear he
        go_wp2_with (fail)
        (go_at_call 22; refine (sToneText_any s b _).mono ?_; rintro e w2 ⟨rfl, hb2⟩)
        clear d0 d1 df e1 e2
        go_wp2
        go_roundw
        case rel => exact ⟨k + 1, by omega, by go_num, HX.out, bl_step hb hb2⟩
        case measure => simp [intOf]; omega
    · have hk0 : k = allT.length := by omega
      subst hk0
      have HF := Lib.hid (NoTx.all hno)
      have hbw : Below w.heap.size w wr := bl_step (bl_step ((Below.refl _ _).alloc (Nat.le_refl _) _) hb1) hb
      clear hno
      go_wp2
      refine bodyPost_ret (v := .tuple #[.agg #[.int .i64 0, .bool false], .bool false]) (by simp only [results, Tryd.results27]; go_simp) rfl ⟨by rw [HF.out], ?_⟩
      exact (hbw.setCell (Nat.le_refl _) _).setCell (Nat.le_refl _) _
end Go.Proofs.YtjodcaeohkjlnaaDoor
