/-
  A melody out of its text, in the model.
-/
import Derived.Test.YtjodcaeohkjlnaaDoorL2c
import Derived.Test.YtjodcaeohkjlnaaDoorMelB
import Derived.Test.YtjodcaeohkjlnaaDoorTfr
import Derived.IntWalk
namespace Go.Proofs.YtjodcaeohkjlnaaDoor
open Go.RowKit
set_option maxRecDepth 100000
set_option linter.unusedVariables false

/-- a list of words, as the block that it lies in -/
theorem JRow.blk {w : World} {base : Nat} {v : Value} {ws : List ByteArray} (h : JRow w base v ws) (hn : 0 < ws.length) : ∃ (g cap : Nat) (cur : Array Value), v = .slice (some ⟨g, 0, none⟩) ws.length cap ∧ base ≤ g ∧ g < w.heap.size ∧ ws.length ≤ cap ∧ cap ≤ maxLen ∧ w.heap[g]? = some (.cells cur 9) ∧ ∀ (i : Nat) (x : ByteArray), ws[i]? = some x → cur[i]? = some (Value.string x) := by
  rcases id h with ⟨_, ⟨rfl, hz⟩ | ⟨g, cap, cur, rfl, hg, hh, hc, hmx, hsz, htk⟩⟩
  · omega
  · refine ⟨g, cap, cur, rfl, hg, (World.ownsRow.lt h g rfl).2, hc, hmx, hh, fun i x hx => ?_⟩
    have h1 : (ws.map Value.string)[i]? = some (.string x) := by rw [List.getElem?_map, hx]; rfl
    have hi : i < ws.length := (List.getElem?_eq_some_iff.1 hx).1
    rw [← htk, List.getElem?_take_of_lt (by omega), Array.getElem?_toList] at h1
    exact h1

theorem own_ne {wr : World} {base n g : Nat} {o : Value} {xs : List Value} {cur : Array Value} (ho : wr.ownsRow base 24 2 o n xs) (hg : wr.heap[g]? = some (.cells cur 9)) : some g ≠ o.ownBlock := by
  rcases id ho with ⟨_, ⟨rfl, hz⟩ | ⟨g', cap, cur', rfl, hg', hh, _⟩⟩
  · intro e; cases e
  · intro e
    have e2 : g = g' := by simpa [Value.ownBlock] using e
    subst e2
    rw [hg] at hh
    injection hh with hh
    injection hh with _ h2
    exact absurd h2 (by decide)

theorem blk_cell {w : World} {g i : Nat} {cur : Array Value} {t : TypeId} {v : Value} (h : w.heap[g]? = some (.cells cur t)) (hi : cur[i]? = some v) : w.cell? ⟨g, i, none⟩ = some v := by
  simp [World.cell?, h, hi]

theorem tb2_nil {w w2 : World} {xs : List (Int × Bool)} {ok : Bool} {n : Nat} (hx : xs = []) (hb : Below w.heap.size w w2) (hn : w2.heap.size = n) : TBuilt2 w xs ok (.returned (.tuple #[.slice (some ⟨n, 0, none⟩) 0 0, .bool ok])) (w2.alloc (.cells #[] 24)) := by
  subst hx hn
  refine ⟨_, rfl, ⟨⟨rfl, .inr ⟨w2.heap.size, 0, #[], rfl, hb.size, heap_alloc_new w2 _, by simp, by simp [maxLen], by simp, by simp [tcs]⟩⟩, fun g hg => ?_⟩, hb.alloc hb.size _⟩
  have : w2.heap.size = g := by simpa [Value.ownBlock] using hg
  subst this
  simp

theorem tb2_yes {w w2 : World} {xs : List (Int × Bool)} {ok : Bool} {o : Value} (ho : w2.ownsRow w.heap.size 24 2 o xs.length (tcs xs)) (hb : Below w.heap.size w w2) : TBuilt2 w xs ok (.returned (.tuple #[o, .bool ok])) w2 :=
  ⟨o, rfl, ⟨ho, fun g hg => (ho.lt g hg).2⟩, hb⟩

theorem wts_len (ws : List ByteArray) : (wts ws).length = ws.length := by simp [wts]

set_option maxRecDepth 100000 in
set_option maxHeartbeats 4000000 in
theorem sMelodyFrom_any (s : ByteArray) (hs : s.size ≤ 1048576) (w : World) : Calls Tryd.prog 59 #[.string s] w (TBuilt2 w (mfL s) (mfB s)) := by
  obtain ⟨i0, hi, hq0, hq1, hq2⟩ := info_parts infoTone
  have hown0 : (w.alloc (.cells #[] 24)).ownsRow w.heap.size 24 2 (.slice (some ⟨w.heap.size, 0, none⟩) 0 0) 0 [] := ⟨rfl, .inr ⟨w.heap.size, 0, #[], rfl, Nat.le_refl _, heap_alloc_new w _, by simp, by simp [maxLen], by simp, by simp⟩⟩
  by_cases he : s.data.toList = []
  · have HE : Hid (TBuilt2 w (mfL s) (mfB s) (.returned (.tuple #[.slice (some ⟨w.heap.size, 0, none⟩) 0 0, .bool true])) (w.alloc (.cells #[] 24))) := by
      show TBuilt2 _ _ _ _ _
      rw [(mf_nil he).1]
      exact tb2_nil (mf_nil he).2 (Below.refl _ _) rfl
    have e1 : s.toList = [] := by rw [ByteArray.toList_eq]; exact he
    clear hown0
    go_enter Tryd.func59, Tryd.ntmps59
    go_wp2
    go_ret2
    exact HE.out
  have e1 : (s.toList == []) = false := by rw [ByteArray.toList_eq]; simpa using he
  have e2 : s.toList.isEmpty = false := by rw [ByteArray.toList_eq]; simpa using he
  have e3 : ¬ s.toList = [] := by rw [ByteArray.toList_eq]; exact he
  have HLong : Hid (24 < (wds s).length → mfB s = false ∧ mfL s = []) := mf_long he
  have HBad : Hid (∀ k x, (wds s)[k]? = some x → (tfr x).2.2 = false → mfB s = false ∧ mfL s = []) := fun k x => mf_bad he
  have HYes : Hid ((wds s).length ≤ 24 → wok (wds s) = true → mfB s = true ∧ mfL s = wts (wds s)) := mf_yes he
  have hpos : 0 < (wds s).length := List.length_pos_iff.2 (wds_ne s)
  go_enter Tryd.func59, Tryd.ntmps59
  go_wp2_with (fail)
  (go_at_call 120; refine (l2Cut_any s hs _).mono ?_; rintro e w1 ⟨v, rfl, hr1, hb1⟩)
  obtain ⟨g, cap, cur, rfl, hg0, hg1, hcap, hmax, hblk, hcur⟩ := JRow.blk (ws := wds s) hr1 hpos
  have HO1 := Lib.hid (tbelow hown0 hb1)
  have HB1 : Hid (Below w.heap.size w w1) := bl_step ((Below.refl _ _).alloc (Nat.le_refl _) _) hb1
  have HCur := Lib.hid hcur
  obtain ⟨L, hL⟩ : ∃ L, (wds s).length = L := ⟨_, rfl⟩
  have HL := Lib.hid hL
  rw [hL] at hpos hcap ⊢
  unfold maxLen at hmax
  clear hown0 hb1 hcur hr1 hL he e1 e2 e3
  generalize wds s = ws at HL HCur HLong HBad HYes
  go_wp2
  go_loopw [4, 6] (fun o i wr => ∃ k : Nat, k ≤ L ∧ k ≤ 24 ∧ i = .int .i64 k ∧ wok (ws.take k) = true ∧ wr.ownsRow w.heap.size 24 2 o k (tcs (wts (ws.take k))) ∧ Below w.heap.size w wr ∧ wr.heap[g]? = some (.cells cur 9)) (fun _ i _ => L - (intOf i).toNat)
  case atStart => exact ⟨0, Nat.zero_le _, by omega, rfl, rfl, HO1.out, HB1.out, hblk⟩
  case round =>
    obtain ⟨k, hk, hk24, rfl, hok, hown, hb, hbl⟩ := hrel
    by_cases hlt : k < L
    · have hkw : k < ws.length := by rw [HL.out]; exact hlt
      have hx : ws[k]? = some ws[k] := List.getElem?_eq_getElem hkw
      have ec := blk_cell hbl (HCur.out k _ hx)
      have k0 : (0 : Int) ≤ (k : Int) := by omega
      have k1 : (k : Int) < (L : Int) := by omega
      have HBd := Lib.hid (HBad.out k _ hx)
      have HWS : Hid (∀ (ho : (tfr ws[k]).2.2 = true), wok (ws.take (k + 1)) = true) := fun ho => wok_snoc hok hx ho
      have HWT := Lib.hid (wts_snoc hx)
      have KF := fun W => sToneFrom_any ws[k] W
      have HOwn := Lib.hid hown
      have HB := Lib.hid hb
      have HBl := Lib.hid hbl
      clear hx hblk hown hb hbl hok
      generalize ws[k] = x at ec HBd HWS HWT KF
      generalize (tfr x).1 = ts at KF HWT
      generalize (tfr x).2.1 = tb at KF HWT
      generalize (tfr x).2.2 = tk at KF HBd HWS
      have HK := Lib.hid KF
      clear KF
      go_wp2_with (fail)
      (go_at_call 27; refine (HK.out _).mono ?_; rintro e w2 ⟨rfl, hb2⟩)
      have HB2 := Lib.hid (bl_step HB.out hb2)
      have HOwn2 := Lib.hid (tbelow HOwn.out hb2)
      have HBl2 : Hid (w2.heap[g]? = some (.cells cur 9)) := (hb2.block g (by
        rcases Nat.lt_or_ge g wr.heap.size with h | h
        · exact h
        · have := HBl.out; rw [Array.getElem?_eq_none h] at this; cases this)).trans HBl.out
      clear hb2
      cases tk
      · have HF : Hid (∀ (W : World) (n : Nat), Below w.heap.size w W → W.heap.size = n → TBuilt2 w (mfL s) (mfB s) (.returned (.tuple #[.slice (some ⟨n, 0, none⟩) 0 0, .bool false])) (W.alloc (.cells #[] 24))) := fun W n hW hn => by
          rw [(HBd.out rfl).1]
          exact tb2_nil (HBd.out rfl).2 hW hn
        go_wp2
        go_ret2
        exact HF.out _ _ (HB2.out.alloc HB2.out.size _) (by simp)
      · by_cases h24 : k = 24
        · have HF : Hid (∀ (W : World) (n : Nat), Below w.heap.size w W → W.heap.size = n → TBuilt2 w (mfL s) (mfB s) (.returned (.tuple #[.slice (some ⟨n, 0, none⟩) 0 0, .bool false])) (W.alloc (.cells #[] 24))) := fun W n hW hn => by
            have h := HLong.out (by rw [HL.out]; omega)
            rw [h.1]
            exact tb2_nil h.2 hW hn
          have g24 : (24 : Int) ≤ (k : Int) := by omega
          go_wp2
          go_ret2
          exact HF.out _ _ (HB2.out.alloc HB2.out.size _) (by simp)
        · have g24 : decide ((24 : Int) ≤ (k : Int)) = false := by simp; omega
          have HWK := Lib.hid (HWS.out rfl)
          have hbs := HB2.out.size
          have HO3 := HOwn2.out.alloc (.cells #[.int .i64 ts, .bool tb] 24)
          go_wp2_with (at_builtin; refine wpList_append_own _ rfl _ _ 44 rfl w.heap.size 24 i0 (.agg #[.int .i64 0, .bool false]) 2 16 Tryd.underlying44 hi hq0 hq1 hq2 rfl (by decide) _ _ _ rfl (HO3.alloc _) ⟨w2.heap.size + 1, 0, none⟩ 1 1 [.int .i64 ts, .bool tb] rfl rfl (by first | exact news2 | (have := @news2 (w2.alloc (.cells #[.int .i64 ts, .bool tb] 24)) ts tb 24; simpa using this)) news2_one (by unfold maxLen; omega) (by omega) (by simp; omega) ?_)
          intro v' w3 hown' hgrow _
          have HO4 : Hid (w3.ownsRow w.heap.size 24 2 v' (k + 1) (tcs (wts (ws.take (k + 1))))) := by
            show World.ownsRow _ _ _ _ _ _ _
            rw [HWT.out, tcs_app]
            exact hown'
          have HB3 : Hid (Below w.heap.size w w3) := ((HB2.out.alloc hbs _).alloc (by simp; omega) _).grown hgrow (by simp; omega) (fun q hq => (HOwn2.out.lt q hq).1)
          have hg2 : g < w2.heap.size := by
            rcases Nat.lt_or_ge g w2.heap.size with h | h
            · exact h
            · have := HBl2.out; rw [Array.getElem?_eq_none h] at this; cases this
          have HBl3 : Hid (w3.heap[g]? = some (.cells cur 9)) := (hgrow.block g (by simp; omega) (own_ne HOwn2.out HBl2.out)).trans ((Below.heap_alloc _ _ _ (by simp; omega)).trans ((Below.heap_alloc _ _ _ hg2).trans HBl2.out))
          clear hown' hgrow HO3
          go_wp2
          go_roundw
          case rel => exact ⟨k + 1, by omega, by omega, by go_num, HWK.out, HO4.out, HB3.out, HBl3.out⟩
          case measure => simp [intOf]; omega
    · have hke : k = L := by omega
      have hw : ws.take k = ws := List.take_of_length_le (by rw [HL.out]; omega)
      rw [hw] at hok hown
      have HH := Lib.hid (HYes.out (by rw [HL.out]; omega) hok)
      have hlen : k = (wts ws).length := by rw [wts_len, HL.out]; omega
      have k1 : ¬ (k : Int) < (L : Int) := by omega
      have hown2 := hown
      rw [hlen] at hown2
      have HF := Lib.hid (tb2_yes (ok := true) hown2 hb)
      clear hown hbl hblk hok hown2 hlen
      go_wp2
      go_ret2
      rw [HH.out.1, HH.out.2]
      exact HF.out
end Go.Proofs.YtjodcaeohkjlnaaDoor
