/-
  A melody out of its text, in the program.
-/
import Derived.Test.YtjodcaeohkjlnaaDoorSmf
import Derived.Test.YtjodcaeohkjlnaaDoorTfi
import Derived.Test.YtjodcaeohkjlnaaDoorShelf
import Derived.Lib.Split
namespace Go.Proofs.YtjodcaeohkjlnaaDoor
open Go.RowKit
set_option maxRecDepth 100000
set_option linter.unusedVariables false

theorem cutW_size : ∀ (l : List UInt8) (x : List UInt8), x ∈ cutW l → x.length ≤ l.length
  | [], x, h => by simp [cutW] at h; subst h; simp
  | c :: l, x, h => by
    by_cases hc : c = 32
    · subst hc
      rw [cutW_cons_sp] at h
      rcases List.mem_cons.1 h with rfl | h
      · simp
      · have := cutW_size l x h; simp; omega
    · rw [cutW_cons hc] at h
      cases hh : cutW l with
      | nil => exact absurd hh (cutW_ne l)
      | cons v vs =>
        rw [hh] at h
        have h : x ∈ (c :: v) :: vs := h
        rcases List.mem_cons.1 h with rfl | h
        · have := cutW_size l v (by rw [hh]; exact List.mem_cons_self); simp; omega
        · have := cutW_size l x (by rw [hh]; exact List.mem_cons_of_mem _ h); simp; omega

theorem wds_size {s x : ByteArray} (h : x ∈ wds s) : x.size ≤ s.size := by
  unfold wds at h
  obtain ⟨y, hy, rfl⟩ := List.mem_map.1 h
  have := cutW_size _ _ hy
  simp at this
  show y.toArray.size ≤ _
  simpa using this

theorem wds_split (s : ByteArray) : Lib.splitB ⟨#[32]⟩ 0 (Lib.countB s ⟨#[32]⟩) s = wds s := by
  have h := Lib.splitB_data ⟨#[32]⟩ 0 (Lib.countB s ⟨#[32]⟩) s
  have e : Lib.splitK [32] 0 (Lib.countB s ⟨#[32]⟩) s.data.toList = cutW s.data.toList := split_cut s.data.toList
  have h2 : (Lib.splitB ⟨#[32]⟩ 0 (Lib.countB s ⟨#[32]⟩) s).map (·.data.toList) = cutW s.data.toList := h.trans e
  unfold wds
  rw [← h2, List.map_map]
  conv => lhs; rw [← List.map_id (Lib.splitB _ _ _ _)]
  apply List.map_congr_left
  intro x _
  obtain ⟨⟨d⟩⟩ := x
  rfl

theorem wds_count (s : ByteArray) : Lib.countB s ⟨#[32]⟩ + 1 = (wds s).length := by
  unfold wds
  rw [List.length_map, cutW_len]
  show Lib.count s.data.toList [32] + 1 = _
  rw [Lib.count_one]

theorem own_slice {wr : World} {base n e size : Nat} {o : Value} {xs : List Value} (ho : wr.ownsRow base e size o n xs) : ∃ a c, o = .slice a n c := by
  rcases id ho with ⟨_, ⟨rfl, rfl⟩ | ⟨g', cap, cur', rfl, _⟩⟩
  · exact ⟨none, 0, rfl⟩
  · exact ⟨_, _, rfl⟩

set_option maxRecDepth 100000 in
set_option maxHeartbeats 4000000 in
theorem melodyFrom_any (s : ByteArray) (hs : s.size ≤ 1048576) (m : Int) (w : World) (hm : w.cell? ⟨3, 0, none⟩ = some (.int .i64 m)) : Calls Tryd.prog 56 #[.string s] w (TBuilt2 w (mfL s) (mfB s)) := by
  obtain ⟨i0, hi, hq0, hq1, hq2⟩ := info_parts infoTone
  have hown0 : (w.alloc (.cells #[] 24)).ownsRow w.heap.size 24 2 (.slice (some ⟨w.heap.size, 0, none⟩) 0 0) 0 [] := ⟨rfl, .inr ⟨w.heap.size, 0, #[], rfl, Nat.le_refl _, heap_alloc_new w _, by simp, by simp [maxLen], by simp, by simp⟩⟩
  by_cases he : s.data.toList = []
  · have HE : Hid (TBuilt2 w (mfL s) (mfB s) (.returned (.tuple #[.slice (some ⟨w.heap.size, 0, none⟩) 0 0, .bool true])) (w.alloc (.cells #[] 24))) := by
      show TBuilt2 _ _ _ _ _
      rw [(mf_nil he).1]
      exact tb2_nil (mf_nil he).2 (Below.refl _ _) rfl
    have e1 : s.toList = [] := by rw [ByteArray.toList_eq]; exact he
    clear hown0
    go_enter Tryd.func56, Tryd.ntmps56
    go_wp2
    go_ret2
    exact HE.out
  have e1 : (s.toList == []) = false := by rw [ByteArray.toList_eq]; simpa using he
  have e2 : s.toList.isEmpty = false := by rw [ByteArray.toList_eq]; simpa using he
  have e3 : ¬ s.toList = [] := by rw [ByteArray.toList_eq]; exact he
  have HLong : Hid (24 < (wds s).length → mfB s = false ∧ mfL s = []) := mf_long he
  have HBad : Hid (∀ k x, (wds s)[k]? = some x → (tfr x).2.2 = false → mfB s = false ∧ mfL s = []) := fun k x => mf_bad he
  have HYes : Hid ((wds s).length ≤ 24 → wok (wds s) = true → mfB s = true ∧ mfL s = wts (wds s)) := mf_yes he
  have hpos : 0 < (wds s).length := List.length_pos_iff.2 (wds_ne s)
  have hm0 : (w.alloc (.cells #[] 24)).cell? ⟨3, 0, none⟩ = some (.int .i64 m) := (World.cell?_alloc_lt _ _ _ (World.block_lt_of_cell? w _ hm)).trans hm
  have KS := Tryd.strings_Split s ⟨#[32]⟩ m (w.alloc (.cells #[] 24)) (by omega) hm0 (by decide)
  rw [wds_split, wds_count] at KS
  have HKS := Lib.hid KS
  clear KS hm0
  go_enter Tryd.func56, Tryd.ntmps56
  go_wp2_with (fail)
  (go_at_call 118; refine (HKS.out).mono ?_; rintro e w1 ⟨rfl, hw1⟩)
  obtain ⟨g, hg⟩ : ∃ g, (w.alloc (.cells #[] 24)).heap.size = g := ⟨_, rfl⟩
  obtain ⟨cur, hcu⟩ : ∃ cur, ((wds s).map Value.string).toArray = cur := ⟨_, rfl⟩
  have hblk : w1.heap[g]? = some (.cells cur 9) := by rw [hw1, ← hg, ← hcu]; exact heap_alloc_new _ _
  have hb0 : Below w.heap.size w (w.alloc (.cells #[] 24)) := (Below.refl _ _).alloc (Nat.le_refl _) _
  have HB1 : Hid (Below w.heap.size w w1) := by show Below _ _ _; rw [hw1]; exact hb0.alloc hb0.size _
  have HO1 : Hid (w1.ownsRow w.heap.size 24 2 (.slice (some ⟨w.heap.size, 0, none⟩) 0 0) 0 []) := by show World.ownsRow _ _ _ _ _ _ _; rw [hw1]; exact hown0.alloc _
  have HCur : Hid (∀ (i : Nat) (x : ByteArray), (wds s)[i]? = some x → cur[i]? = some (Value.string x)) := fun i x hx => by
    rw [← hcu, List.getElem?_toArray, List.getElem?_map, hx]; rfl
  have HSz : Hid (∀ x ∈ wds s, x.size ≤ 9223372036854775807) := fun x hx => by have := wds_size hx; omega
  obtain ⟨L, hL⟩ : ∃ L, (wds s).length = L := ⟨_, rfl⟩
  have HL := Lib.hid hL
  rw [hL] at hpos ⊢
  try rw [hg]
  clear hown0 hw1 hcu hb0 hL he e1 e2 e3 hm HKS
  generalize wds s = ws at HL HCur HLong HBad HYes HSz
  go_wp2
  go_loopw [4, 16] (fun o i wr => ∃ k : Nat, k ≤ L ∧ k ≤ 24 ∧ i = .int .i64 k ∧ wok (ws.take k) = true ∧ wr.ownsRow w.heap.size 24 2 o k (tcs (wts (ws.take k))) ∧ Below w.heap.size w wr ∧ wr.heap[g]? = some (.cells cur 9)) (fun _ i _ => L - (intOf i).toNat)
  case atStart => exact ⟨0, Nat.zero_le _, by omega, rfl, rfl, HO1.out, HB1.out, hblk⟩
  case round =>
    obtain ⟨k, hk, hk24, rfl, hok, hown, hb, hbl⟩ := hrel
    by_cases hlt : k < L
    · have hkw : k < ws.length := by rw [HL.out]; exact hlt
      have hx : ws[k]? = some ws[k] := List.getElem?_eq_getElem hkw
      have ec := blk_cell hbl (HCur.out k _ hx)
      have k0 : (0 : Int) ≤ (k : Int) := by omega
      have k1 : (k : Int) < (L : Int) := by omega
      have HBd := Lib.hid (HBad.out k _ hx)
      have HWS : Hid (∀ (ho : (tfr ws[k]).2.2 = true), wok (ws.take (k + 1)) = true) := fun ho => wok_snoc hok hx ho
      have HWT := Lib.hid (wts_snoc hx)
      have KF := fun W => toneFrom_any ws[k] (HSz.out _ (List.mem_of_getElem? hx)) W
      obtain ⟨oa, oc, rfl⟩ := own_slice hown
      have HOwn := Lib.hid hown
      have HB := Lib.hid hb
      have HBl := Lib.hid hbl
      clear hx hblk hown hb hbl hok
      generalize ws[k] = x at ec HBd HWS HWT KF
      generalize (tfr x).1 = ts at KF HWT
      generalize (tfr x).2.1 = tb at KF HWT
      generalize (tfr x).2.2 = tk at KF HBd HWS
      have HK := Lib.hid KF
      clear KF
      go_wp2_with (fail)
      (go_at_call 23; refine (HK.out _).mono ?_; rintro e w2 ⟨rfl, hb2⟩)
      have HB2 := Lib.hid (bl_step HB.out hb2)
      have HOwn2 := Lib.hid (tbelow HOwn.out hb2)
      have HBl2 : Hid (w2.heap[g]? = some (.cells cur 9)) := (hb2.block g (by
        rcases Nat.lt_or_ge g wr.heap.size with h | h
        · exact h
        · have := HBl.out; rw [Array.getElem?_eq_none h] at this; cases this)).trans HBl.out
      clear hb2
      cases tk
      · have HF : Hid (∀ (W : World) (n : Nat), Below w.heap.size w W → W.heap.size = n → TBuilt2 w (mfL s) (mfB s) (.returned (.tuple #[.slice (some ⟨n, 0, none⟩) 0 0, .bool false])) (W.alloc (.cells #[] 24))) := fun W n hW hn => by
          rw [(HBd.out rfl).1]
          exact tb2_nil (HBd.out rfl).2 hW hn
        go_wp2
        go_ret2
        exact HF.out _ _ (HB2.out.alloc HB2.out.size _) (by simp)
      · by_cases h24 : k = 24
        · have HF : Hid (∀ (W : World) (n : Nat), Below w.heap.size w W → W.heap.size = n → TBuilt2 w (mfL s) (mfB s) (.returned (.tuple #[.slice (some ⟨n, 0, none⟩) 0 0, .bool false])) (W.alloc (.cells #[] 24))) := fun W n hW hn => by
            have h := HLong.out (by rw [HL.out]; omega)
            rw [h.1]
            exact tb2_nil h.2 hW hn
          have g24 : ((k : Int) == 24) = true := by simp; omega
          go_wp2
          go_ret2
          exact HF.out _ _ (HB2.out.alloc HB2.out.size _) (by simp)
        · have g24 : ((k : Int) == 24) = false := by simp; omega
          have g24' : ¬ (k : Int) = 24 := by omega
          have HWK := Lib.hid (HWS.out rfl)
          have hbs := HB2.out.size
          have HO3 := HOwn2.out.alloc (.cells #[.int .i64 ts, .bool tb] 24)
          go_wp2_with (at_builtin; refine wpList_append_own _ rfl _ _ 44 rfl w.heap.size 24 i0 (.agg #[.int .i64 0, .bool false]) 2 16 Tryd.underlying44 hi hq0 hq1 hq2 rfl (by decide) _ _ _ rfl (HO3.alloc _) ⟨w2.heap.size + 1, 0, none⟩ 1 1 [.int .i64 ts, .bool tb] rfl rfl (by first | exact news2 | (have := @news2 (w2.alloc (.cells #[.int .i64 ts, .bool tb] 24)) ts tb 24; simpa using this)) news2_one (by unfold maxLen; omega) (by omega) (by simp; omega) ?_)
          intro v' w3 hown' hgrow _
          have HO4 : Hid (w3.ownsRow w.heap.size 24 2 v' (k + 1) (tcs (wts (ws.take (k + 1))))) := by
            show World.ownsRow _ _ _ _ _ _ _
            rw [HWT.out, tcs_app]
            exact hown'
          have HB3 : Hid (Below w.heap.size w w3) := ((HB2.out.alloc hbs _).alloc (by simp; omega) _).grown hgrow (by simp; omega) (fun q hq => (HOwn2.out.lt q hq).1)
          have hg2 : g < w2.heap.size := by
            rcases Nat.lt_or_ge g w2.heap.size with h | h
            · exact h
            · have := HBl2.out; rw [Array.getElem?_eq_none h] at this; cases this
          have HBl3 : Hid (w3.heap[g]? = some (.cells cur 9)) := (hgrow.block g (by simp; omega) (own_ne HOwn2.out HBl2.out)).trans ((Below.heap_alloc _ _ _ (by simp; omega)).trans ((Below.heap_alloc _ _ _ hg2).trans HBl2.out))
          clear hown' hgrow HO3
          go_wp2
          go_roundw
          case rel => exact ⟨k + 1, by omega, by omega, by go_num, HWK.out, HO4.out, HB3.out, HBl3.out⟩
          case measure => simp [intOf]; omega
    · have hke : k = L := by omega
      have hw : ws.take k = ws := List.take_of_length_le (by rw [HL.out]; omega)
      rw [hw] at hok hown
      have HH := Lib.hid (HYes.out (by rw [HL.out]; omega) hok)
      have hlen : k = (wts ws).length := by rw [wts_len, HL.out]; omega
      have k1 : ¬ (k : Int) < (L : Int) := by omega
      have hown2 := hown
      rw [hlen] at hown2
      have HF := Lib.hid (tb2_yes (ok := true) hown2 hb)
      clear hown hbl hblk hok hown2 hlen
      go_wp2
      go_ret2
      rw [HH.out.1, HH.out.2]
      exact HF.out
end Go.Proofs.YtjodcaeohkjlnaaDoor
