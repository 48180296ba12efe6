/-
  ContourLeast in the program: climbs from ahead and from behind.
-/
import Derived.Test.YtjodcaeohkjlnabCd
namespace Go.Proofs.Ytjodcaeohkjlnab
open Go.RowKit
set_option maxRecDepth 100000
set_option linter.unusedVariables false

/-- a row of integers turned round; all other blocks stand -/
def RevI (B n c : Nat) (f : Nat → Int) (W : World) (e : Ending) (w' : World) : Prop :=
  e = .returned (.tuple #[]) ∧ FR w' B n c (fun j => f (n - 1 - j)) ∧ W.heap.size ≤ w'.heap.size ∧ (∀ k, k ≠ B → w'.heap[k]? = W.heap[k]?) ∧ ∀ m (w0 : World), m ≤ B → Below m w0 W → Below m w0 w'
theorem reverse_ints (B n c : Nat) (f : Nat → Int) (W : World) (h : FR W B n c f) (hn : n ≤ 9223372036854775807) :
    Calls Try.prog 70 #[.slice (some ⟨B, 0, none⟩) n c] W (RevI B n c f W) := by
  obtain ⟨zs, hzs⟩ : ∃ zs, zs = (List.range n).map f := ⟨_, rfl⟩
  have hl : zs.length = n := by rw [hzs]; simp
  have hg : ∀ j (hj : j < n), zs.toArray[j]! = f j := fun j hj => by
    rw [getElem!_pos _ _ (by simpa [hl] using hj)]
    simp [hzs]
  have hr : ∀ j (hj : j < n), zs.reverse.toArray[j]! = f (n - 1 - j) := fun j hj => by
    rw [getElem!_pos _ _ (by simpa [hl] using hj)]
    simp [hzs]
  have hH : Go.Sort.Holds (Value.int .i64) W B 0 zs.toArray := fun j hj => by
    have hj' : j < n := by simpa [hl] using hj
    rw [Nat.zero_add, hg j hj']
    exact ⟨h.cell hj', h.free j⟩
  have K : Calls Try.prog 70 #[.slice (some ⟨B, 0, none⟩) zs.length c] W fun e w' => e = .returned (.tuple #[]) ∧ ∃ n, w' = Go.Sort.putRow (Value.int .i64) (Go.Sort.ahead W n) B 0 zs.reverse.toArray := AnyE.slices_Reverse Try.revI (Value.int .i64) (fun _ => rfl) B 0 c zs W hH (by omega)
  rw [hl] at K
  refine K.mono fun e w' ⟨he, q, hw⟩ => ?_
  subst hw
  refine ⟨he, ?_, by show W.heap.size ≤ (W.heap.modify B _).size; rw [Array.size_modify]; exact Nat.le_refl _, fun k hk => ?_, fun m w0 hm hb => below_putRow _ _ hb hm⟩
  · obtain ⟨cur, hh, hs, hc⟩ := h
    have hz : (Go.Sort.putCells (Value.int .i64) 0 zs.reverse.toArray cur).size = cur.size := by simp [Go.Sort.putCells]
    refine ⟨Go.Sort.putCells (Value.int .i64) 0 zs.reverse.toArray cur, ?_, ⟨by rw [hz]; exact hs.1, hs.2⟩, fun p hp => ?_⟩
    · show (W.heap.modify B _)[B]? = _
      rw [Array.getElem?_modify, if_pos rfl, hh]
      rfl
    · have hpc : p < cur.size := by omega
      have hrl : zs.reverse.toArray.size = n := by simp [hl]
      unfold Go.Sort.putCells
      rw [Array.getElem?_mapIdx, hc p hp]
      simp only [Option.map_some]
      rw [if_pos ⟨Nat.zero_le _, by rw [hrl]; omega⟩, Nat.sub_zero, hr p hp]
  · show (W.heap.modify B _)[k]? = _
    rw [Array.getElem?_modify, if_neg (fun e => hk e.symm)]

theorem upl_getD (l : List UInt8) {n j : Nat} (h : j < n) : (upl l n).getD j 0 = ((ups l j : Nat) : Int) := by
  simp [upl, List.getD_eq_getElem?_getD, h]
theorem ctB_list {s : ByteArray} (h : cv s = true) : (ctB s).data.toList = (s.data.toList.map tnb).reverse := by rw [ctB_yes h]
theorem ctB_size' {s : ByteArray} (h : cv s = true) : (ctB s).size = s.size := by
  rw [ctB_yes h]
  show (s.data.toList.map tnb).reverse.toArray.size = s.data.size
  simp
theorem behind_at {s : ByteArray} (h : cv s = true) {p : Nat} (hp : p ≤ s.size) : (upl (ctB s).data.toList (s.size + 1)).getD (s.size - p) 0 = ((dn s.data.toList p : Nat) : Int) := by
  have hl : s.data.toList.length = s.size := by simp
  rw [upl_getD _ (by omega), ctB_list h, ups_back _ _ (by omega), hl, show s.size - (s.size - p) = p by omega]

/-- the loop's state: k steps are what they shall be -/
def LeInv (w wr : World) (l : List UInt8) (g g' n c c' k : Nat) : Prop :=
  FR wr g (n + 1) c (fun p => if p < k then ((lst l p : Nat) : Int) else ((ups l p : Nat) : Int)) ∧ FR wr g' (n + 1) c' (fun p => ((dn l p : Nat) : Int)) ∧ Below w.heap.size w wr
theorem LeInv.next {w wr : World} {l : List UInt8} {g g' n c c' k : Nat} {v : Int} (h : LeInv w wr l g g' n c c' k) (hk : k < n + 1) (hg : g' ≠ g) (hb : w.heap.size ≤ g) (hv : v = ((lst l k : Nat) : Int)) :
    LeInv w (wr.setCell ⟨g, k, none⟩ (.int .i64 v)) l g g' n c c' (k + 1) := by
  obtain ⟨h1, h2, h3⟩ := h
  refine ⟨(h1.set hk v).congr fun p hp => ?_, h2.other hg, h3.setCell (p := ⟨g, k, none⟩) hb _⟩
  by_cases e : p = k
  · subst e; rw [if_pos (by omega), if_pos rfl, hv]
  · rw [if_neg e]
    by_cases e2 : p < k
    · rw [if_pos e2, if_pos (by omega)]
    · rw [if_neg e2, if_neg (by omega)]
theorem LeInv.drewN {w wr : World} {l : List UInt8} {g g' n c c' k : Nat} (h : LeInv w wr l g g' n c c' k) (q : Nat) : LeInv w (wr.drewN q) l g g' n c c' k :=
  ⟨h.1, h.2.1, ⟨h.2.2.os, h.2.2.tape, h.2.2.output, h.2.2.size, h.2.2.block⟩⟩
theorem LeInv.done {w wr : World} {s : ByteArray} {g g' c c' : Nat} (hc : cv s = true) (hb : w.heap.size ≤ g) (hm : c ≤ maxLen) (h : LeInv w wr s.data.toList g g' s.size c c' (s.size + 1)) :
    ClBuilt2 w (cls s) true (.returned (.tuple #[.slice (some ⟨g, 0, none⟩) (s.size + 1) c, .bool true])) wr := by
  refine ⟨_, rfl, h.1.irow hb h.1.lt hm ?_, h.2.2⟩
  rw [cls_yes hc]
  refine List.map_congr_left fun j hj => ?_
  rw [List.mem_range] at hj
  rw [if_pos hj]

set_option maxHeartbeats 8000000 in
theorem contourLeast_any (s : ByteArray) (hs : s.size ≤ 4611686018427387904) (w : World) :
    Calls Try.prog 26 #[.string s] w (ClBuilt2 w (cls s) (cv s)) := by
  by_cases hc : cv s = false
  · have HE := Lib.hid (fun w1 hb => empty_cl2 (w := w) (w1 := w1) (ok := false) hb)
    rw [cls_no hc]
    go_enter Try.func26, Try.ntmps26
    go_wp2_with (fail)
    (go_at_call 21; refine (contourBack_any s hs _).mono ?_; rintro e w1 ⟨rfl, hb1⟩)
    go_wp2
    go_ret2
    have hE := HE.out _ hb1
    rw [← hc] at hE
    first | exact hE | (rw [hc] at hE; exact hE) | (rw [hc]; rw [hc] at hE; exact hE)
  rw [Bool.not_eq_false] at hc
  have hn := (cv_in hc).1
  have HC := Lib.hid hc
  have hbz := ctB_size' hc
  have HBH : Hid (∀ p, p ≤ s.size → (upl (ctB s).data.toList (s.size + 1)).getD (s.size - p) 0 = ((dn s.data.toList p : Nat) : Int)) := fun p hp => behind_at hc hp
  have HD : Hid (∀ g g' c c' (wr : World), w.heap.size ≤ g → c ≤ maxLen → LeInv w wr s.data.toList g g' s.size c c' (s.size + 1) → ClBuilt2 w (cls s) (cv s) (.returned (.tuple #[.slice (some ⟨g, 0, none⟩) (s.size + 1) c, .bool true])) wr) := by
    intro g g' c c' wr h1 h2 h3
    rw [hc]
    exact h3.done hc h1 h2
  have K2 := climbs_any (ctB s)
  rw [hbz] at K2
  have HK2 := Lib.hid (K2 hn)
  have HCB := Lib.hid (contourBack_any s hs)
  generalize ctB s = y at HCB HK2 HBH hbz
  clear K2 hbz
  go_enter Try.func26, Try.ntmps26
  go_wp2_with (fail)
  (go_at_call 21; refine (HCB.out _).mono ?_; rintro e w1 ⟨rfl, hb1⟩)
  go_wp2_with (fail)
  (go_at_call 69; refine (climbs_any s hn _).mono ?_; rintro e w2 ⟨v, rfl, hv, hb2⟩)
  have hbw2 := bl_step hb1 hb2
  go_wp2_with (fail)
  (go_at_call 69; refine (HK2.out _).mono ?_; rintro e w3 ⟨u, rfl, hu, hb3⟩)
  have hbw3 := bl_step hbw2 hb3
  have hv3 := hv.below hb3 (.inl (Nat.le_refl _))
  have z1 := hb1.size
  have z2 := hb2.size
  obtain ⟨g, c, rfl, hg0, hg1, hcm, hcn, hF⟩ := FR.of_irow hv3 (by rw [upl_len]; omega)
  obtain ⟨g', c', rfl, hg0', hg1', hcm', hcn', hF'⟩ := FR.of_irow hu (by rw [upl_len]; omega)
  rw [upl_len] at hF hF' hcn hcn'
  rw [upl_len, upl_len]
  have hne : g' ≠ g := by omega
  clear hv hu hv3
  go_wp2_with (fail)
  (go_at_call 70; refine (reverse_ints g' (s.size + 1) c' _ _ hF' (by omega)).mono ?_; rintro e w4 ⟨rfl, hR, hz4, ho4, hb4⟩)
  have HI0 : Hid (LeInv w w4 s.data.toList g g' s.size c c' 0) := by
    refine ⟨(hF.keep (ho4 g (Ne.symm hne))).congr fun p hp => ?_, hR.congr fun p hp => ?_, hb4 _ _ (by omega) hbw3⟩
    · rw [if_neg (by omega), upl_getD _ hp]
    · rw [Nat.add_sub_cancel]
      exact (HBH.out p (by omega)).symm
  clear hF hF' hR ho4 hb4 hc
  generalize s.data.toList = l at HI0 HD
  go_wp2
  go_loopw [25] (fun i wr => ∃ k : Nat, k ≤ s.size + 1 ∧ i = .int .i64 k ∧ LeInv w wr l g g' s.size c c' k) (fun i _ => s.size + 1 - (intOf i).toNat)
  case atStart => exact ⟨0, Nat.zero_le _, rfl, HI0.out⟩
  case round =>
    obtain ⟨k, hk, rfl, hI⟩ := hrel
    clear HI0
    by_cases hlt : k < s.size + 1
    · have k1 : (k : Int) < (s.size : Int) + 1 := by omega
      have k0 : (0 : Int) ≤ (k : Int) := by omega
      have e0 := hI.1.cell hlt
      rw [if_neg (Nat.lt_irrefl k)] at e0
      have e1 := hI.2.1.cell hlt
      have ef := hI.1.free
      have HN := Lib.hid (fun v hv => hI.next (v := v) hlt hne (by omega) hv)
      have hmx : lst l k = max (ups l k) (dn l k) := rfl
      rw [hmx] at HN
      clear hI hmx
      generalize ups l k = x at e0 HN
      generalize dn l k = y at e1 HN
      by_cases hxy : x < y
      · have HX := Lib.hid (HN.out (y : Int) (by congr 1; omega))
        have c3 : max (x : Int) (y : Int) = (y : Int) := by omega
        have c1 : (x : Int) < (y : Int) := by omega
        clear HN hxy
        go_wp2
        go_region
        all_goals
          go_wp2
          go_roundw
          case rel => exact ⟨k + 1, by omega, by go_num, by first | exact HX.out | exact HX.out.drewN 1 | exact HX.out.drewN _⟩
          case measure => simp [intOf]; omega
      · have HX := Lib.hid (HN.out (x : Int) (by congr 1; omega))
        have c3 : max (x : Int) (y : Int) = (x : Int) := by omega
        have c1 : (y : Int) ≤ (x : Int) := by omega
        clear HN hxy
        go_wp2
        go_region
        all_goals
          go_wp2
          go_roundw
          case rel => exact ⟨k + 1, by omega, by go_num, by first | exact HX.out | exact HX.out.drewN 1 | exact HX.out.drewN _⟩
          case measure => simp [intOf]; omega
    · have hke : k = s.size + 1 := by omega
      subst hke
      have HX := Lib.hid (HD.out _ _ _ _ _ (by omega) hcm hI)
      have k1 : (s.size : Int) + 1 ≤ ((s.size + 1 : Nat) : Int) := by omega
      clear hI
      go_wp2
      go_ret2
      exact HX.out
end Go.Proofs.Ytjodcaeohkjlnab
