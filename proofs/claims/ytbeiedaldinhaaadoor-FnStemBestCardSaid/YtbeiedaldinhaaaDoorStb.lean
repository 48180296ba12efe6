/-
  The stem with the fewest changes, in both programs.
-/
import Derived.Test.YtbeiedaldinhaaaDoorBc
import Derived.Test.YtbeiedaldinhaaaDoorIb
namespace Go.Proofs.YtbeiedaldinhaaaDoor
open Go.RowKit
set_option maxRecDepth 100000
set_option linter.unusedVariables false

/-- a list of integers of a call's own, and whether it stands -/
def SB2 (w : World) (xs : List Int) (b : Bool) (e : Ending) (w' : World) : Prop :=
  ∃ v, e = .returned (.tuple #[v, .bool b]) ∧ IRow w' w.heap.size w'.heap.size v xs ∧ Below w.heap.size w w'

theorem SB2.none {w w1 : World} (h : Below w.heap.size w w1) : SB2 w [] false (.returned (.tuple #[.slice (some ⟨w1.heap.size, 0, none⟩) 0 0, .bool false])) (w1.alloc (.cells #[] 3)) :=
  ⟨_, rfl, ⟨⟨by simp, .inr ⟨w1.heap.size, 0, #[], rfl, h.size, heap_alloc_new w1 _, by simp, by simp [maxLen], by simp, by simp⟩⟩, fun g hg => by
    have : g = w1.heap.size := by simpa [Value.ownBlock] using hg.symm
    simp; omega⟩, h.alloc h.size _⟩

theorem IbInv.one {w w1 : World} (h : Below w.heap.size w w1) (z : Int) : IbInv w (w1.alloc (.cells #[.int .i64 z] 3)) (.slice (some ⟨w1.heap.size, 0, none⟩) 1 1) [z] :=
  ⟨⟨by simp, .inr ⟨w1.heap.size, 1, #[.int .i64 z], rfl, h.size, heap_alloc_new w1 _, by simp, by simp [maxLen], by simp, by simp⟩⟩, h.alloc h.size _⟩

theorem inews {W : World} {z : Int} {t : TypeId} : ∀ j u, ([.int .i64 z] : List Value)[j]? = some u → (W.alloc (.cells #[.int .i64 z] t)).cell? ((⟨W.heap.size, 0, none⟩ : Addr).add j) = some u := by
  intro j u hj
  match j, hj with
  | 0, hj => simp at hj; subst hj; simp [Addr.add]

theorem inews_one {z : Int} : ∀ u ∈ ([.int .i64 z] : List Value), u.oneCell' = true := by
  intro u hu; simp at hu; subst hu; rfl

theorem IbInv.two {w wr : World} {v : Value} {xs : List Int} (h : IbInv w wr v xs) : SB2 w xs true (.returned (.tuple #[v, .bool true])) wr :=
  ⟨v, rfl, ⟨h.own, fun g hg => (own_ltb h.own hg).2⟩, h.bl⟩

set_option maxHeartbeats 8000000 in
theorem sStemBest_any (v : Value) (ss : List ByteArray) (w : World) (h : SV w v ss) (hsz : ∀ s ∈ ss, s.size ≤ 4611686018427387904) :
    Calls Tryd.prog 30 #[v] w (SB2 w (sbst ss) (bval ss)) := by
  obtain ⟨i0, hi, hq0, hq1, hq2⟩ := info_parts infoIb
  have KB := Lib.hid (sBooksValid_any v ss w h hsz)
  obtain ⟨a, c, rfl, ha, hc1, hc2⟩ := h
  unfold maxLen at hc2
  cases hv : bval ss with
  | false =>
    rw [sbst_no hv]
    rw [hv] at KB
    clear hv ha hsz
    go_enter Tryd.func30, Tryd.ntmps30
    go_wp2_with (fail)
    (go_at_call 39; refine (KB.out).mono ?_; rintro e w1 ⟨rfl, hn1⟩)
    have hb1 := bl_ofN hn1
    clear hn1
    have HN := Lib.hid (SB2.none hb1)
    clear hb1
    go_wp2
    go_ret2
    exact HN.out
  | true =>
    rw [sbst_yes hv]
    rw [hv] at KB
    obtain ⟨hin, hall⟩ := bval_in hv
    obtain ⟨n1, n6, p1, p8⟩ := bkIn_parts hin
    have HALL := Lib.hid hall
    have hne : ss ≠ [] := by rintro rfl; simp at n1
    rcases ha with hh | ⟨A, off, rfl, hA, hc⟩
    · exact absurd hh hne
    have HC := Lib.hid hc
    clear hv hin hall hne hc hsz
    go_enter Tryd.func30, Tryd.ntmps30
    go_wp2_with (fail)
    (go_at_call 39; refine (KB.out).mono ?_; rintro e w1 ⟨rfl, hn1⟩)
    have hb1 := bl_ofN hn1
    clear hn1
    have hI0 := IbInv.one hb1 (-1)
    have HI0 := Lib.hid hI0
    clear hI0 hb1
    go_wp2
    go_loopw [4, 5] (fun v i wr => ∃ k : Nat, 1 ≤ k ∧ k ≤ ss.length ∧ i = .int .i64 k ∧ IbInv w wr v (sbk ss (k - 1))) (fun _ i _ => ss.length - (intOf i).toNat)
    case atStart => exact ⟨1, Nat.le_refl _, n1, rfl, HI0.out⟩
    case round =>
      obtain ⟨i, hi1, hi2, rfl, hI⟩ := hrel
      by_cases hlt : i < ss.length
      · obtain ⟨t, ht⟩ := ss_get hlt
        have htz := (HALL.out i t ht).1
        have ii0 : (0 : Int) ≤ (i : Int) := by omega
        have ii1 : (i : Int) < (ss.length : Int) := by omega
        have hbk := bka_get ht
        have HI := Lib.hid hI
        have HB := Lib.hid hI.bl
        have hlen := sbk_len ss (i - 1)
        have hnx : sbk ss i = sbk ss (i - 1) ++ [(near ss i i : Int)] := by
          obtain ⟨j, rfl⟩ : ∃ j, i = j + 1 := ⟨i - 1, by omega⟩
          rfl
        have HNX := Lib.hid hnx
        clear hnx hI
        obtain ⟨wo, hwo⟩ : ∃ wo, wo = wr := ⟨wr, rfl⟩
        subst hwo
        have HBK := Lib.hid hbk
        have HT := Lib.hid ht
        clear ht hbk
        go_wp2
        go_loopw [6, 7] (fun b j wr => ∃ k : Nat, k ≤ i ∧ j = .int .i64 k ∧ b = .int .i64 (near ss i k : Int) ∧ ∃ d, wr = wo.drewN d) (fun _ j _ => i - (intOf j).toNat)
        case atStart => exact ⟨0, Nat.zero_le _, rfl, rfl, 0, rfl⟩
        case round =>
          obtain ⟨k, hk, rfl, rfl, d, hw⟩ := hrel
          have HW := Lib.hid hw
          have hnl := near_lt ss i k
          clear hw
          have HB2 : Hid (Below w.heap.size w wr) := by rw [HW.out]; exact bl_drewN HB.out _
          by_cases hlk : k < i
          · obtain ⟨s, hs⟩ := ss_get (by omega : k < ss.length)
            obtain ⟨u, hu⟩ := ss_get (by omega : near ss i k < ss.length)
            have f1 := (HB2.out.cell (p := ⟨A, off + i, none⟩) hA).trans (HC.out i t HT.out)
            have f2 := (HB2.out.cell (p := ⟨A, off + k, none⟩) hA).trans (HC.out k s hs)
            have f3 := (HB2.out.cell (p := ⟨A, off + near ss i k, none⟩) hA).trans (HC.out _ u hu)
            have hsz := (HALL.out k s hs).1
            have huz := (HALL.out _ u hu).1
            have kk0 : (0 : Int) ≤ (k : Int) := by omega
            have kk1 : (k : Int) < (ss.length : Int) := by omega
            have kk2 : (k : Int) < (i : Int) := by omega
            have nn0 : (0 : Int) ≤ (near ss i k : Int) := by omega
            have nn1 : (near ss i k : Int) < (ss.length : Int) := by omega
            have HF : Hid (∀ a b : ByteArray, Hid (a.size = plc ss) → Hid (b.size = plc ss) → ∀ W, _) := fun (a b : ByteArray) (h1 : Hid (a.size = plc ss)) (h2 : Hid (b.size = plc ss)) W => l7Far_any a b (by rw [h1.out, h2.out]) (by rw [h1.out]; omega) W
            have ZS := Lib.hid hsz
            have ZT := Lib.hid htz
            have ZU := Lib.hid huz
            have hc1 : fr t s = fr s t := fr_comm (by omega)
            have hc2 : fr t u = fr u t := fr_comm (by omega)
            by_cases hm : fr t s < fr t u
            · have HX : Hid (near ss i (k + 1) = k) := near_more (by rw [HBK.out, bka_get hs, bka_get hu]; exact hm)
              have t1 : decide ((fr t s : Int) < (fr t u : Int)) = true := decide_eq_true (by omega)
              have t2 : decide (fr t s < fr t u) = true := decide_eq_true (by omega)
              clear hm hc1 hc2 hs hu hsz huz
              generalize near ss i k = z at f3 nn0 nn1 hnl ⊢
              go_wp2_with (fail)
              go_quiet ((go_at_call 40; exact Calls.quiet_of (HF.out _ _ (by assumption) (by assumption) _)))
              go_wp2
              go_roundw
              case rel => exact ⟨k + 1, by omega, by go_num, by rw [HX.out], _, by rw [HW.out, World.drewN_drewN]⟩
              case measure => simp [intOf]; omega
            · have HX : Hid (near ss i (k + 1) = near ss i k) := near_same (by rw [HBK.out, bka_get hs, bka_get hu]; exact hm)
              have t1 : decide ((fr t s : Int) < (fr t u : Int)) = false := decide_eq_false (by omega)
              have t2 : decide (fr t s < fr t u) = false := decide_eq_false (by omega)
              clear hm hc1 hc2 hs hu hsz huz
              generalize near ss i k = z at f3 nn0 nn1 hnl HX ⊢
              go_wp2_with (fail)
              go_quiet ((go_at_call 40; exact Calls.quiet_of (HF.out _ _ (by assumption) (by assumption) _)))
              go_wp2
              go_roundw
              case rel => exact ⟨k + 1, by omega, by go_num, by rw [HX.out], _, by rw [HW.out, World.drewN_drewN]⟩
              case measure => simp [intOf]; omega
          · have hke : k = i := by omega
            subst hke
            have hI2 := HI.out.below (w1 := wr) (by rw [HW.out]; exact bl_drewN (Below.refl _ _) _)
            have HI2 := Lib.hid hI2
            have hown := hI2.own
            have hbs := hI2.bl.size
            have hlx : (sbk ss (k - 1)).length = k := by omega
            rw [hlx] at hown
            have HLX := Lib.hid hlx
            clear hI2 hlen hlx
            generalize near ss k k = z at HNX ⊢
            generalize sbk ss (k - 1) = xs at hown HI2 HNX HLX
            go_wp2_with (at_builtin; refine wpList_append_own _ rfl _ _ 24 rfl w.heap.size 3 i0 (.int .i64 0) 1 8 Tryd.underlying24 hi hq0 hq1 hq2 rfl (by decide) _ _ _ rfl (hown.alloc _) ⟨wr.heap.size, 0, none⟩ 1 1 [.int .i64 (z : Int)] rfl rfl inews inews_one (by unfold maxLen; omega) (by omega) (by simp; omega) ?_)
            intro v' w3 hown' hgrow _
            have HN : Hid (IbInv w w3 v' (xs ++ [(z : Int)])) := HI2.out.app (by rw [HLX.out]; exact hown') hgrow
            clear hown' hgrow hown
            go_wp2
            go_roundw
            case rel => exact ⟨k + 1, by omega, by omega, by go_num, by rw [Nat.add_sub_cancel, HNX.out]; exact HN.out⟩
            case measure => simp [intOf]; omega
      · have hke : i = ss.length := by omega
        subst hke
        have HB2 := Lib.hid hI.two
        clear hI
        go_wp2
        go_ret2
        exact HB2.out

set_option maxHeartbeats 8000000 in
theorem stemBest_any (v : Value) (ss : List ByteArray) (w : World) (h : SV w v ss) (hsz : ∀ s ∈ ss, s.size ≤ 4611686018427387904) :
    Calls Tryd.prog 13 #[v] w (SB2 w (sbst ss) (bval ss)) := by
  obtain ⟨i0, hi, hq0, hq1, hq2⟩ := info_parts infoIb
  have KB := Lib.hid (booksValid_any v ss w h hsz)
  obtain ⟨a, c, rfl, ha, hc1, hc2⟩ := h
  unfold maxLen at hc2
  cases hv : bval ss with
  | false =>
    rw [sbst_no hv]
    rw [hv] at KB
    clear hv ha hsz
    go_enter Tryd.func13, Tryd.ntmps13
    go_wp2_with (fail)
    (go_at_call 36; refine (KB.out).mono ?_; rintro e w1 ⟨rfl, hb1⟩)
    have HN := Lib.hid (SB2.none hb1)
    clear hb1
    go_wp2
    go_ret2
    exact HN.out
  | true =>
    rw [sbst_yes hv]
    rw [hv] at KB
    obtain ⟨hin, hall⟩ := bval_in hv
    obtain ⟨n1, n6, p1, p8⟩ := bkIn_parts hin
    have HALL := Lib.hid hall
    have hne : ss ≠ [] := by rintro rfl; simp at n1
    rcases ha with hh | ⟨A, off, rfl, hA, hc⟩
    · exact absurd hh hne
    have HC := Lib.hid hc
    clear hv hin hall hne hc hsz
    go_enter Tryd.func13, Tryd.ntmps13
    go_wp2_with (fail)
    (go_at_call 36; refine (KB.out).mono ?_; rintro e w1 ⟨rfl, hb1⟩)
    have hI0 := IbInv.one hb1 (-1)
    have HI0 := Lib.hid hI0
    clear hI0 hb1
    go_wp2
    go_loopw [4, 5] (fun v i wr => ∃ k : Nat, 1 ≤ k ∧ k ≤ ss.length ∧ i = .int .i64 k ∧ IbInv w wr v (sbk ss (k - 1))) (fun _ i _ => ss.length - (intOf i).toNat)
    case atStart => exact ⟨1, Nat.le_refl _, n1, rfl, HI0.out⟩
    case round =>
      obtain ⟨i, hi1, hi2, rfl, hI⟩ := hrel
      by_cases hlt : i < ss.length
      · obtain ⟨t, ht⟩ := ss_get hlt
        have htz := (HALL.out i t ht).1
        have ii0 : (0 : Int) ≤ (i : Int) := by omega
        have ii1 : (i : Int) < (ss.length : Int) := by omega
        have hbk := bka_get ht
        have HI := Lib.hid hI
        have HB := Lib.hid hI.bl
        have hlen := sbk_len ss (i - 1)
        have hnx : sbk ss i = sbk ss (i - 1) ++ [(near ss i i : Int)] := by
          obtain ⟨j, rfl⟩ : ∃ j, i = j + 1 := ⟨i - 1, by omega⟩
          rfl
        have HNX := Lib.hid hnx
        clear hnx hI
        obtain ⟨wo, hwo⟩ : ∃ wo, wo = wr := ⟨wr, rfl⟩
        subst hwo
        have HBK := Lib.hid hbk
        have HT := Lib.hid ht
        clear ht hbk
        go_wp2
        go_loopw [6, 20] (fun b j wr => ∃ k : Nat, k ≤ i ∧ j = .int .i64 k ∧ b = .int .i64 (near ss i k : Int) ∧ ∃ d, wr = wo.drewN d) (fun _ j _ => i - (intOf j).toNat)
        case atStart => exact ⟨0, Nat.zero_le _, rfl, rfl, 0, rfl⟩
        case round =>
          obtain ⟨k, hk, rfl, rfl, d, hw⟩ := hrel
          have HW := Lib.hid hw
          have hnl := near_lt ss i k
          clear hw
          have HB2 : Hid (Below w.heap.size w wr) := by rw [HW.out]; exact bl_drewN HB.out _
          by_cases hlk : k < i
          · obtain ⟨s, hs⟩ := ss_get (by omega : k < ss.length)
            obtain ⟨u, hu⟩ := ss_get (by omega : near ss i k < ss.length)
            have f1 := (HB2.out.cell (p := ⟨A, off + i, none⟩) hA).trans (HC.out i t HT.out)
            have f2 := (HB2.out.cell (p := ⟨A, off + k, none⟩) hA).trans (HC.out k s hs)
            have f3 := (HB2.out.cell (p := ⟨A, off + near ss i k, none⟩) hA).trans (HC.out _ u hu)
            have hsz := (HALL.out k s hs).1
            have huz := (HALL.out _ u hu).1
            have kk0 : (0 : Int) ≤ (k : Int) := by omega
            have kk1 : (k : Int) < (ss.length : Int) := by omega
            have kk2 : (k : Int) < (i : Int) := by omega
            have nn0 : (0 : Int) ≤ (near ss i k : Int) := by omega
            have nn1 : (near ss i k : Int) < (ss.length : Int) := by omega
            have HF : Hid (∀ a b : ByteArray, Hid (a.size = plc ss) → Hid (b.size = plc ss) → ∀ W, _) := fun (a b : ByteArray) (h1 : Hid (a.size = plc ss)) (h2 : Hid (b.size = plc ss)) W => far_any a b (by rw [h1.out, h2.out]) (by rw [h1.out]; omega) W
            have ZS := Lib.hid hsz
            have ZT := Lib.hid htz
            have ZU := Lib.hid huz
            have hc1 : fr t s = fr s t := fr_comm (by omega)
            have hc2 : fr t u = fr u t := fr_comm (by omega)
            by_cases hm : fr t s < fr t u
            · have HX : Hid (near ss i (k + 1) = k) := near_more (by rw [HBK.out, bka_get hs, bka_get hu]; exact hm)
              have t1 : decide ((fr s t : Int) < (fr u t : Int)) = true := decide_eq_true (by omega)
              have t2 : decide (fr s t < fr u t) = true := decide_eq_true (by omega)
              clear hm hc1 hc2 hs hu hsz huz
              generalize near ss i k = z at f3 nn0 nn1 hnl ⊢
              go_wp2_with (fail)
              go_quiet ((go_at_call 41; exact Calls.quiet_of (HF.out _ _ (by assumption) (by assumption) _)))
              go_wp2
              go_roundw
              case rel => exact ⟨k + 1, by omega, by go_num, by rw [HX.out], _, by rw [HW.out, World.drewN_drewN]⟩
              case measure => simp [intOf]; omega
            · have HX : Hid (near ss i (k + 1) = near ss i k) := near_same (by rw [HBK.out, bka_get hs, bka_get hu]; exact hm)
              have t1 : decide ((fr s t : Int) < (fr u t : Int)) = false := decide_eq_false (by omega)
              have t2 : decide (fr s t < fr u t) = false := decide_eq_false (by omega)
              clear hm hc1 hc2 hs hu hsz huz
              generalize near ss i k = z at f3 nn0 nn1 hnl HX ⊢
              go_wp2_with (fail)
              go_quiet ((go_at_call 41; exact Calls.quiet_of (HF.out _ _ (by assumption) (by assumption) _)))
              go_wp2
              go_roundw
              case rel => exact ⟨k + 1, by omega, by go_num, by rw [HX.out], _, by rw [HW.out, World.drewN_drewN]⟩
              case measure => simp [intOf]; omega
          · have hke : k = i := by omega
            subst hke
            have hI2 := HI.out.below (w1 := wr) (by rw [HW.out]; exact bl_drewN (Below.refl _ _) _)
            have HI2 := Lib.hid hI2
            have hown := hI2.own
            have hbs := hI2.bl.size
            have hlx : (sbk ss (k - 1)).length = k := by omega
            rw [hlx] at hown
            have HLX := Lib.hid hlx
            clear hI2 hlen hlx
            generalize near ss k k = z at HNX ⊢
            generalize sbk ss (k - 1) = xs at hown HI2 HNX HLX
            go_wp2_with (at_builtin; refine wpList_append_own _ rfl _ _ 24 rfl w.heap.size 3 i0 (.int .i64 0) 1 8 Tryd.underlying24 hi hq0 hq1 hq2 rfl (by decide) _ _ _ rfl (hown.alloc _) ⟨wr.heap.size, 0, none⟩ 1 1 [.int .i64 (z : Int)] rfl rfl inews inews_one (by unfold maxLen; omega) (by omega) (by simp; omega) ?_)
            intro v' w3 hown' hgrow _
            have HN : Hid (IbInv w w3 v' (xs ++ [(z : Int)])) := HI2.out.app (by rw [HLX.out]; exact hown') hgrow
            clear hown' hgrow hown
            go_wp2
            go_roundw
            case rel => exact ⟨k + 1, by omega, by omega, by go_num, by rw [Nat.add_sub_cancel, HNX.out]; exact HN.out⟩
            case measure => simp [intOf]; omega
      · have hke : i = ss.length := by omega
        subst hke
        have HB2 := Lib.hid hI.two
        clear hI
        go_wp2
        go_ret2
        exact HB2.out
end Go.Proofs.YtbeiedaldinhaaaDoor
