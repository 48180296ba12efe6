/-
  All modes of a melody, in both programs.
-/
import Derived.Test.YtmipkodgkldmbaaDoorMdIn
import Derived.Test.YtmipkodgkldmbaaDoorIb
namespace Go.Proofs.YtmipkodgkldmbaaDoor
open Go.RowKit
set_option maxRecDepth 100000
set_option linter.unusedVariables false

set_option maxHeartbeats 4000000 in
theorem modeAll_at (a : Option Addr) (cap : Nat) (xs : List (Int × Bool)) (w : World) (h : ArgT w a xs) (hcap : xs.length ≤ cap) (hmax : cap ≤ maxLen) (ht : TenTab w) :
    Calls Tryd.prog 26 #[.slice a xs.length cap] w (IbMade w (allM xs 8)) := by
  obtain ⟨i0, hi, hq0, hq1, hq2⟩ := info_parts infoIb
  have HA := Lib.hid h
  have HT := Lib.hid ht
  have HS := Lib.hid (IbInv.start w)
  clear ht h
  go_enter Tryd.func26, Tryd.ntmps26
  go_wp2
  go_loopw [3, 4] (fun v i wr => ∃ n : Nat, n ≤ 8 ∧ i = .int .i64 ((n : Int) + 1) ∧ IbInv w wr v (allM xs n)) (fun _ i _ => 9 - (intOf i).toNat)
  case atStart => exact ⟨0, by omega, rfl, HS.out⟩
  case round =>
    obtain ⟨n, hn, rfl, hinv⟩ := hrel
    by_cases hlt : n < 8
    · have hl : (n : Int) + 1 ≤ 8 := by omega
      have hlen := allM_len xs n
      go_wp2_with (fail)
      (go_at_call 23; refine (modeIn_at a cap xs ((n : Int) + 1) _ (HA.out.below hinv.bl) hcap hmax (HT.out.below hinv.bl)).mono ?_; rintro e w1 ⟨rfl, hb1⟩)
      have hinv1 := hinv.below hb1
      clear hinv
      by_cases hh : inM xs ((n : Int) + 1) = true
      · have HX := Lib.hid (allM_hit hh)
        have hown := hinv1.own
        rw [hh]
        clear hh
        go_wp2_with (at_builtin; refine wpList_append_own _ rfl _ _ 35 rfl w.heap.size 3 i0 (.int .i64 0) 1 8 Tryd.underlying35 hi hq0 hq1 hq2 rfl (by decide) _ _ _ rfl (hown.alloc _) ⟨w1.heap.size, 0, none⟩ 1 1 [.int .i64 ((n : Int) + 1)] rfl rfl ?c1 ?c2 ?c3 ?c4 ?c5 ?_)
        case c1 =>
          intro j u hj
          match j, hj with
          | 0, hj => simp at hj; subst hj; simp [Addr.add]
        case c2 => intro u hu; simp at hu; subst hu; rfl
        case c3 => unfold maxLen; omega
        case c4 => omega
        case c5 => have := hinv1.bl.size; simp; omega
        intro v' w2 hown' hgrow _
        have hinv2 := hinv1.app hown' hgrow
        clear hown' hgrow hown hinv1
        go_wp2
        go_roundw
        case rel => exact ⟨n + 1, by omega, by go_num, by rw [HX.out]; exact hinv2⟩
        case measure => simp [intOf]; omega
      · rw [Bool.not_eq_true] at hh
        have HX := Lib.hid (allM_miss hh)
        rw [hh]
        clear hh
        go_wp2
        go_roundw
        case rel => exact ⟨n + 1, by omega, by go_num, by rw [HX.out]; exact hinv1⟩
        case measure => simp [intOf]; omega
    · have hn8 : n = 8 := by omega
      subst hn8
      have HE := Lib.hid hinv.built
      clear hinv
      go_wp2
      go_ret
      exact HE.out

theorem modeAll_any (lo hi : Nat) (v : Value) (xs : List (Int × Bool)) (w : World) (h : TRow w lo hi v xs) (ht : TenTab w) :
    Calls Tryd.prog 26 #[v] w (IbMade w (allM xs 8)) := by
  obtain ⟨a, c, rfl, hc, hm, ha⟩ := h.argA
  exact modeAll_at a c xs w ha hc hm ht

set_option maxHeartbeats 4000000 in
theorem sModeAll_any (lo hi : Nat) (v : Value) (xs : List (Int × Bool)) (w : World) (h : TRow w lo hi v xs) :
    Calls Tryd.prog 27 #[v] w (IbMade w (allM xs 8)) := by
  obtain ⟨i0, hi0, hq0, hq1, hq2⟩ := info_parts infoIb
  have HA := Lib.hid h
  have HS := Lib.hid (IbInv.start w)
  clear h
  go_enter Tryd.func27, Tryd.ntmps27
  go_wp2
  go_loopw [3, 4] (fun v i wr => ∃ n : Nat, n ≤ 8 ∧ i = .int .i64 ((n : Int) + 1) ∧ IbInv w wr v (allM xs n)) (fun _ i _ => 9 - (intOf i).toNat)
  case atStart => exact ⟨0, by omega, rfl, HS.out⟩
  case round =>
    obtain ⟨n, hn, rfl, hinv⟩ := hrel
    by_cases hlt : n < 8
    · have hl : (n : Int) + 1 ≤ 8 := by omega
      have hlen := allM_len xs n
      go_wp2_with (fail)
      (go_at_call 24; refine (sModeIn_any lo hi _ xs ((n : Int) + 1) _ (HA.out.below hinv.bl (.inr (Nat.le_refl _)))).mono ?_; rintro e w1 ⟨rfl, hb1⟩)
      have hinv1 := hinv.below hb1
      clear hinv
      by_cases hh : inM xs ((n : Int) + 1) = true
      · have HX := Lib.hid (allM_hit hh)
        have hown := hinv1.own
        rw [hh]
        clear hh
        go_wp2_with (at_builtin; refine wpList_append_own _ rfl _ _ 35 rfl w.heap.size 3 i0 (.int .i64 0) 1 8 Tryd.underlying35 hi0 hq0 hq1 hq2 rfl (by decide) _ _ _ rfl (hown.alloc _) ⟨w1.heap.size, 0, none⟩ 1 1 [.int .i64 ((n : Int) + 1)] rfl rfl ?c1 ?c2 ?c3 ?c4 ?c5 ?_)
        case c1 =>
          intro j u hj
          match j, hj with
          | 0, hj => simp at hj; subst hj; simp [Addr.add]
        case c2 => intro u hu; simp at hu; subst hu; rfl
        case c3 => unfold maxLen; omega
        case c4 => omega
        case c5 => have := hinv1.bl.size; simp; omega
        intro v' w2 hown' hgrow _
        have hinv2 := hinv1.app hown' hgrow
        clear hown' hgrow hown hinv1
        go_wp2
        go_roundw
        case rel => exact ⟨n + 1, by omega, by go_num, by rw [HX.out]; exact hinv2⟩
        case measure => simp [intOf]; omega
      · rw [Bool.not_eq_true] at hh
        have HX := Lib.hid (allM_miss hh)
        rw [hh]
        clear hh
        go_wp2
        go_roundw
        case rel => exact ⟨n + 1, by omega, by go_num, by rw [HX.out]; exact hinv1⟩
        case measure => simp [intOf]; omega
    · have hn8 : n = 8 := by omega
      subst hn8
      have HE := Lib.hid hinv.built
      clear hinv
      go_wp2
      go_ret
      exact HE.out
end Go.Proofs.YtmipkodgkldmbaaDoor
