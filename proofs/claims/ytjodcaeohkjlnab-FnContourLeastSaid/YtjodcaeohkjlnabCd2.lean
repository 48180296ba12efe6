/-
  ContourLeast in the model: the walk.
-/
import Derived.Test.YtjodcaeohkjlnabCd
namespace Go.Proofs.Ytjodcaeohkjlnab
open Go.RowKit
set_option maxRecDepth 100000
set_option linter.unusedVariables false

set_option maxHeartbeats 8000000 in
theorem sContourLeast_any (s : ByteArray) (hs : s.size ≤ 4611686018427387904) (w : World) :
    Calls Try.prog 27 #[.string s] w (ClBuilt2 w (cls s) (cv s)) := by
  by_cases hc : cv s = false
  · have HE := Lib.hid (fun w1 hb => empty_cl2 (w := w) (w1 := w1) (ok := false) hb)
    rw [cls_no hc, hc]
    go_enter Try.func27, Try.ntmps27
    go_wp2_with (fail)
    (go_at_call 61; refine (sContourValid_any s hs _).mono ?_; rintro e w1 ⟨rfl, hb1⟩)
    go_wp2
    go_ret2
    exact HE.out _ hb1
  rw [Bool.not_eq_false] at hc
  have HC := Lib.hid hc
  have hn := (cv_in hc).1
  obtain ⟨i0, hi, hq0, hq1, hq2⟩ := info_parts infoIntC
  have HL : Hid (s.data.toList.length = s.size) := by show s.data.toList.length = s.size; simp
  have HD : Hid (∀ B r (wr : World), w.heap.size ≤ B → LdInv w wr s.data.toList s.size B r 0 → s.size ≤ r → 1 ≤ r → ClBuilt2 w (cls s) (cv s) (.returned (.tuple #[.slice (some ⟨B, 0, none⟩) (s.size + 1) (s.size + 1), .bool true])) wr) := by
    intro B r wr hB h h1 h2
    rw [hc]
    exact h.done hc hB h1 h2
  have HG : Hid (∀ k (h : k < s.size), s.data.toList.getD k 0 = s[k]) := fun k h => getD_byte s k h
  have HWB : Hid (∀ k (h : k < s.size), wayb s[k] = true) := fun k h => cv_at hc h
  generalize s.data.toList = l at HL HD HG
  go_enter Try.func27, Try.ntmps27
  go_wp2_with (fail)
  (go_at_call 61; refine (sContourValid_any s hs _).mono ?_; rintro e w1 ⟨rfl, hb1⟩)
  have hz1 := hb1.size
  have n0 : IntKind.i64.wrap ((s.size : Int) + 1) = (s.size : Int) + 1 := IntWalk.i64_in _ (by omega)
  go_wp2_with (at_make; refine wpList_make_full _ rfl _ _ 30 rfl w.heap.size 3 i0 (.int .i64 0) 1 Try.underlying30 hi hq0 hq1 _ _ _ _ (s.size + 1) rfl rfl (Int.natCast_succ s.size).symm (Int.natCast_succ s.size).symm ?c1 ?c2 ?c3 ?_)
  case c1 => rw [hq2]; omega
  case c2 => unfold maxLen; omega
  case c3 => exact hz1
  intro w2 hown hg2
  have hf0 := FR.made hown
  have hb2 : Below w.heap.size w w2 := hb1.trans ⟨hg2.os, hg2.tape, hg2.output, hg2.size, fun i hi => hg2.block i (by omega) (fun e => by cases e)⟩
  have HI0 := Lib.hid (LdInv.start (l := l) hf0 hb2)
  clear hown hg2 hf0 hb2 hc
  have n1 : IntKind.i64.wrap (2 * (s.size : Int)) = 2 * (s.size : Int) := IntWalk.i64_in _ (by omega)
  go_wp2
  go_loopw [5] (fun i wr => ∃ r : Nat, r ≤ 2 * s.size + 1 ∧ i = .int .i64 r ∧ LdInv w wr l s.size w1.heap.size r 0) (fun i _ => 2 * s.size + 1 - (intOf i).toNat)
  case atStart => exact ⟨0, Nat.zero_le _, rfl, HI0.out⟩
  case round =>
    obtain ⟨r, hr, rfl, hI⟩ := hrel
    clear HI0
    by_cases hlt : r ≤ 2 * s.size
    · have r1 : (r : Int) ≤ 2 * (s.size : Int) := by omega
      have HIr := Lib.hid hI
      clear hI
      go_wp2
      go_loopw [6] (fun i wr' => ∃ k : Nat, k ≤ s.size ∧ i = .int .i64 k ∧ LdInv w wr' l s.size w1.heap.size r k) (fun i _ => s.size - (intOf i).toNat)
      case atStart => exact ⟨0, Nat.zero_le _, rfl, HIr.out⟩
      case round =>
        obtain ⟨k, hk, rfl, f, h1, h2, h3, h4⟩ := hrel
        by_cases hlk : k < s.size
        · have k1 : (k : Int) < (s.size : Int) := by omega
          have k0 : (0 : Int) ≤ (k : Int) := by omega
          have k2 : (k : Int) + 1 < (s.size : Int) + 1 := by omega
          have k3 : (0 : Int) ≤ (k : Int) + 1 := by omega
          have k4 : (k : Int) < (s.size : Int) + 1 := by omega
          have k5 : ((k : Int) + 1).toNat = k + 1 := by omega
          have s0 : IntKind.i64.wrap ((k : Int) + 1) = (k : Int) + 1 := IntWalk.i64_in _ (by omega)
          have e0 := h2.cell (p := k) (by omega)
          have e1 := h2.cell (p := k + 1) (by omega)
          have ef := h2.free
          obtain ⟨x0, x1⟩ := h3 k (by omega)
          obtain ⟨y0, y1⟩ := h3 (k + 1) (by omega)
          have s1 : IntKind.i64.wrap (f k + 1) = f k + 1 := IntWalk.i64_in _ (by omega)
          have s2 : IntKind.i64.wrap (f (k + 1) + 1) = f (k + 1) + 1 := IntWalk.i64_in _ (by omega)
          have hw := HWB.out k hlk
          have hgk := HG.out k hlk
          have HU := Lib.hid (fun hcc v hv => ld_u (v := v) HL.out hn hlk hz1 hcc h1 h2 h4 hv)
          have HDn := Lib.hid (fun hcc v hv => ld_d (v := v) HL.out hn hlk hz1 hcc h1 h2 h4 hv)
          have HS := Lib.hid (fun hcc hcc2 v hv => ld_s (v := v) HL.out hn hlk hz1 hcc hcc2 h1 h2 h4 hv)
          clear h1 h2 h3 h4
          rw [hgk] at HU HDn HS
          clear hgk
          generalize f k = x at e0 x0 x1 s1 HU HDn HS
          generalize f (k + 1) = y at e1 y0 y1 s2 HU HDn HS
          rcases wayb_yes hw with q | q | q
          · have t1 : ((s[k].toNat : Int) == 117) = true := by simp; omega
            have HU2 := Lib.hid (HU.out (UInt8.toNat_inj.1 q))
            clear hw q HU HDn HS
            by_cases hxy : y < x + 1
            · have HX := Lib.hid (HU2.out (x + 1) (by omega))
              have c1 : ¬ x + 1 < y := by omega
              have c2 : x + 1 ≤ y ∨ y ≤ x + 1 := by omega
              have c3 : max y (x + 1) = x + 1 := by omega
              clear HU2
              go_wp2
              go_region
              all_goals
                go_wp2
                go_roundw
                case rel => exact ⟨k + 1, by omega, by go_num, by first | exact HX.out | exact HX.out.drewN 1 | exact HX.out.drewN _⟩
                case measure => simp [intOf]; omega
            · have HX := Lib.hid (HU2.out y (by omega))
              have c3 : max y (x + 1) = y := by omega
              have c1 : x + 1 ≤ y := by omega
              clear HU2
              go_wp2
              go_region
              all_goals
                go_wp2
                go_roundw
                case rel => exact ⟨k + 1, by omega, by go_num, by first | exact HX.out | exact HX.out.drewN 1 | exact HX.out.drewN _⟩
                case measure => simp [intOf]; omega
          · have t1 : ((s[k].toNat : Int) == 117) = false := by simp; omega
            have t2 : ((s[k].toNat : Int) == 100) = true := by simp; omega
            have HU2 := Lib.hid (HDn.out (UInt8.toNat_inj.1 q))
            clear hw q HU HDn HS
            by_cases hxy : x < y + 1
            · have HX := Lib.hid (HU2.out (y + 1) (by omega))
              have c1 : ¬ y + 1 < x := by omega
              have c3 : max x (y + 1) = y + 1 := by omega
              clear HU2
              go_wp2
              go_region
              all_goals
                go_wp2
                go_roundw
                case rel => exact ⟨k + 1, by omega, by go_num, by first | exact HX.out | exact HX.out.drewN 1 | exact HX.out.drewN _⟩
                case measure => simp [intOf]; omega
            · have HX := Lib.hid (HU2.out x (by omega))
              have c3 : max x (y + 1) = x := by omega
              have c1 : y + 1 ≤ x := by omega
              clear HU2
              go_wp2
              go_region
              all_goals
                go_wp2
                go_roundw
                case rel => exact ⟨k + 1, by omega, by go_num, by first | exact HX.out | exact HX.out.drewN 1 | exact HX.out.drewN _⟩
                case measure => simp [intOf]; omega
          · have t1 : ((s[k].toNat : Int) == 117) = false := by simp; omega
            have t2 : ((s[k].toNat : Int) == 100) = false := by simp; omega
            have HU2 := Lib.hid (HS.out (byte_ne (n := 117) 117 rfl (by omega)) (byte_ne (n := 100) 100 rfl (by omega)))
            clear hw q HU HDn HS
            by_cases hxy : x < y
            · have HX := Lib.hid (HU2.out y (by omega))
              have c3 : max x y = y := by omega
              have c1 : ¬ y < x := by omega
              clear HU2
              go_wp2
              go_region
              all_goals
                go_wp2
                go_roundw
                case rel => exact ⟨k + 1, by omega, by go_num, by first | exact HX.out | exact HX.out.drewN 1 | exact HX.out.drewN _⟩
                case measure => simp [intOf]; omega
            · have HX := Lib.hid (HU2.out x (by omega))
              have c3 : max x y = x := by omega
              have c1 : y ≤ x := by omega
              clear HU2
              go_wp2
              go_region
              all_goals
                go_wp2
                go_roundw
                case rel => exact ⟨k + 1, by omega, by go_num, by first | exact HX.out | exact HX.out.drewN 1 | exact HX.out.drewN _⟩
                case measure => simp [intOf]; omega
        · have hke : k = s.size := by omega
          subst hke
          have HX : Hid (LdInv w _ l s.size w1.heap.size (r + 1) 0) := LdInv.next HL.out ⟨f, h1, h2, h3, h4⟩
          clear h1 h2 h3 h4
          go_wp2
          go_roundw
          case rel => exact ⟨r + 1, by omega, by go_num, HX.out⟩
          case measure => simp [intOf]; omega
    · have HX := Lib.hid (HD.out _ r _ hz1 hI (by omega) (by omega))
      have r1 : 2 * (s.size : Int) < (r : Int) := by omega
      clear hI
      go_wp2
      go_ret2
      exact HX.out
end Go.Proofs.Ytjodcaeohkjlnab
