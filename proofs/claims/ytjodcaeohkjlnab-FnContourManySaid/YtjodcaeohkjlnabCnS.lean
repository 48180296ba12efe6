/-
  ContourMany in the model: how many lists of steps have a contour.
-/
import Derived.Test.YtjodcaeohkjlnabEa
import Derived.Test.YtjodcaeohkjlnabCv2
import Derived.Test.YtjodcaeohkjlnabTones
import Derived.Deep.QuietTactic
import Derived.BigQuiet

namespace Go.Proofs.Ytjodcaeohkjlnab
open Go.RowKit
set_option maxRecDepth 100000
set_option linter.unusedVariables false

theorem l3Way_nat (a b : Nat) (w : World) : Calls Try.prog 68 #[.int .i64 (a : Int), .int .i64 (b : Int)] w fun e w' => e = .returned (.string ⟨#[wy a b]⟩) ∧ w = w' := by
  by_cases h : a < b
  · rw [wy_lit.1 h]
    have h1 : (a : Int) < (b : Int) := by omega
    go_enter Try.func68, Try.ntmps68
    go_wp2
    go_ret
    exact ⟨rfl, rfl⟩
  have h1 : decide ((a : Int) < (b : Int)) = false := by simp; omega
  by_cases k : b < a
  · rw [wy_lit.2.1 k]
    have h2 : (b : Int) < (a : Int) := by omega
    go_enter Try.func68, Try.ntmps68
    go_wp2
    go_ret
    exact ⟨rfl, rfl⟩
  · rw [wy_lit.2.2 (by omega)]
    have h2 : decide ((b : Int) < (a : Int)) = false := by simp; omega
    go_enter Try.func68, Try.ntmps68
    go_wp2
    go_ret
    exact ⟨rfl, rfl⟩
theorem onews {w : World} {z : Int} {t : TypeId} : ∀ j u, ([.int .i64 z] : List Value)[j]? = some u → (w.alloc (.cells #[.int .i64 z] t)).cell? ((⟨w.heap.size, 0, none⟩ : Addr).add j) = some u := by
  intro j u hj
  match j, hj with
  | 0, hj => simp at hj; subst hj; simp [Addr.add]
theorem onews_one {z : Int} : ∀ u ∈ ([.int .i64 z] : List Value), u.oneCell' = true := by
  intro u hu; simp at hu; subst hu; rfl
/-- k ones have been appended -/
def OnInv (w wr : World) (v : Value) (k : Nat) : Prop :=
  wr.ownsRow w.heap.size 3 1 v k (List.replicate k (.int .i64 1)) ∧ Below w.heap.size w wr
theorem OnInv.start {w w1 : World} (hb : Below w.heap.size w w1) : OnInv w (w1.alloc (.cells #[] 3)) (.slice (some ⟨w1.heap.size, 0, none⟩) 0 0) 0 :=
  ⟨⟨rfl, .inr ⟨w1.heap.size, 0, #[], rfl, hb.size, heap_alloc_new w1 _, by simp, by simp [maxLen], by simp, by simp⟩⟩, hb.alloc hb.size _⟩
theorem OnInv.app {w wr w2 : World} {v v' : Value} {k : Nat} {o : Obj} (h : OnInv w wr v k) (hown : w2.ownsRow w.heap.size 3 1 v' (k + 1) (List.replicate k (.int .i64 1) ++ [.int .i64 1])) (hg : (wr.alloc o).grownBy w2 v.ownBlock) : OnInv w w2 v' (k + 1) := by
  refine ⟨?_, (h.2.alloc h.2.size o).grown hg (by have := h.2.size; simp; omega) (fun k hk => (h.1.lt k hk).1)⟩
  rw [List.replicate_succ']
  exact hown
theorem OnInv.fr {w wr : World} {v : Value} {N : Nat} (h : OnInv w wr v N) (hN : 1 ≤ N) : ∃ B c, v = .slice (some ⟨B, 0, none⟩) N c ∧ FR wr B N c cone ∧ w.heap.size ≤ B := by
  obtain ⟨⟨hl, h1 | ⟨g, cap, cur, hv, hg, hh, hn, hm, hsz, htk⟩⟩, hb⟩ := h
  · omega
  · refine ⟨g, cap, hv, ⟨cur, hh, ⟨by omega, hn⟩, fun p hp => ?_⟩, hg⟩
    have e : (cur.toList.take (N * 1))[p]? = (List.replicate N (Value.int .i64 1))[p]? := by rw [htk]
    rw [List.getElem?_take_of_lt (by omega), Array.getElem?_toList] at e
    rw [e]
    simp [hp, cone]
theorem way_same {c d : UInt8} : ((⟨#[c]⟩ : ByteArray).toList == (⟨#[d]⟩ : ByteArray).toList) = (c == d) := by
  rw [ByteArray.toList_eq, ByteArray.toList_eq]
  simp
theorem sub_one (s : ByteArray) (k : Nat) (hk : k < s.size) : s.extract k (k + 1) = ⟨#[s[k]]⟩ := by
  apply ByteArray.ext
  apply Array.ext_getElem?
  intro i
  have hk' : k < s.data.size := hk
  rw [ByteArray.data_extract]
  cases i with
  | zero => rw [Array.getElem?_extract, if_pos (by omega), Nat.add_zero, Array.getElem?_eq_getElem hk']; rfl
  | succ i => simp; omega

set_option maxHeartbeats 16000000 in
theorem sContourMany_any (s : ByteArray) (hs : s.size ≤ 4611686018427387904) (most : Int) (w : World) :
    Calls Try.prog 24 #[.string s, .int .i64 most] w fun e w' => e = .returned (.int .i64 (cmv s most)) ∧ Below w.heap.size w w' := by
  by_cases hc : cv s = false
  · rw [cmv_no1 hc]
    go_enter Try.func24, Try.ntmps24
    go_wp2_with (fail)
    (go_at_call 61; refine (sContourValid_any s hs _).mono ?_; rintro e w1 ⟨rfl, hb1⟩)
    rw [hc]
    go_wp2
    go_ret
    exact ⟨rfl, hb1⟩
  rw [Bool.not_eq_false] at hc
  by_cases h8 : 8 < s.size
  · rw [cmv_no2 h8]
    have g8 : (8 : Int) < (s.size : Int) := by omega
    go_enter Try.func24, Try.ntmps24
    go_wp2_with (fail)
    (go_at_call 61; refine (sContourValid_any s hs _).mono ?_; rintro e w1 ⟨rfl, hb1⟩)
    rw [hc]
    go_wp2
    go_ret
    exact ⟨rfl, hb1⟩
  have g8 : decide ((8 : Int) < (s.size : Int)) = false := by simp; omega
  by_cases hno : most < 0 ∨ 20 < most
  · rw [cmv_no3 hno]
    go_enter Try.func24, Try.ntmps24
    go_wp2_with (fail)
    (go_at_call 61; refine (sContourValid_any s hs _).mono ?_; rintro e w1 ⟨rfl, hb1⟩)
    rw [hc]
    go_wp2_with (fail)
    (go_at_call 67; refine (in_no most 0 20 hno _).mono ?_; rintro e wx ⟨rfl, rfl⟩)
    go_wp2
    go_ret
    exact ⟨rfl, hb1⟩
  obtain ⟨m, rfl⟩ : ∃ m : Nat, most = m := ⟨most.toNat, by omega⟩
  have hm : m ≤ 20 := by omega
  have hs8 : s.size ≤ 8 := by omega
  rw [cmv_yes hc hs8 hm]
  obtain ⟨i0, hi, hq0, hq1, hq2⟩ := info_parts infoIntN
  have hm0 : (0 : Int) ≤ (m : Int) := by omega
  have hm1 : (m : Int) ≤ 20 := by omega
  have mw : IntKind.i64.wrap ((m : Int) + 1) = ((m + 1 : Nat) : Int) := by rw [show (m : Int) + 1 = ((m + 1 : Nat) : Int) by omega]; exact IntWalk.i64_in _ (by omega)
  have HX : Hid (∀ k (h : k < s.size), s.data.toList.take (k + 1) = s.data.toList.take k ++ [s[k]]) := fun k h => take_ways s h
  have HL : Hid (∀ k, (s.data.toList.take k).length ≤ k) := fun k => take_len_b s k
  have HT := Lib.hid (take_all_b s)
  have HTB : Hid (∀ i, i ≤ 21 → 0 ≤ ctot (cfin m s.data.toList cone) i ∧ ctot (cfin m s.data.toList cone) i ≤ 794280046581) := fun i hi => tot_bd hm (by simpa using hs8) hi
  have HED : Hid (∀ a, 0 ≤ cfin m s.data.toList cone a ∧ cfin m s.data.toList cone a ≤ 37822859361) := fun a => cfin_one_bd hm (by simpa using hs8) a
  have HCN : Hid (ccnt m s.data.toList = ctot (cfin m s.data.toList cone) (m + 1)) := by show _ = ctot _ (m + 1); rfl
  have HSB : Hid (∀ k (h : k < s.size), s.extract k (k + 1) = ⟨#[s[k]]⟩) := fun k h => sub_one s k h
  rw [HCN.out]
  clear HCN
  generalize s.data.toList = l at HX HL HT HTB HED ⊢
  clear hno h8
  go_enter Try.func24, Try.ntmps24
  go_wp2_with (fail)
  (go_at_call 61; refine (sContourValid_any s hs _).mono ?_; rintro e w1 ⟨rfl, hb1⟩)
  rw [hc]
  go_wp2_with (fail)
  (go_at_call 67; refine (in_yes (m : Int) 0 20 hm0 hm1 _).mono ?_; rintro e wx ⟨rfl, rfl⟩)
  have HO0 := Lib.hid (OnInv.start (w := w) hb1)
  clear hb1 hc
  go_wp2
  go_loopw [5, 6] (fun v i wr => ∃ k : Nat, k ≤ m + 1 ∧ i = .int .i64 k ∧ OnInv w wr v k) (fun _ i _ => m + 1 - (intOf i).toNat)
  case atStart => exact ⟨0, Nat.zero_le _, rfl, HO0.out⟩
  case round =>
    obtain ⟨k, hk, rfl, hI⟩ := hrel
    clear HO0
    by_cases hlt : k ≤ m
    · have k1 : (k : Int) ≤ (m : Int) := by omega
      have k0 : (0 : Int) ≤ (k : Int) := by omega
      have hown := hI.1
      have hbs := hI.2.size
      have HI := Lib.hid hI
      clear hI
      go_wp2_with (at_builtin; refine wpList_append_own _ rfl _ _ 30 rfl w.heap.size 3 i0 (.int .i64 0) 1 8 Try.underlying30 hi hq0 hq1 hq2 rfl (by decide) _ _ _ rfl (hown.alloc _) ⟨wr.heap.size, 0, none⟩ 1 1 [.int .i64 1] rfl rfl onews onews_one (by unfold maxLen; omega) (by omega) (by simp; omega) ?_)
      intro v' w2 hown' hgrow _
      have HN := Lib.hid (HI.out.app hown' hgrow)
      clear hown' hgrow hown
      go_wp2
      go_roundw
      case rel => exact ⟨k + 1, by omega, by go_num, HN.out⟩
      case measure => simp [intOf]; omega
    have hke : k = m + 1 := by omega
    subst hke
    obtain ⟨B0, c0, rfl, hF0, hB0⟩ := hI.fr (by omega)
    have HI0 : Hid (FR wr B0 (m + 1) c0 (cfin m (l.take 0) cone) ∧ Below w.heap.size w wr) := ⟨by rw [List.take_zero]; exact hF0, hI.2⟩
    have hz0 : ¬ ((m : Int) + 1 ≤ (m : Int)) := by omega
    clear hI hF0 hB0 hlt
    go_wp2
    go_loopw [5, 7] (fun v i wr' => ∃ (k B c : Nat), k ≤ s.size ∧ i = .int .i64 k ∧ v = .slice (some ⟨B, 0, none⟩) (m + 1) c ∧ Hid (FR wr' B (m + 1) c (cfin m (l.take k) cone) ∧ Below w.heap.size w wr')) (fun _ i _ => s.size - (intOf i).toNat)
    case atStart => exact ⟨0, B0, c0, Nat.zero_le _, rfl, rfl, HI0.out⟩
    case round =>
      obtain ⟨k, B, c, hk, rfl, rfl, HK⟩ := hrel
      clear HI0
      by_cases hlt : k < s.size
      · have k0 : (0 : Int) ≤ (k : Int) := by omega
        have k1 : (k : Int) < (s.size : Int) := by omega
        have kw : IntKind.i64.wrap ((k : Int) + 1) = (k : Int) + 1 := IntWalk.i64_in _ (by omega)
        have hsub := HSB.out k hlt
        have k3 : (k : Int) + 1 ≤ (s.size : Int) := by omega
        have k5 : ((k : Int) + 1).toNat = k + 1 := by omega
        have k6 : (k : Int) ≤ (k : Int) + 1 := by omega
        have hl7 : (l.take k).length ≤ 7 := by have := HL.out k; omega
        have HBD : Hid (∀ b a, a ≤ 21 → 0 ≤ cpart s[k] (cfin m (l.take k) cone) b a ∧ cpart s[k] (cfin m (l.take k) cone) b a ≤ 794280046581) := fun b a ha => ea_bd hm (by omega) s[k] b a ha
        have HE9 : Hid (∀ a, 0 ≤ cfin m (l.take k) cone a ∧ cfin m (l.take k) cone a ≤ 37822859361) := fun a => cfin_one_bd hm (by omega) a
        have HDN : Hid (∀ (W : World) B', FR W B' (m + 1) (m + 1) (eaf s[k] (cfin m (l.take k) cone) (m + 1) 0) → FR W B' (m + 1) (m + 1) (cfin m (l.take (k + 1)) cone)) := fun W B' h => by rw [HX.out k hlt]; exact ea_done h
        have HKB := Lib.hid HK.out.2
        have hzB := HK.out.2.size
        have hBlt := HK.out.1.lt
        generalize cfin m (l.take k) cone = E at HK HBD HE9 HDN
        go_wp2_with (at_make; refine wpList_make_full _ rfl _ _ 30 rfl w.heap.size 3 i0 (.int .i64 0) 1 Try.underlying30 hi hq0 hq1 _ _ _ _ (m + 1) rfl rfl (Int.natCast_succ m).symm (Int.natCast_succ m).symm ?c1 ?c2 ?c3 ?_)
        case c1 => rw [hq2]; omega
        case c2 => unfold maxLen; omega
        case c3 => exact hzB
        intro w2 hown hg2
        have hf0 := FR.made hown
        have hbx : Below wr.heap.size wr w2 := ⟨hg2.os, hg2.tape, hg2.output, hg2.size, fun i hi => hg2.block i hi (fun e => by cases e)⟩
        have HQ0 : Hid (FR w2 wr.heap.size (m + 1) (m + 1) (eaf s[k] E 0 0) ∧ FR w2 B (m + 1) c E ∧ Below w.heap.size w w2) := ⟨ea_start s[k] E hf0, HK.out.1.below hbx, bl_step HKB.out hbx⟩
        obtain ⟨G, hG⟩ : ∃ G, wr.heap.size = G := ⟨_, rfl⟩
        rw [hG] at HQ0 hzB hBlt ⊢
        clear hown hg2 hf0 hbx hG HK
        go_wp2
        go_loopw [9] (fun i wr' => ∃ a : Nat, a ≤ m + 1 ∧ i = .int .i64 a ∧ Hid (FR wr' G (m + 1) (m + 1) (eaf s[k] E a 0) ∧ FR wr' B (m + 1) c E ∧ Below w.heap.size w wr')) (fun i _ => m + 1 - (intOf i).toNat)
        case atStart => exact ⟨0, Nat.zero_le _, rfl, HQ0.out⟩
        case round =>
          obtain ⟨a, ha, rfl, HR⟩ := hrel
          clear HQ0
          by_cases hla : a ≤ m
          · have a0 : (0 : Int) ≤ (a : Int) := by omega
            have a1 : (a : Int) ≤ (m : Int) := by omega
            have a2 : (a : Int) < (m : Int) + 1 := by omega
            have x0 := HE9.out a
            go_wp2
            go_loopw [10] (fun i wr' => ∃ b : Nat, b ≤ m + 1 ∧ i = .int .i64 b ∧ Hid (FR wr' G (m + 1) (m + 1) (eaf s[k] E a b) ∧ FR wr' B (m + 1) c E ∧ Below w.heap.size w wr')) (fun i _ => m + 1 - (intOf i).toNat)
            case atStart => exact ⟨0, Nat.zero_le _, rfl, HR.out⟩
            case round =>
              obtain ⟨b, hb, rfl, HS⟩ := hrel
              by_cases hlb : b ≤ m
              · have b0 : (0 : Int) ≤ (b : Int) := by omega
                have b1 : (b : Int) ≤ (m : Int) := by omega
                have b2 : (b : Int) < (m : Int) + 1 := by omega
                have hws := way_same (c := wy a b) (d := s[k])
                by_cases hw : wy a b = s[k]
                · have t1 : ((⟨#[wy a b]⟩ : ByteArray).toList == (⟨#[s[k]]⟩ : ByteArray).toList) = true := by rw [hws, hw]; simp
                  have t2 : (wy a b == s[k]) = true := by simpa using hw
                  have t3 : decide (wy a b = s[k]) = true := by simpa using hw
                  have c0 := HS.out.1.cell (p := b) (by omega)
                  rw [eaf_at] at c0
                  have cf := HS.out.1.free
                  have e0 := HS.out.2.1.cell (p := a) (by omega)
                  have y0 := HBD.out b a (by omega)
                  have HN : Hid (∀ W : World, W.heap[G]? = wr.heap[G]? → W.heap[B]? = wr.heap[B]? → Below w.heap.size w W → FR (W.setCell ⟨G, b, none⟩ (.int .i64 (cpart s[k] E b a + E a))) G (m + 1) (m + 1) (eaf s[k] E a (b + 1)) ∧ FR (W.setCell ⟨G, b, none⟩ (.int .i64 (cpart s[k] E b a + E a))) B (m + 1) c E ∧ Below w.heap.size w (W.setCell ⟨G, b, none⟩ (.int .i64 (cpart s[k] E b a + E a)))) := by
                    intro W h1 h2 h3
                    exact ⟨ea_hit (HS.out.1.keep h1) (by omega) hw, (HS.out.2.1.keep h2).other (by omega), h3.setCell hzB _⟩
                  have HBW := Lib.hid HS.out.2.2
                  clear hws hw HS
                  generalize E a = x at x0 e0 HN
                  generalize cpart s[k] E b a = y at c0 y0 HN
                  have s1 : IntKind.i64.wrap (y + x) = y + x := IntWalk.i64_in _ (by omega)
                  have KW := Lib.hid (fun W => l3Way_nat a b W)
                  generalize wy a b = wc at t1 t2 t3 KW
                  go_wp2
                  go_quiet ((go_at_call 68; exact Calls.quiet_of_same ((KW.out _).mono fun e w' ⟨a, b⟩ => ⟨a, b.symm⟩)))
                  go_wp2
                  go_region
                  all_goals
                    go_wp2
                    go_roundw
                    case rel => exact ⟨b + 1, by omega, by go_num, by first | exact HN.out wr rfl rfl HBW.out | exact HN.out wr.drew rfl rfl HBW.out.drew | exact HN.out wr.drew.drew rfl rfl HBW.out.drew.drew | exact HN.out _ rfl rfl ⟨HBW.out.os, HBW.out.tape, HBW.out.output, HBW.out.size, HBW.out.block⟩⟩
                    case measure => simp [intOf]; omega
                · have t1 : ((⟨#[wy a b]⟩ : ByteArray).toList == (⟨#[s[k]]⟩ : ByteArray).toList) = false := by rw [hws]; simpa using hw
                  have t2 : (wy a b == s[k]) = false := by simpa using hw
                  have t3 : decide (wy a b = s[k]) = false := by simpa using hw
                  have HN : Hid (FR wr G (m + 1) (m + 1) (eaf s[k] E a (b + 1)) ∧ FR wr B (m + 1) c E ∧ Below w.heap.size w wr) := ⟨ea_miss HS.out.1 hw, HS.out.2⟩
                  clear hws hw HS
                  have KW := Lib.hid (fun W => l3Way_nat a b W)
                  generalize wy a b = wc at t1 t2 t3 KW
                  go_wp2
                  go_quiet ((go_at_call 68; exact Calls.quiet_of_same ((KW.out _).mono fun e w' ⟨a, b⟩ => ⟨a, b.symm⟩)))
                  go_wp2
                  go_roundw
                  case rel => exact ⟨b + 1, by omega, by go_num, by first | exact HN.out | exact ⟨HN.out.1, HN.out.2.1, HN.out.2.2.drew⟩ | exact ⟨HN.out.1, HN.out.2.1, ⟨HN.out.2.2.os, HN.out.2.2.tape, HN.out.2.2.output, HN.out.2.2.size, HN.out.2.2.block⟩⟩⟩
                  case measure => simp [intOf]; omega
              · have hbe : b = m + 1 := by omega
                subst hbe
                have HN : Hid (FR wr G (m + 1) (m + 1) (eaf s[k] E (a + 1) 0) ∧ FR wr B (m + 1) c E ∧ Below w.heap.size w wr) := ⟨ea_row HS.out.1, HS.out.2⟩
                have hz1 : ¬ ((m : Int) + 1 ≤ (m : Int)) := by omega
                go_wp2
                go_roundw
                case rel => exact ⟨a + 1, by omega, by go_num, HN.out⟩
                case measure => simp [intOf]; omega
          · have hae : a = m + 1 := by omega
            subst hae
            have HN : Hid (FR wr G (m + 1) (m + 1) (cfin m (l.take (k + 1)) cone) ∧ Below w.heap.size w wr) := ⟨HDN.out _ _ HR.out.1, HR.out.2.2⟩
            have hz1 : ¬ ((m : Int) + 1 ≤ (m : Int)) := by omega
            go_wp2
            go_roundw
            case rel => exact ⟨k + 1, G, m + 1, by omega, by go_num, rfl, HN.out⟩
            case measure => simp [intOf]; omega
      · have hke : k = s.size := by omega
        subst hke
        rw [HT.out] at HK
        obtain ⟨F, hF⟩ : ∃ F, cfin m l cone = F := ⟨_, rfl⟩
        rw [hF] at HK HTB HED
        have HFE := Lib.hid hF
        clear hF
        go_wp2
        go_loopw [11, 12] (fun q i wr' => ∃ j : Nat, j ≤ m + 1 ∧ i = .int .i64 j ∧ q = .int .i64 (ctot F j) ∧ Hid (FR wr' B (m + 1) c F ∧ Below w.heap.size w wr')) (fun _ i _ => m + 1 - (intOf i).toNat)
        case atStart => exact ⟨0, Nat.zero_le _, rfl, rfl, HK.out⟩
        case round =>
          obtain ⟨j, hj, rfl, rfl, HQ⟩ := hrel
          by_cases hlj : j ≤ m
          · have j0 : (0 : Int) ≤ (j : Int) := by omega
            have j1 : (j : Int) ≤ (m : Int) := by omega
            have j2 : (j : Int) < (m : Int) + 1 := by omega
            have e0 := HQ.out.1.cell (p := j) (by omega)
            have b0 := HTB.out j (by omega)
            have b1 := HED.out j
            have HS : Hid (ctot F (j + 1) = ctot F j + F j) := rfl
            generalize ctot F j = x at b0 HS
            generalize F j = y at e0 b1 HS
            have s1 : IntKind.i64.wrap (x + y) = x + y := IntWalk.i64_in _ (by omega)
            go_wp2
            go_roundw
            case rel => exact ⟨j + 1, by omega, by go_num, by rw [HS.out], HQ.out⟩
            case measure => simp [intOf]; omega
          · have hje : j = m + 1 := by omega
            subst hje
            have HB := Lib.hid HQ.out.2
            have hz1 : ¬ ((m : Int) + 1 ≤ (m : Int)) := by omega
            clear HQ
            go_wp2
            go_ret
            exact ⟨by rw [HFE.out]; first | rfl | simp, HB.out⟩
end Go.Proofs.Ytjodcaeohkjlnab
