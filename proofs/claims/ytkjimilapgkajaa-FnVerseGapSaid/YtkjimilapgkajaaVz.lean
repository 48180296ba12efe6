/-
  The greatest gap of a verse, in both programs.
-/
import Derived.Test.YtkjimilapgkajaaVx
import Derived.Test.YtkjimilapgkajaaVgm
namespace Go.Proofs.Ytkjimilapgkajaa
open Go.RowKit
set_option maxRecDepth 100000
set_option linter.unusedVariables false

theorem gap_pred (w : World) : PredAt Try.prog 82 #[] encR gsep w := fun W r _ => by
  unfold FnGives
  have e : ((r : Int) != 120) = gsep r := by
    unfold gsep
    rw [Bool.eq_iff_iff, bne_iff_ne, bne_iff_ne]; omega
  go_enter Try.func82, Try.ntmps82
  go_wp2
  go_ret
  exact ⟨rfl, 0, rfl⟩

set_option maxHeartbeats 4000000 in
theorem sVerseGap_any (s : ByteArray) (hs : s.size ≤ 1048577) (w : World) :
    Calls Try.prog 36 #[.string s] w fun e w' => e = .returned (.int .i64 (vgap s)) ∧ Below w.heap.size w w' := by
  have KV := Lib.hid (fun W => sVerseValid_any s (by omega) W)
  cases hv : vvl s.data.toList
  · rw [vgap_no hv]
    rw [hv] at KV
    clear hv
    go_enter Try.func36, Try.ntmps36
    go_wp2_with (fail)
    (go_at_call 25; refine (KV.out _).mono ?_; rintro e w1 ⟨rfl, hb1⟩)
    go_wp2
    go_ret
    exact ⟨rfl, hb1⟩
  · rw [vgap_yes hv]
    rw [hv] at KV
    clear hv
    go_enter Try.func36, Try.ntmps36
    go_wp2_with (fail)
    (go_at_call 25; refine (KV.out _).mono ?_; rintro e w1 ⟨rfl, hb1⟩)
    have HB := Lib.hid hb1
    clear hb1
    go_wp2
    go_loopw [3, 4, 5] (fun m n i wr => ∃ k a b : Nat, k ≤ s.size ∧ i = .int .i64 k ∧ n = .int .i64 a ∧ m = .int .i64 b ∧ a ≤ k ∧ b ≤ k ∧ Hid (gst s.data.toList k = (a, b)) ∧ Below w.heap.size w wr) (fun _ _ i _ => s.size - (intOf i).toNat)
    case atStart => exact ⟨0, 0, 0, Nat.zero_le _, rfl, rfl, rfl, Nat.le_refl _, Nat.le_refl _, rfl, HB.out⟩
    case round =>
      obtain ⟨k, a, b, hk, rfl, rfl, rfl, ha, hb', hg, hb⟩ := hrel
      by_cases hlt : k < s.size
      · have k1 : (k : Int) < (s.size : Int) := by omega
        have k0 : (0 : Int) ≤ (k : Int) := by omega
        have hx := gst_succ (at_list s k hlt)
        rw [hg.out] at hx
        by_cases hc : s[k].toNat = 120
        · have h1 : ((s[k].toNat : Int) != 120) = false := by rw [hc]; rfl
          have hcu : s[k] = 120 := UInt8.toNat_inj.1 hc
          have HX : Hid (gst s.data.toList (k + 1) = (a + 1, max b (a + 1))) := by
            show _ = _
            rw [hx, hcu]; rfl
          clear hx hc hcu hg
          go_wp2
          all_goals
            go_roundw
            case rel => exact ⟨k + 1, a + 1, max b (a + 1), by omega, by go_num, by go_num, by first | go_num | (congr 1; omega), by omega, by omega, HX, hb⟩
            case measure => simp [intOf]; omega
        · have h1 : ((s[k].toNat : Int) != 120) = true := by rw [bne_iff_ne]; omega
          have hcu : s[k] ≠ 120 := fun e => hc (by rw [e]; rfl)
          have HX : Hid (gst s.data.toList (k + 1) = (0, max b 0)) := by
            show _ = _
            rw [hx]; unfold gstep; rw [if_neg hcu]
          clear hx hc hcu hg
          go_wp2
          all_goals
            go_roundw
            case rel => exact ⟨k + 1, 0, max b 0, by omega, by go_num, by first | rfl | go_num, by first | go_num | (congr 1; omega), by omega, by omega, HX, hb⟩
            case measure => simp [intOf]; omega
      · have hke : k = s.size := by omega
        subst hke
        have HF : Hid ((gst s.data.toList s.size).2 = b) := by show _ = _; rw [hg.out]
        clear hg
        go_wp2
        go_ret
        exact ⟨by rw [HF.out]; rfl, hb⟩

set_option maxHeartbeats 4000000 in
theorem verseGap_any (s : ByteArray) (hs : s.size ≤ 1048577) (w : World) (h : MaxAt w) :
    Calls Try.prog 37 #[.string s] w fun e w' => e = .returned (.int .i64 (vgap s)) ∧ Below w.heap.size w w' := by
  have KV := Lib.hid (verseValid_any s hs w h)
  clear h
  cases hv : vvl s.data.toList
  · rw [vgap_no hv]
    rw [hv] at KV
    clear hv
    go_enter Try.func37, Try.ntmps37
    go_wp2_with (fail)
    (go_at_call 26; refine (KV.out).mono ?_; rintro e w1 ⟨rfl, hb1⟩)
    go_wp2
    go_ret
    exact ⟨rfl, hb1⟩
  · have hszs : s.size ≤ 21 := by
      have := vvl_len hv
      have h2 := (vvl_in hv).2.2.1
      have h3 : s.data.toList.length = s.size := by simp
      omega
    have HE := Lib.hid (verse_gap hv)
    rw [hv] at KV
    rw [HE.out]
    have KF := Lib.hid (fun W => Try.strings_FieldsFunc 82 #[] (enters_of Try.func82 (by kernel_rfl) rfl) gsep s W (by omega) (gap_pred W))
    have hps : ∀ x, x ∈ Lib.goFieldsP gsep s → x.size ≤ 21 := by
      intro x hx
      unfold Lib.goFieldsP at hx
      obtain ⟨y, _, rfl⟩ := List.mem_map.1 hx
      rw [ByteArray.size_extract]; omega
    have HP := Lib.hid hps
    generalize Lib.goFieldsP gsep s = L at KF HP ⊢
    obtain ⟨n, hn⟩ : ∃ n, L.length = n := ⟨_, rfl⟩
    rw [hn] at KF ⊢
    have HN := Lib.hid hn
    clear hv hps HE hn
    go_enter Try.func37, Try.ntmps37
    go_wp2_with (fail)
    (go_at_call 26; refine (KV.out).mono ?_; rintro e w1 ⟨rfl, hb1⟩)
    go_wp2_with (fail)
    (go_at_call 81; refine (KF.out _).mono ?_; rintro e w2 ⟨A, rfl, hA, hown, hb2⟩)
    have hn9 : n ≤ 9223372036854775807 := by
      rcases hown.2 with ⟨h0, _⟩ | ⟨g', cap, cur, _, _, _, hc, hmx, _⟩
      · cases h0
      · unfold maxLen at hmx; omega
    have HO := Lib.hid hown
    have HB := Lib.hid (bl_step hb1 hb2)
    clear hown hb1 hb2
    go_wp2
    go_loopw [4, 14] (fun m i wr => ∃ k b : Nat, k ≤ n ∧ i = .int .i64 k ∧ m = .int .i64 b ∧ b ≤ 21 ∧ Hid (mxp L k = b) ∧ w2 = wr) (fun _ i _ => n - (intOf i).toNat)
    case atStart => exact ⟨0, 0, Nat.zero_le _, rfl, rfl, by omega, rfl, rfl⟩
    case round =>
      obtain ⟨k, b, hk, rfl, rfl, hb', hg, rfl⟩ := hrel
      by_cases hlt : k < n
      · have k1 : (k : Int) < (n : Int) := by omega
        have k0 : (0 : Int) ≤ (k : Int) := by omega
        have hlL : k < L.length := by rw [HN.out]; exact hlt
        have hx := List.getElem?_eq_getElem hlL
        have e1 := HO.out.cells (g := A) rfl k (.string L[k]) (by rw [List.getElem?_map, hx]; rfl)
        simp only [Go.WideShapes.add_plain, Nat.zero_add] at e1
        have HX := Lib.hid (mxp_succ hx)
        have hz := HP.out _ (List.getElem_mem hlL)
        clear hx
        generalize L[k] = x at e1 HX hz
        clear hlL
        have HX2 : Hid (mxp L (k + 1) = max b x.size) := by show _ = _; rw [HX.out, hg.out]
        clear HX hg
        go_wp2
        all_goals
          go_roundw
          case rel => exact ⟨k + 1, max b x.size, by omega, by go_num, by first | go_num | (congr 1; omega), by omega, HX2, by first | rfl | trivial⟩
          case measure => simp [intOf]; omega
      · have hke : k = n := by omega
        subst hke
        go_wp2
        go_ret
        exact ⟨by rw [hg.out]; rfl, HB.out⟩
end Go.Proofs.Ytkjimilapgkajaa
