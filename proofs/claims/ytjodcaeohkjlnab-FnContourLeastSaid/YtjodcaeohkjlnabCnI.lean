/-
  ContourMany in the program: how many lists of steps have a contour.
-/
import Derived.Test.YtjodcaeohkjlnabRep
import Derived.Test.YtjodcaeohkjlnabCv2
namespace Go.Proofs.Ytjodcaeohkjlnab
open Go.RowKit
set_option maxRecDepth 100000
set_option linter.unusedVariables false

set_option maxHeartbeats 8000000 in
theorem contourMany_any (s : ByteArray) (most : Int) (w : World) :
    Calls Try.prog 22 #[.string s, .int .i64 most] w fun e w' => e = .returned (.int .i64 (cmv s most)) ∧ Below w.heap.size w w' := by
  by_cases hc : cv s = false
  · rw [cmv_no1 hc]
    go_enter Try.func22, Try.ntmps22
    go_wp2_with (fail)
    (go_at_call 59; refine (contourValid_any s _).mono ?_; rintro e w1 ⟨rfl, hb1⟩)
    rw [hc]
    go_wp2
    go_ret
    exact ⟨rfl, hb1⟩
  rw [Bool.not_eq_false] at hc
  by_cases h8 : 8 < s.size
  · rw [cmv_no2 h8]
    have g8 : (8 : Int) < (s.size : Int) := by omega
    go_enter Try.func22, Try.ntmps22
    go_wp2_with (fail)
    (go_at_call 59; refine (contourValid_any s _).mono ?_; rintro e w1 ⟨rfl, hb1⟩)
    rw [hc]
    go_wp2
    go_ret
    exact ⟨rfl, hb1⟩
  have g8 : decide ((8 : Int) < (s.size : Int)) = false := by simp; omega
  by_cases h0 : most < 0
  · rw [cmv_no3 (.inl h0)]
    go_enter Try.func22, Try.ntmps22
    go_wp2_with (fail)
    (go_at_call 59; refine (contourValid_any s _).mono ?_; rintro e w1 ⟨rfl, hb1⟩)
    rw [hc]
    go_wp2
    go_ret
    exact ⟨rfl, hb1⟩
  by_cases h20 : 20 < most
  · rw [cmv_no3 (.inr h20)]
    have g0 : decide (most < 0) = false := by simp; omega
    go_enter Try.func22, Try.ntmps22
    go_wp2_with (fail)
    (go_at_call 59; refine (contourValid_any s _).mono ?_; rintro e w1 ⟨rfl, hb1⟩)
    rw [hc]
    go_wp2
    go_ret
    exact ⟨rfl, hb1⟩
  obtain ⟨m, rfl⟩ : ∃ m : Nat, most = m := ⟨most.toNat, by omega⟩
  have hm : m ≤ 20 := by omega
  have hs8 : s.size ≤ 8 := by omega
  have g0 : decide ((m : Int) < 0) = false := by simp
  have g20 : decide ((20 : Int) < (m : Int)) = false := by simp; omega
  rw [cmv_yes hc hs8 hm]
  obtain ⟨N, hN⟩ : ∃ N, m + 1 = N := ⟨_, rfl⟩
  have hN1 : 1 ≤ N := by omega
  have hN9 : N ≤ 21 := by omega
  have m0 : IntKind.i64.wrap ((m : Int) + 1) = (N : Int) := by rw [show (m : Int) + 1 = (N : Int) by omega]; exact IntWalk.i64_in _ (by omega)
  have KE := Lib.hid (fun B l way hl W h => endingAfter_N hN hm B l way hl W h)
  have HX : Hid (∀ k (h : k < s.size), s.data.toList.take (k + 1) = s.data.toList.take k ++ [s[k]]) := fun k h => take_ways s h
  have HL : Hid (∀ k, (s.data.toList.take k).length ≤ k) := fun k => take_len_b s k
  have HT := Lib.hid (take_all_b s)
  have HCN : Hid (ccnt m s.data.toList = ctot (cfin m s.data.toList cone) N) := by show _ = ctot _ N; subst hN; rfl
  have HTB : Hid (∀ i, i ≤ 21 → 0 ≤ ctot (cfin m s.data.toList cone) i ∧ ctot (cfin m s.data.toList cone) i ≤ 794280046581) := fun i hi => tot_bd hm (by simpa using hs8) hi
  have HED : Hid (∀ a, 0 ≤ cfin m s.data.toList cone a ∧ cfin m s.data.toList cone a ≤ 37822859361) := fun a => cfin_one_bd hm (by simpa using hs8) a
  rw [HCN.out]
  clear HCN
  generalize s.data.toList = l at HX HL HT HTB HED ⊢
  clear hN h0 h20 h8
  go_enter Try.func22, Try.ntmps22
  go_wp2_with (fail)
  (go_at_call 59; refine (contourValid_any s _).mono ?_; rintro e w1 ⟨rfl, hb1⟩)
  rw [hc]
  go_wp2_with (fail)
  (go_at_call 64; refine (repeat_one w1.heap.size N hN1 hN9 _ (by go_simp)).mono ?_; rintro e w2 ⟨B, rfl, hF, hB, hb2⟩)
  have hbw2 : Below w.heap.size w w2 := bl_step (hb1.alloc hb1.size _) hb2
  have HI0 : Hid (FR w2 B N N (cfin m (l.take 0) cone) ∧ Below w.heap.size w w2) := ⟨by rw [List.take_zero]; exact hF, hbw2⟩
  clear hF hB hb2 hbw2 hb1 hc
  go_wp2
  go_loopw [5, 32] (fun v i wr => ∃ (k B : Nat), k ≤ s.size ∧ i = .int .i64 k ∧ v = .slice (some ⟨B, 0, none⟩) N N ∧ Hid (FR wr B N N (cfin m (l.take k) cone) ∧ Below w.heap.size w wr)) (fun _ i _ => s.size - (intOf i).toNat)
  case atStart => exact ⟨0, B, Nat.zero_le _, rfl, rfl, HI0.out⟩
  case round =>
    obtain ⟨k, B, hk, rfl, rfl, HK⟩ := hrel
    clear HI0
    by_cases hlt : k < s.size
    · have k0 : (0 : Int) ≤ (k : Int) := by omega
      have k1 : (k : Int) < (s.size : Int) := by omega
      go_wp2_with (fail)
      (go_at_call 65; refine (KE.out B (l.take k) s[k] (by have := HL.out k; omega) _ HK.out.1).mono ?_; rintro e w3 ⟨B', rfl, hF', hB', hb3⟩)
      have HN : Hid (FR w3 B' N N (cfin m (l.take (k + 1)) cone) ∧ Below w.heap.size w w3) := ⟨by rw [HX.out k hlt]; exact hF', bl_step HK.out.2 hb3⟩
      clear hF' hB' hb3
      go_wp2
      go_roundw
      case rel => exact ⟨k + 1, B', by omega, by go_num, rfl, HN.out⟩
      case measure => simp [intOf]; omega
    · have hke : k = s.size := by omega
      subst hke
      rw [HT.out] at HK
      obtain ⟨G, hG⟩ : ∃ G, cfin m l cone = G := ⟨_, rfl⟩
      rw [hG] at HK HTB HED
      have HFE := Lib.hid hG
      clear hG
      go_wp2
      go_loopw [7, 43] (fun q i wr' => ∃ j : Nat, j ≤ N ∧ i = .int .i64 j ∧ q = .int .i64 (ctot G j) ∧ Hid (FR wr' B N N G ∧ Below w.heap.size w wr')) (fun _ i _ => N - (intOf i).toNat)
      case atStart => exact ⟨0, Nat.zero_le _, rfl, rfl, HK.out⟩
      case round =>
        obtain ⟨j, hj, rfl, rfl, HQ⟩ := hrel
        by_cases hlj : j < N
        · have j0 : (0 : Int) ≤ (j : Int) := by omega
          have j1 : (j : Int) < (N : Int) := by omega
          have e0 := HQ.out.1.cell hlj
          have b0 := HTB.out j (by omega)
          have b1 := HED.out j
          have HS : Hid (ctot G (j + 1) = ctot G j + G j) := rfl
          generalize ctot G j = x at b0 HS
          generalize G j = y at e0 b1 HS
          have s1 : IntKind.i64.wrap (x + y) = x + y := IntWalk.i64_in _ (by omega)
          go_wp2
          go_roundw
          case rel => exact ⟨j + 1, by omega, by go_num, by rw [HS.out], HQ.out⟩
          case measure => simp [intOf]; omega
        · have hje : j = N := by omega
          subst hje
          have HB := Lib.hid HQ.out.2
          clear HQ
          go_wp2
          go_ret
          exact ⟨by rw [HFE.out]; first | rfl | simp, HB.out⟩
end Go.Proofs.Ytjodcaeohkjlnab
