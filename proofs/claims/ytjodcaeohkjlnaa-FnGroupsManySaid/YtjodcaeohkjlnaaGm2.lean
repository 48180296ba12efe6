/-
  GroupsMany in both programs.
-/
import Derived.Test.YtjodcaeohkjlnaaGm
import Derived.Test.YtjodcaeohkjlnaaTones
import Derived.IntWalk
namespace Go.Proofs.Ytjodcaeohkjlnaa
open Go.RowKit
set_option maxRecDepth 100000
set_option linter.unusedVariables false

theorem gm_min (t : Nat) (h : 1 ≤ t) : min 4 t = 1 ∧ t = 1 ∨ min 4 t = 2 ∧ t = 2 ∨ min 4 t = 3 ∧ t = 3 ∨ min 4 t = 4 ∧ 4 ≤ t := by omega

set_option maxHeartbeats 4000000 in
theorem groupsMany_any (n : Int) (w : World) :
    Calls Try.prog 33 #[.int .i64 n] w fun e w' => e = .returned (.int .i64 (gmv n)) ∧ Below w.heap.size w w' := by
  by_cases h0 : n < 0
  · rw [gmv_no (.inl h0)]
    go_enter Try.func33, Try.ntmps33
    go_wp2
    go_ret
    exact ⟨rfl, Below.refl _ _⟩
  by_cases h1 : 24 < n
  · rw [gmv_no (.inr h1)]
    go_enter Try.func33, Try.ntmps33
    go_wp2
    go_ret
    exact ⟨rfl, Below.refl _ _⟩
  obtain ⟨m, rfl⟩ : ∃ m : Nat, n = m := ⟨n.toNat, by omega⟩
  have hm : m ≤ 24 := by omega
  rw [gmv_yes hm]
  obtain ⟨i0, hi, hq0, hq1, hq2⟩ := info_parts infoIntG
  go_enter Try.func33, Try.ntmps33
  go_wp2
  go_loopw [3, 4] (fun v i wr => ∃ t : Nat, 1 ≤ t ∧ t ≤ m + 1 ∧ i = .int .i64 t ∧ GmInv w wr v t) (fun _ i _ => m + 1 - (intOf i).toNat)
  case atStart => exact ⟨1, by omega, by omega, rfl, GmInv.start w⟩
  case round =>
    obtain ⟨t, ht0, ht1, rfl, hinv⟩ := hrel
    obtain ⟨g, cap, rfl, hcap, hmax, hcell⟩ := hinv.form ht0 (by omega)
    by_cases hlt : t ≤ m
    · have k1 : (t : Int) ≤ (m : Int) := by omega
      have HI := Lib.hid hinv
      have HC := Lib.hid hcell
      have HS := Lib.hid (gm_all t (by omega) ht0)
      clear hinv hcell
      go_wp2
      go_loopw [5, 6] (fun s d wr' => ∃ c : Nat, c ≤ min 4 t ∧ d = .int .i64 ((c : Int) + 1) ∧ s = .int .i64 (gsum t c) ∧ GmInv w wr' (.slice (some ⟨g, 0, none⟩) t cap) t) (fun _ d _ => 5 - (intOf d).toNat)
      case atStart => exact ⟨0, Nat.zero_le _, rfl, rfl, HI.out⟩
      case round =>
        obtain ⟨c, hc, rfl, rfl, hinv⟩ := hrel
        have HI2 := Lib.hid hinv
        clear hinv
        by_cases hlc : c < min 4 t
        · have k2 : (c : Int) + 1 ≤ 4 := by omega
          have k3 : (c : Int) + 1 ≤ (t : Int) := by omega
          obtain ⟨j, hj⟩ : ∃ j : Nat, t = j + (c + 1) := ⟨t - (c + 1), by omega⟩
          have cj := (HI2.out.form ht0 (by omega))
          obtain ⟨g', cap', hv, _, _, hcell⟩ := cj
          obtain ⟨rfl, rfl⟩ : g = g' ∧ cap = cap' := by simp at hv; exact hv
          have cj := hcell j (by omega)
          have HN : Hid (gsum t (c + 1) = gsum t c + gmAt j) := by rw [gsum_succ]; congr 2; omega
          have b1 := gsum_bd t (by omega) c (by omega)
          have b2 := gmAt_bd j (by omega)
          have w1 : (t : Int) - ((c : Int) + 1) = (j : Int) := by omega
          have w2 : IntKind.i64.wrap (j : Int) = (j : Int) := IntWalk.i64_in _ (by omega)
          have w3 : IntKind.i64.wrap (gsum t c + gmAt j) = gsum t c + gmAt j := IntWalk.i64_in _ (by omega)
          have k4 : (j : Int) < (t : Int) := by omega
          have k5 : (0 : Int) ≤ (j : Int) := by omega
          clear hcell hv hj b1 b2
          generalize gsum t c = x at HN w3
          generalize gmAt j = y at HN w3 cj
          go_wp2
          all_goals
            go_roundw
            case rel => exact ⟨c + 1, by omega, by go_num, by rw [HN.out], HI2.out⟩
            case measure => simp [intOf]; omega
        · have hce : c = min 4 t := by omega
          have k2 : (4 : Int) < (c : Int) + 1 ∧ (4 : Int) ≤ (t : Int) ∨ (t : Int) < (c : Int) + 1 ∧ (t : Int) < 4 := by omega
          have HE : Hid (gsum t c = gmAt t) := by rw [hce]; exact HS.out
          clear hce hlc
          generalize gsum t c = y at HE
          have hown := HI2.out.1
          have hbw := HI2.out.2
          rcases k2 with ⟨k2, k3⟩ | ⟨k2, k3⟩
          all_goals
            go_wp2_with (at_builtin; refine wpList_append_own _ rfl _ _ 25 rfl w.heap.size 3 i0 (.int .i64 0) 1 8 Try.underlying25 hi hq0 hq1 hq2 rfl (by decide) _ _ _ rfl (hown.alloc _) ⟨_, 0, none⟩ 1 1 [.int .i64 y] rfl rfl gnews gnews_one (by unfold maxLen; omega) (by omega) (by have := hbw.size; simp; omega) ?_)
            intro v' w2 hown' hgrow _
            have HI3 : Hid (GmInv w w2 v' (t + 1)) := ⟨by rw [gm_take t (by omega), ← HE.out, List.map_take]; exact hown', (hbw.alloc hbw.size _).grown hgrow (by have := hbw.size; simp; omega) (fun k hk => (hown.lt k hk).1)⟩
            clear hown' hgrow hown hbw
            go_wp2
            go_roundw
            case rel => exact ⟨t + 1, by omega, by omega, by go_num, HI3.out⟩
            case measure => simp [intOf]; omega
    · have ht : t = m + 1 := by omega
      have cm := hcell m (by omega)
      have hbw := hinv.2
      have k1 : (m : Int) < (t : Int) := by omega
      have k0 : (0 : Int) ≤ (m : Int) := by omega
      clear hcell hinv
      go_wp2
      go_ret
      exact ⟨rfl, hbw⟩

set_option maxHeartbeats 4000000 in
theorem sGroupsMany_any (n : Int) (w : World) :
    Calls Try.prog 32 #[.int .i64 n] w fun e w' => e = .returned (.int .i64 (gmv n)) ∧ Below w.heap.size w w' := by
  by_cases h0 : n < 0 ∨ 24 < n
  · rw [gmv_no h0]
    go_enter Try.func32, Try.ntmps32
    go_wp2_with (fail)
    (go_at_call 54; refine (in_no n 0 24 h0 _).mono ?_; rintro e wx ⟨rfl, rfl⟩)
    go_wp2
    go_ret
    exact ⟨rfl, Below.refl _ _⟩
  obtain ⟨m, rfl⟩ : ∃ m : Nat, n = m := ⟨n.toNat, by omega⟩
  have hm : m ≤ 24 := by omega
  rw [gmv_yes hm]
  obtain ⟨i0, hi, hq0, hq1, hq2⟩ := info_parts infoIntG
  go_enter Try.func32, Try.ntmps32
  go_wp2_with (fail)
  (go_at_call 54; refine (in_yes (m : Int) 0 24 (by omega) (by omega) _).mono ?_; rintro e wx ⟨rfl, rfl⟩)
  go_wp2
  go_loopw [3, 4] (fun v i wr => ∃ t : Nat, 1 ≤ t ∧ t ≤ m + 1 ∧ i = .int .i64 t ∧ GmInv w wr v t) (fun _ i _ => m + 1 - (intOf i).toNat)
  case atStart => exact ⟨1, by omega, by omega, rfl, GmInv.start w⟩
  case round =>
    obtain ⟨t, ht0, ht1, rfl, hinv⟩ := hrel
    obtain ⟨g, cap, rfl, hcap, hmax, hcell⟩ := hinv.form ht0 (by omega)
    by_cases hlt : t ≤ m
    · have k1 : (t : Int) ≤ (m : Int) := by omega
      have HI := Lib.hid hinv
      have HC := Lib.hid hcell
      have HS := Lib.hid (gm_all t (by omega) ht0)
      clear hinv hcell
      go_wp2
      go_loopw [5, 6] (fun s d wr' => ∃ c : Nat, c ≤ min 4 t ∧ d = .int .i64 ((c : Int) + 1) ∧ s = .int .i64 (gsum t c) ∧ GmInv w wr' (.slice (some ⟨g, 0, none⟩) t cap) t) (fun _ d _ => 5 - (intOf d).toNat)
      case atStart => exact ⟨0, Nat.zero_le _, rfl, rfl, HI.out⟩
      case round =>
        obtain ⟨c, hc, rfl, rfl, hinv⟩ := hrel
        have HI2 := Lib.hid hinv
        clear hinv
        by_cases hlc : c < min 4 t
        · have k2 : (c : Int) + 1 ≤ 4 := by omega
          have k3 : (c : Int) + 1 ≤ (t : Int) := by omega
          obtain ⟨j, hj⟩ : ∃ j : Nat, t = j + (c + 1) := ⟨t - (c + 1), by omega⟩
          have cj := (HI2.out.form ht0 (by omega))
          obtain ⟨g', cap', hv, _, _, hcell⟩ := cj
          obtain ⟨rfl, rfl⟩ : g = g' ∧ cap = cap' := by simp at hv; exact hv
          have cj := hcell j (by omega)
          have HN : Hid (gsum t (c + 1) = gsum t c + gmAt j) := by rw [gsum_succ]; congr 2; omega
          have b1 := gsum_bd t (by omega) c (by omega)
          have b2 := gmAt_bd j (by omega)
          have w1 : (t : Int) - ((c : Int) + 1) = (j : Int) := by omega
          have w2 : IntKind.i64.wrap (j : Int) = (j : Int) := IntWalk.i64_in _ (by omega)
          have w3 : IntKind.i64.wrap (gsum t c + gmAt j) = gsum t c + gmAt j := IntWalk.i64_in _ (by omega)
          have k4 : (j : Int) < (t : Int) := by omega
          have k5 : (0 : Int) ≤ (j : Int) := by omega
          clear hcell hv hj b1 b2
          generalize gsum t c = x at HN w3
          generalize gmAt j = y at HN w3 cj
          go_wp2
          all_goals
            go_roundw
            case rel => exact ⟨c + 1, by omega, by go_num, by rw [HN.out], HI2.out⟩
            case measure => simp [intOf]; omega
        · have hce : c = min 4 t := by omega
          have k2 : (4 : Int) < (c : Int) + 1 ∨ (c : Int) + 1 ≤ 4 ∧ (t : Int) < (c : Int) + 1 := by omega
          have HE : Hid (gsum t c = gmAt t) := by rw [hce]; exact HS.out
          clear hce hlc
          generalize gsum t c = y at HE
          have hown := HI2.out.1
          have hbw := HI2.out.2
          rcases k2 with k2 | ⟨k2, k3⟩
          all_goals
            go_wp2_with (at_builtin; refine wpList_append_own _ rfl _ _ 25 rfl w.heap.size 3 i0 (.int .i64 0) 1 8 Try.underlying25 hi hq0 hq1 hq2 rfl (by decide) _ _ _ rfl (hown.alloc _) ⟨_, 0, none⟩ 1 1 [.int .i64 y] rfl rfl gnews gnews_one (by unfold maxLen; omega) (by omega) (by have := hbw.size; simp; omega) ?_)
            intro v' w2 hown' hgrow _
            have HI3 : Hid (GmInv w w2 v' (t + 1)) := ⟨by rw [gm_take t (by omega), ← HE.out, List.map_take]; exact hown', (hbw.alloc hbw.size _).grown hgrow (by have := hbw.size; simp; omega) (fun k hk => (hown.lt k hk).1)⟩
            clear hown' hgrow hown hbw
            go_wp2
            go_roundw
            case rel => exact ⟨t + 1, by omega, by omega, by go_num, HI3.out⟩
            case measure => simp [intOf]; omega
    · have ht : t = m + 1 := by omega
      have cm := hcell m (by omega)
      have hbw := hinv.2
      have k1 : (m : Int) < (t : Int) := by omega
      have k0 : (0 : Int) ≤ (m : Int) := by omega
      clear hcell hinv
      go_wp2
      go_ret
      exact ⟨rfl, hbw⟩
end Go.Proofs.Ytjodcaeohkjlnaa
