/-
  What is a stem, how deep a manuscript lies in it, and a manuscript moved, in both programs.
-/
import Derived.Test.YthhndlefafcdeaaDoorTn
import Derived.Test.YthhndlefafcdeaaDoorStb
namespace Go.Proofs.YthhndlefafcdeaaDoor
open Go.RowKit
set_option maxRecDepth 100000
set_option linter.unusedVariables false

set_option maxHeartbeats 8000000 in
theorem sStemValid_any (v u : Value) (ss : List ByteArray) (st : List Int) (w : World) (h : SV w v ss) (k : IV w u st) (hsz : ∀ s ∈ ss, s.size ≤ 4611686018427387904) :
    Calls Tryd.prog 24 #[v, u] w fun e w' => e = .returned (.bool (svl ss st)) ∧ ∃ m, w' = w.drewN m := by
  have KB := Lib.hid (l7Books_any v ss w h hsz)
  obtain ⟨a, c, rfl, ha, hc1, hc2⟩ := h
  obtain ⟨a', c', rfl, ha', hc1', hc2'⟩ := k
  unfold maxLen at hc2 hc2'
  have HA' := Lib.hid ha'
  clear ha ha' hsz
  cases hok : bkOk ss with
  | false =>
    rw [svl_no1 hok]
    rw [hok] at KB
    clear hok
    go_enter Tryd.func24, Tryd.ntmps24
    go_wp2_with (fail)
    (go_at_call 46; refine (KB.out).mono ?_; rintro e w1 ⟨rfl, m, rfl⟩)
    go_wp2
    go_ret
    exact ⟨rfl, m, rfl⟩
  | true =>
  rw [hok] at KB
  by_cases h2 : bkL ss = ss.length
  · rw [svl_no2 h2]
    have t1 : ((bkL ss : Int) == (ss.length : Int)) = true := by rw [h2]; simp
    clear hok h2
    generalize (bkL ss : Int) = n at KB t1
    go_enter Tryd.func24, Tryd.ntmps24
    go_wp2_with (fail)
    (go_at_call 46; refine (KB.out).mono ?_; rintro e w1 ⟨rfl, m, rfl⟩)
    go_wp2
    go_ret
    exact ⟨rfl, m, rfl⟩
  have t1 : ((bkL ss : Int) == (ss.length : Int)) = false := by rw [beq_eq_false_iff_ne]; omega
  by_cases h3 : st.length = ss.length
  case neg =>
    rw [svl_no3 h3]
    have t2 : ((st.length : Int) != (ss.length : Int)) = true := by rw [bne_iff_ne]; omega
    clear hok h2 h3
    generalize (bkL ss : Int) = n at KB t1
    go_enter Tryd.func24, Tryd.ntmps24
    go_wp2_with (fail)
    (go_at_call 46; refine (KB.out).mono ?_; rintro e w1 ⟨rfl, m, rfl⟩)
    go_wp2
    go_ret
    exact ⟨rfl, m, rfl⟩
  have t2 : ((st.length : Int) != (ss.length : Int)) = false := by rw [bne_eq_false_iff_eq]; omega
  obtain ⟨hin, hall⟩ := bkOk_in hok
  obtain ⟨n1, n6, p1, p8⟩ := bkIn_parts hin
  have hne' : st ≠ [] := by rintro rfl; simp at h3; omega
  rcases HA'.out with hh | ⟨A', off', rfl, hA', hc'⟩
  · exact absurd hh hne'
  have HC' := Lib.hid hc'
  have sn : st.length ≤ 6 := by omega
  have s1 : 1 ≤ st.length := by omega
  have j0 : (0 : Int) < (st.length : Int) := by omega
  have e0 := HC'.out 0 s1
  rw [Nat.add_zero] at e0
  have HOK := Lib.hid hok
  have H2 := Lib.hid h2
  have H3 := Lib.hid h3
  clear hok h2 h3 hin hall hne' hc' HA'
  by_cases h4 : st.getD 0 0 = -1
  case neg =>
    rw [svl_no4 h4]
    have t3 : (st.getD 0 0 != -1) = true := by rw [bne_iff_ne]; exact h4
    clear h4
    generalize st.getD 0 0 = z at e0 t3
    generalize (bkL ss : Int) = n at KB t1
    go_enter Tryd.func24, Tryd.ntmps24
    go_wp2_with (fail)
    (go_at_call 46; refine (KB.out).mono ?_; rintro e w1 ⟨rfl, m, hw1⟩)
    have e1 : w1.cell? ⟨A', off', none⟩ = some (.int .i64 z) := by rw [hw1]; exact e0
    have HW := Lib.hid hw1
    clear hw1 e0
    go_wp2
    go_ret
    exact ⟨rfl, m, HW.out⟩
  rw [h4] at e0
  have H4 := Lib.hid h4
  clear h4
  generalize (bkL ss : Int) = nl at KB t1
  go_enter Tryd.func24, Tryd.ntmps24
  go_wp2_with (fail)
  (go_at_call 46; refine (KB.out).mono ?_; rintro e w1 ⟨rfl, m, hw1⟩)
  have e1 : w1.cell? ⟨A', off', none⟩ = some (.int .i64 (-1)) := by rw [hw1]; exact e0
  have HW := Lib.hid hw1
  clear hw1 e0
  go_wp2
  go_loop [7] (fun i => ∃ k : Nat, 1 ≤ k ∧ k ≤ st.length ∧ i = .int .i64 (k : Int) ∧ Hid (StTo st k)) (fun i => st.length - (intOf i).toNat)
  case atStart => exact ⟨1, Nat.le_refl _, s1, rfl, StTo.one st⟩
  case round =>
    obtain ⟨k, hk1, hk2, rfl, hto⟩ := hrel
    by_cases hlt : k < st.length
    · have f1 : w1.cell? ⟨A', off' + k, none⟩ = some (.int .i64 (st.getD k 0)) := by rw [HW.out]; exact HC'.out _ hlt
      have b0 : (0 : Int) ≤ (k : Int) := by omega
      have b1 : (k : Int) < (st.length : Int) := by omega
      have wl : IntKind.i64.wrap ((k : Int) - 1) = (k : Int) - 1 := IntWalk.i64_in _ (by omega)
      have HL := Lib.hid (l6InB_any (st.getD k 0) 0 ((k : Int) - 1))
      by_cases hz : 0 ≤ st.getD k 0 ∧ st.getD k 0 < (k : Int)
      · have HN : Hid (StTo st (k + 1)) := hto.out.next hz.1 hz.2
        have e2 : (decide (0 ≤ st.getD k 0) && decide (st.getD k 0 ≤ (k : Int) - 1)) = true := by rw [decide_eq_true (by omega), decide_eq_true (by omega)]; rfl
        rw [e2] at HL
        clear hz e2
        generalize st.getD k 0 = z at f1 HL
        go_wp2_with (fail)
        (go_at_call 48; refine (HL.out _).mono ?_; rintro e wx ⟨rfl, rfl⟩)
        go_wp2
        go_round
        case rel => exact ⟨k + 1, by omega, by omega, by go_num, HN⟩
        case measure => simp [intOf]; omega
      · have HN := Lib.hid (svl_no5 (ss := ss) (st := st) hlt (by omega) hz)
        have e2 : (decide (0 ≤ st.getD k 0) && decide (st.getD k 0 ≤ (k : Int) - 1)) = false := by
          rw [Bool.and_eq_false_iff]
          by_cases h : 0 ≤ st.getD k 0
          · exact .inr (decide_eq_false (by omega))
          · exact .inl (decide_eq_false h)
        rw [e2] at HL
        clear hz e2
        generalize st.getD k 0 = z at f1 HL
        go_wp2_with (fail)
        (go_at_call 48; refine (HL.out _).mono ?_; rintro e wx ⟨rfl, rfl⟩)
        go_wp2
        go_ret
        exact ⟨by rw [HN.out]; rfl, m, HW.out⟩
    · have hke : k = st.length := by omega
      subst hke
      have HV : Hid (svl ss st = true) := svl_yes HOK.out H2.out H3.out H4.out hto.out
      go_wp2
      go_ret
      exact ⟨by rw [HV.out]; rfl, m, HW.out⟩

set_option maxHeartbeats 2000000 in
theorem stemValid_any (v u : Value) (ss : List ByteArray) (st : List Int) (w : World) (h : SV w v ss) (k : IV w u st) (hsz : ∀ s ∈ ss, s.size ≤ 4611686018427387904) :
    Calls Tryd.prog 26 #[v, u] w fun e w' => e = .returned (.bool (svl ss st)) ∧ Below w.heap.size w w' := by
  have KB := Lib.hid (newStemTree_any v u ss st w h k hsz)
  unfold Treed at KB
  generalize svl ss st = b at KB ⊢
  clear h k
  go_enter Tryd.func26, Tryd.ntmps26
  go_wp2_with (fail)
  (go_at_call 52; refine (KB.out).mono ?_; rintro e w1 ⟨tv, rfl, _, _, hb1⟩)
  go_wp2
  go_ret
  exact ⟨rfl, hb1⟩
end Go.Proofs.YthhndlefafcdeaaDoor
