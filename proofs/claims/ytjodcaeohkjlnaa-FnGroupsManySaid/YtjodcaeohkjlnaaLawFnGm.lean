/-
  The law FnGroupsMany: for every code, groups begin in four ways.
-/
import Derived.Test.YtjodcaeohkjlnaaGm2
import Derived.Test.YtjodcaeohkjlnaaOpen
import Derived.Test.YtjodcaeohkjlnaaDraw2
import Derived.Test.YtjodcaeohkjlnaaCode
namespace Go.Proofs.Ytjodcaeohkjlnaa
open Go.RowKit Go.ChangeShapes Go.WideShapes Go.ChangeAt
set_option maxRecDepth 100000
set_option linter.unusedVariables false

def DrewGm (w : World) (e : Ending) (w' : World) : Prop :=
  ∃ x : Int, e = .returned (.int .i64 x) ∧ -1 ≤ x ∧ x ≤ 25 ∧ Below w.heap.size w w'

set_option maxHeartbeats 2000000 in
theorem drawGroupsMany_any (a : Option Addr) (n cap : Nat) (w : World) (h : CodeAt w a n) (hc : n ≤ cap) (hcap : cap ≤ maxLen) :
    Calls Try.prog 34 #[.slice a n cap] w (DrewGm w) := by
  go_enter Try.func34, Try.ntmps34
  go_wp2_with (fail)
  (go_at_call 36; refine (open_any a n cap _ h hc hcap).mono ?_; rintro e w1 ⟨A, rfl, hr1, hb1, hs1⟩; obtain ⟨hc1, hf1, hz1⟩ := bl hb1; (try simp at hz1); clear hc1 hf1)
  have hB := hr1.lt
  have hA : A < w1.heap.size := hr1.ltA
  go_wp2_with (fail)
  (go_at_call 55; refine (pick_any 27 w.heap.size A 0 ?_ ?_ ?_ _ ?_).mono ?_; (focus omega); (focus omega); (focus omega); (focus ((repeat' (first | (with_reducible refine Rd.set_ ?_ ?_ ?_ _) | (with_reducible refine Rd.alloc ?_ _) | (with_reducible refine Rd.drew ?_) | (refine Rd.more (by assumption) ?_; (first | omega | (simp; omega))) | (show _ ≠ _; (first | omega | (simp; omega))))); done)); rintro e w2 ⟨k2, rfl, h20, h21, hr2, hb2⟩; obtain ⟨hc2, hf2, hz2⟩ := bg hb2; (try simp at hz2); clear hc2 hf2)
  have s1 : IntKind.i64.wrap (k2 - 1) = k2 - 1 := IntWalk.i64_in _ (by omega)
  have hb2w := below_gb hb1 hb2 (by omega)
  go_wp2
  go_ret
  exact ⟨_, rfl, by omega, by omega, by (repeat' (first | (with_reducible assumption) | (with_reducible exact Below.refl _ _) | (with_reducible refine Below.alloc ?_ ?_ _) | (with_reducible refine Below.drew ?_) | (with_reducible refine Below.setCell ?_ ?_ _) | (with_reducible refine below_gb ?_ (by assumption) ?_) | (with_reducible refine bl_step ?_ (by assumption)) | go_size))⟩

theorem gm_pow : ∀ m, m < 25 → 1 ≤ m → m ≤ 4 → gmAt m = 2 ^ (m - 1) := by decide +kernel
theorem pow2_bd (j : Nat) (h : j ≤ 24) : (0 : Int) ≤ 2 ^ j ∧ (2 : Int) ^ j ≤ 16777216 := by
  have : ∀ j, j < 25 → (0 : Int) ≤ 2 ^ j ∧ (2 : Int) ^ j ≤ 16777216 := by decide +kernel
  exact this j (by omega)

set_option maxHeartbeats 4000000 in
theorem fnGroupsMany_walk (a : Option Addr) (n cap : Nat) (w : World) (h : CodeAt w a n) (hc : n ≤ cap) (hcap : cap ≤ maxLen) :
    Calls Try.prog 10 #[.slice a n cap] w fun e w' => e = .returned (.bool true) ∧ Below w.heap.size w w' := by
  by_cases hn : 1048576 < n
  · have g : (1048576 : Int) < (n : Int) := by omega
    go_enter Try.func10, Try.ntmps10
    go_wp2
    go_ret
    exact ⟨rfl, Below.refl _ _⟩
  have g : decide ((1048576 : Int) < (n : Int)) = false := by simp; omega
  go_enter Try.func10, Try.ntmps10
  go_wp2_with (fail)
  (go_at_call 34; refine (drawGroupsMany_any a n cap _ h hc hcap).mono ?_; rintro e w1 ⟨x, rfl, hx0, hx9, hb1⟩; obtain ⟨hc1, hf1, hz1⟩ := bl hb1; (try simp at hz1); clear hc1 hf1)
  clear h hc hcap g hn
  by_cases hno : x < 0 ∨ 24 < x
  · have e1 := gmv_no hno
    go_wp2_with (fail)
    (go_at_call 33; refine (groupsMany_any _ _).mono ?_; rintro e w2 ⟨rfl, hb2⟩; obtain ⟨hc2, hf2, hz2⟩ := bl hb2; (try simp at hz2); clear hc2 hf2)
    go_wp2_with (fail)
    (go_at_call 32; refine (sGroupsMany_any _ _).mono ?_; rintro e w3 ⟨rfl, hb3⟩; obtain ⟨hc3, hf3, hz3⟩ := bl hb3; (try simp at hz3); clear hc3 hf3)
    go_wp2
    go_ret
    exact ⟨rfl, by (repeat' (first | (with_reducible exact Below.refl _ _) | (with_reducible refine Below.alloc ?_ ?_ _) | (with_reducible refine Below.drew ?_) | (with_reducible refine Below.setCell ?_ ?_ _) | (with_reducible refine bl_step ?_ (by assumption)) | go_size))⟩
  obtain ⟨m, rfl⟩ : ∃ m : Nat, x = m := ⟨x.toNat, by omega⟩
  have hm : m ≤ 24 := by omega
  have e1 := gmv_yes hm
  have eb := gmAt_bd m (by omega)
  obtain ⟨o, ho⟩ : ∃ o, gmAt m = o := ⟨_, rfl⟩
  rw [ho] at e1 eb
  obtain ⟨eb0, eb1⟩ := eb
  have o0 : decide (o < 0) = false := by simp; omega
  have HO := Lib.hid ho
  clear hno ho
  go_wp2_with (fail)
  (go_at_call 33; refine (groupsMany_any _ _).mono ?_; rintro e w2 ⟨rfl, hb2⟩; obtain ⟨hc2, hf2, hz2⟩ := bl hb2; (try simp at hz2); clear hc2 hf2)
  go_wp2_with (fail)
  (go_at_call 32; refine (sGroupsMany_any _ _).mono ?_; rintro e w3 ⟨rfl, hb3⟩; obtain ⟨hc3, hf3, hz3⟩ := bl hb3; (try simp at hz3); clear hc3 hf3)
  have hbw : Below w.heap.size w w3 := by (repeat' (first | (with_reducible exact Below.refl _ _) | (with_reducible refine Below.alloc ?_ ?_ _) | (with_reducible refine Below.drew ?_) | (with_reducible refine Below.setCell ?_ ?_ _) | (with_reducible refine bl_step ?_ (by assumption)) | go_size))
  go_wp2
  go_loopw [6, 7] (fun s d wr => ∃ c : Nat, c ≤ min 4 m ∧ d = .int .i64 ((c : Int) + 1) ∧ s = .int .i64 (gsum m c) ∧ Below w.heap.size w wr) (fun _ d _ => 5 - (intOf d).toNat)
  case atStart => exact ⟨0, Nat.zero_le _, rfl, rfl, hbw⟩
  case round =>
    obtain ⟨c, hc, rfl, rfl, hbw⟩ := hrel
    by_cases hlc : c < min 4 m
    · have k2 : (c : Int) + 1 ≤ 4 := by omega
      have k3 : (c : Int) + 1 ≤ (m : Int) := by omega
      obtain ⟨j, hj⟩ : ∃ j : Nat, m = j + (c + 1) := ⟨m - (c + 1), by omega⟩
      have HN : Hid (gsum m (c + 1) = gsum m c + gmAt j) := by rw [gsum_succ]; congr 2; omega
      have b1 := gsum_bd m (by omega) c (by omega)
      have b2 := gmAt_bd j (by omega)
      have q1 : (m : Int) - ((c : Int) + 1) = (j : Int) := by omega
      have q2 : IntKind.i64.wrap (j : Int) = (j : Int) := IntWalk.i64_in _ (by omega)
      have q3 : IntKind.i64.wrap (gsum m c + gmAt j) = gsum m c + gmAt j := IntWalk.i64_in _ (by omega)
      have q4 : gmv (j : Int) = gmAt j := gmv_yes (by omega)
      clear hj b1 b2
      generalize gsum m c = x at HN q3
      generalize gmAt j = y at HN q3 q4
      go_wp2_with (fail)
      (go_at_call 33; refine (groupsMany_any _ _).mono ?_; rintro e w4 ⟨rfl, hb4⟩)
      go_wp2
      go_roundw
      case rel => exact ⟨c + 1, by omega, by go_num, by rw [HN.out], bl_step hbw hb4⟩
      case measure => simp [intOf]; omega
    · have hce : c = min 4 m := by omega
      have k2 : (4 : Int) < (c : Int) + 1 ∨ (c : Int) + 1 ≤ 4 ∧ (m : Int) < (c : Int) + 1 := by omega
      by_cases hm0 : m = 0
      · subst hm0
        have ho1 : o = 1 := by rw [← HO.out]; rfl
        subst ho1
        obtain rfl : c = 0 := by omega
        clear hce hlc k2
        go_wp2
        go_ret
        exact ⟨rfl, hbw⟩
      have HE : gsum m c = o := by rw [hce, gm_all m (by omega) (by omega)]; exact HO.out
      rw [HE]
      clear hce hlc
      have m0 : ((m : Int) == 0) = false := by simp; omega
      rcases k2 with k2 | ⟨k2, k3⟩
      all_goals
        go_wp2
        go_loopw [8, 9] (fun p d wr => ∃ j : Nat, j + 1 ≤ m ∧ d = .int .i64 ((j : Int) + 1) ∧ p = .int .i64 (2 ^ j) ∧ Below w.heap.size w wr) (fun _ d _ => m - (intOf d).toNat)
        case atStart => exact ⟨0, by omega, rfl, rfl, hbw⟩
        case round =>
          obtain ⟨j, hj, rfl, rfl, hbw⟩ := hrel
          obtain ⟨p0, p1⟩ := pow2_bd j (by omega)
          by_cases hlj : j + 1 < m
          · have r1 : (j : Int) + 1 < (m : Int) := by omega
            have HP : Hid ((2 : Int) ^ (j + 1) = 2 * 2 ^ j) := by rw [Int.pow_succ]; exact Int.mul_comm _ _
            have r2 : IntKind.i64.wrap (2 * 2 ^ j) = (2 : Int) * 2 ^ j := IntWalk.i64_in _ (by omega)
            generalize (2 : Int) ^ j = y at HP r2
            clear p0 p1
            go_wp2
            go_roundw
            case rel => exact ⟨j + 1, by omega, by go_num, by rw [HP.out], hbw⟩
            case measure => simp [intOf]; omega
          · have r1 : ¬ ((j : Int) + 1 < (m : Int)) := by omega
            by_cases h4 : 4 < m
            · have r2 : (4 : Int) < (m : Int) := by omega
              generalize (2 : Int) ^ j = y
              go_wp2
              all_goals (try go_quiet (fail))
              all_goals (try go_wp2)
              all_goals go_ret
              all_goals exact ⟨by first | rfl | simp, by (repeat' (first | (with_reducible exact Below.refl _ _) | (with_reducible refine Below.alloc ?_ ?_ _) | (with_reducible refine Below.drew ?_) | (with_reducible refine Below.setCell ?_ ?_ _) | (with_reducible refine bl_step ?_ (by assumption)) | go_size))⟩
            · have r2 : ¬ (4 : Int) < (m : Int) := by omega
              have HJ : (2 : Int) ^ j = o := by
                rw [← HO.out, gm_pow m (by omega) (by omega) (by omega)]
                congr 1; omega
              rw [HJ]
              go_wp2
              all_goals (try go_quiet (fail))
              all_goals (try go_wp2)
              all_goals go_ret
              all_goals exact ⟨by first | rfl | simp, by (repeat' (first | (with_reducible exact Below.refl _ _) | (with_reducible refine Below.alloc ?_ ?_ _) | (with_reducible refine Below.drew ?_) | (with_reducible refine Below.setCell ?_ ?_ _) | (with_reducible refine bl_step ?_ (by assumption)) | go_size))⟩

set_option maxRecDepth 100000 in
theorem fnGroupsMany_lifted (os : Os) (started : os.Started) (H : Type) (enc : TypeId × Value → H) :
    ReturnsInHanded {} Try.checked os 10 .any (Rows.fnGroupsManySpec.pre6 enc Try.prog Try.f10 Rows.fnGroupsManyRow.domain false) (Rows.fnGroupsManySpec.post enc Try.prog Try.f10 false true false false) := by
  refine returnsInHanded_of_change (C := Try.checked) own started (by kernel_rfl) Try.func10
    (ChangeSpec.witness6 (enc := enc) (C := Try.checked) false ⟨#[], #[.slice none 0 0], []⟩ 8 (by kernel_rfl) (by kernel_rfl) (by kernel_rfl) (by kernel_rfl)) ?_
  intro W base args ds gs before hval0 hW _ _
  have hval : ∀ (j : Nat) t v, Try.f10.params[j]? = some t → args[j]? = some v → Value.okWide Try.prog W .any base t v := hval0
  have hW' := hW
  obtain ⟨p, q, hA0, hV, rfl, _, _⟩ := hW
  have hA : DataW.TrodAll enc Try.prog W 0 (fun _ => true) true Try.f10.params.toList args.toList ds p := hA0
  rw [Try.params10] at hA hval
  obtain ⟨v0, vs0, d0, ds0, p0, q0, hargs, rfl, rfl, h0, r0⟩ := trodAll_cons hA
  obtain ⟨rfl, rfl, rfl⟩ := trodAll_nil r0
  obtain rfl : args = #[v0] := by cases args; simp_all
  obtain ⟨rfl, rfl⟩ := trodVars_none hV
  obtain ⟨a0, n0, c0, rfl⟩ := okWide_slice Try.underlying22 (hval 0 22 v0 rfl rfl)
  have k0 := h0
  have lt0 : ∀ x ∈ p0, x.block < W.heap.size := by obtain ⟨m, hm⟩ := k0; exact DataW.trod_lt m _ _ _ hm
  have y0 := code_in h0
  clear hA0 hval0
  refine (fnGroupsMany_walk a0 n0 c0 W y0.1 y0.2.1 y0.2.2).mono fun e W' ⟨he, hb⟩ => ?_
  subst he
  exact ⟨_, rfl, _, _, _, [], _, [], hW', trodAll_cons_mk (shut_bool Try.underlying4 _) trodAll_mk0, trodAll_cons_mk (Below.trod laidOut (by kernel_rfl) (of_decide_eq_true (by kernel_rfl)) k0 hb lt0) (trodAll_mk0), rfl, hb.frame _, fun h => by cases h⟩

theorem fnGroupsMany_holds : Rows.FnGroupsManySaid :=
  OpenClaim.holds_of_wide 10 Try.f10 rfl rfl rfl rfl rfl rfl rfl ⟨rfl, rfl, rfl, rfl, rfl⟩ rfl rfl rfl rfl rfl (by kernel_rfl) Try.func10 (by kernel_rfl)
    (of_decide_eq_true (by kernel_rfl)) (by unfold Func.isWrapper; first | (rw [if_pos (by decide +kernel)]; kernel_rfl) | (rw [if_neg (by decide +kernel)]; exact ⟨rfl, rfl⟩))
    (fun os started H enc _ => fnGroupsMany_lifted os started H enc)

end Go.Proofs.Ytjodcaeohkjlnaa
