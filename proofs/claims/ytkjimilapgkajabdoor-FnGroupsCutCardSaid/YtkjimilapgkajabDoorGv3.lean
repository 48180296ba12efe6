/-
  GroupsValid in both programs.
-/
import Derived.Test.YtkjimilapgkajabDoorGv2
namespace Go.Proofs.YtkjimilapgkajabDoor
open Go.RowKit
set_option maxRecDepth 100000
set_option linter.unusedVariables false

theorem groupsValid_any (lo hi lo' hi' : Nat) (v u : Value) (xs gs : List (Int × Bool)) (w : World) (h : TRow w lo hi v xs) (k : GRw w lo' hi' u gs) :
    Calls Tryd.prog 92 #[v, u] w fun e w' => e = .returned (.bool (gv xs gs)) ∧ Below w.heap.size w w' := by
  go_enter Tryd.func92, Tryd.ntmps92
  go_wp2_with (fail)
  (go_at_call 86; refine (newGroups_any lo hi lo' hi' v u xs gs _ h k).mono ?_; rintro e w1 ⟨r, rfl, hb1, h1, h2⟩)
  clear h1 h2 h k
  go_wp2
  go_ret
  exact ⟨rfl, hb1⟩

theorem gv_end {xs gs : List (Int × Bool)} (hv : mv xs = true) (ha : gs.all gok = true) : gv xs gs = decide (gsz gs = xs.length) := by
  unfold gv; rw [hv, ha]; rfl

set_option maxHeartbeats 4000000 in
theorem sGroupsValid_any (lo hi lo' hi' : Nat) (v u : Value) (xs gs : List (Int × Bool)) (w : World) (h : TRow w lo hi v xs) (k : GRw w lo' hi' u gs) (hgl : gs.length ≤ 4611686018427387904) :
    Calls Tryd.prog 89 #[v, u] w fun e w' => e = .returned (.bool (gv xs gs)) ∧ Below w.heap.size w w' := by
  obtain ⟨ua, uc, hu⟩ : ∃ a c, u = .slice a gs.length c := by
    rcases k.form with ⟨rfl, rfl⟩ | ⟨g, go, cap, rfl, _⟩
    · exact ⟨none, 0, rfl⟩
    · exact ⟨_, _, rfl⟩
  by_cases hv : mv xs = false
  · rw [gv_no1 hv]
    subst hu
    go_enter Tryd.func89, Tryd.ntmps89
    go_wp2_with (fail)
    (go_at_call 58; refine (sMelodyValid_any lo hi v xs _ h).mono ?_; rintro e w1 ⟨rfl, hb1⟩)
    clear h k
    go_wp2
    go_ret
    exact ⟨rfl, hb1⟩
  rw [Bool.not_eq_false] at hv
  by_cases hl : 24 < gs.length
  · rw [gv_long hl]
    have hl' : (24 : Int) < (gs.length : Int) := by omega
    subst hu
    go_enter Tryd.func89, Tryd.ntmps89
    go_wp2_with (fail)
    (go_at_call 58; refine (sMelodyValid_any lo hi v xs _ h).mono ?_; rintro e w1 ⟨rfl, hb1⟩)
    clear h k
    go_wp2
    go_ret
    exact ⟨rfl, hb1⟩
  have hmx : xs.length ≤ 24 := by simp [mv] at hv; exact hv.1
  obtain ⟨va, vc, hvv⟩ : ∃ a c, v = .slice a xs.length c := by
    rcases h.form with ⟨rfl, rfl⟩ | ⟨g, cap, rfl, _⟩
    · exact ⟨none, 0, rfl⟩
    · exact ⟨_, _, rfl⟩
  have hl' : decide ((24 : Int) < (gs.length : Int)) = false := by simp; omega
  have HY : Hid (gs.all gok = true → gv xs gs = decide (gsz gs = xs.length)) := fun ha => gv_end hv ha
  have HN : Hid (∀ j t, gs[j]? = some t → gok t = false → gv xs gs = false) := fun j t h1 h2 => gv_bad h1 h2
  rcases k.form with ⟨rfl, rfl⟩ | ⟨g, go, cap, rfl, hg, hg2, hgs, hcap, hmax, hc⟩
  · have HE := Lib.hid (HY.out rfl)
    subst hvv
    by_cases hx0 : xs.length = 0
    · have hxe : xs = [] := List.eq_nil_of_length_eq_zero hx0
      subst hxe
      clear hx0
      go_enter Tryd.func89, Tryd.ntmps89
      go_wp2_with (fail)
      (go_at_call 58; refine (sMelodyValid_any lo hi _ _ _ h).mono ?_; rintro e w1 ⟨rfl, hb1⟩)
      clear h k
      go_wp2
      go_rounds 1
      go_ret
      exact ⟨by rw [HE.out]; simp [gsz], hb1⟩
    · have hz : ((0 : Int) == (xs.length : Int)) = false := by simp; omega
      have HZ := Lib.hid hx0
      clear hx0
      go_enter Tryd.func89, Tryd.ntmps89
      go_wp2_with (fail)
      (go_at_call 58; refine (sMelodyValid_any lo hi _ _ _ h).mono ?_; rintro e w1 ⟨rfl, hb1⟩)
      clear h k
      go_wp2
      go_rounds 1
      go_ret
      have hx0 := HZ.out
      exact ⟨by (rw [HE.out, decide_eq_false (fun e => hx0 (Eq.symm e) : ¬ gsz [] = xs.length)]; first | rfl | (simp only [hz]; done) | (simp only [List.length_nil, Int.ofNat_zero, Int.cast_ofNat_Int, hz]; done) | (have hz2 := hz; simp at hz2 ⊢; first | exact hz2 | (intro e; exact hx0 (by omega)) | omega)), hb1⟩
  unfold maxLen at hmax
  subst hvv
  have HC := Lib.hid hc
  have HH := Lib.hid h
  clear hc k hu h
  go_enter Tryd.func89, Tryd.ntmps89
  go_wp2_with (fail)
  (go_at_call 58; refine (sMelodyValid_any lo hi _ xs _ HH.out).mono ?_; rintro e w1 ⟨rfl, hb1⟩)
  go_wp2
  clear hv
  go_loopw [5, 6] (fun s i wr => ∃ (j N : Nat), j ≤ gs.length ∧ i = .int .i64 j ∧ s = .int .i64 N ∧ N ≤ 100 ∧ Hid (N = gsz (gs.take j) ∧ (gs.take j).all gok = true) ∧ Below w.heap.size w wr) (fun _ i _ => gs.length - (intOf i).toNat)
  case atStart => exact ⟨0, 0, Nat.zero_le _, rfl, rfl, by omega, ⟨rfl, rfl⟩, hb1⟩
  case round =>
    obtain ⟨j, N, hj, rfl, rfl, hN, HK, hb⟩ := hrel
    by_cases hlt : j < gs.length
    · have ht : gs[j]? = some gs[j] := List.getElem?_eq_getElem hlt
      obtain ⟨a1, a2⟩ := HC.out j _ ht
      have e1 := (hb.cell (p := ⟨g, go + j * 2, none⟩) hgs).trans a1
      have hj0 : (0 : Int) ≤ (j : Int) := by omega
      have hj1 : (j : Int) < (gs.length : Int) := by omega
      have HG := Lib.hid ht
      clear ht a1 a2
      generalize gs[j] = t at e1 HG
      obtain ⟨z, b⟩ := t
      by_cases hz : z < 1 ∨ 4 < z
      · have HF := Lib.hid (HN.out j _ HG.out (by simp [gok]; omega))
        clear HK
        go_wp2_with (fail)
        (go_at_call 94; refine (in_no z 1 4 hz _).mono ?_; rintro e wx ⟨rfl, rfl⟩)
        go_wp2
        go_ret
        exact ⟨by rw [HF.out]; rfl, hb⟩
      · obtain ⟨q, rfl⟩ : ∃ q : Nat, z = q := ⟨z.toNat, by omega⟩
        have hq : q ≤ 4 := by omega
        have e := gsz_snoc HG.out
        have hlen := (gall_len (gall_snoc HG.out HK.out.2 (by simp [gok]; omega))).2
        have htk : (gs.take (j + 1)).length ≤ 24 := by rw [List.length_take]; omega
        have HX : Hid (N + q = gsz (gs.take (j + 1)) ∧ (gs.take (j + 1)).all gok = true) := ⟨by rw [e, ← HK.out.1]; simp, gall_snoc HG.out HK.out.2 (by simp [gok]; omega)⟩
        have hNq : N + q ≤ 100 := by rw [HX.out.1]; omega
        have s1 : IntKind.i64.wrap ((N : Int) + (q : Int)) = (N : Int) + (q : Int) := IntWalk.i64_in _ (by omega)
        clear HK e hlen htk
        go_wp2_with (fail)
        (go_at_call 94; refine (in_yes (q : Int) 1 4 (by omega) (by omega) _).mono ?_; rintro e wx ⟨rfl, rfl⟩)
        go_wp2
        go_roundw
        case rel => exact ⟨j + 1, N + q, by omega, by go_num, by go_num, hNq, HX.out, hb⟩
        case measure => simp [intOf]; omega
    · have hje : j = gs.length := by omega
      subst hje
      have hN2 : N = gsz gs := by have := HK.out.1; rwa [List.take_length] at this
      have hal : gs.all gok = true := by have := HK.out.2; rwa [List.take_length] at this
      have HE := Lib.hid (HY.out hal)
      clear HK hal
      by_cases he : N = xs.length
      · have hz : ((N : Int) == (xs.length : Int)) = true := by simp; omega
        have HZ : Hid (gsz gs = xs.length) := hN2.symm.trans he
        clear he hN2
        go_wp2
        go_ret
        exact ⟨by rw [HE.out]; simp [HZ.out], hb⟩
      · have hz : ((N : Int) == (xs.length : Int)) = false := by simp; omega
        have HZ : Hid (gsz gs ≠ xs.length) := fun e => he (hN2.trans e)
        clear he hN2
        go_wp2
        go_ret
        exact ⟨by rw [HE.out]; simp [HZ.out], hb⟩
end Go.Proofs.YtkjimilapgkajabDoor
