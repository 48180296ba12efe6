/-
  PsalmRead, in both programs.
-/
import Derived.Test.YtcmcdomfmmjogaaPsl3
import Derived.Test.YtcmcdomfmmjogaaPsl5
import Derived.Test.YtcmcdomfmmjogaaPsq
import Derived.Test.YtcmcdomfmmjogaaPsr
namespace Go.Proofs.Ytcmcdomfmmjogaa
open Go.RowKit
set_option maxRecDepth 100000
set_option linter.unusedVariables false

/-- a psalm tone by which the verse is sung so -/
def rdQ (s : ByteArray) (xs : List (Int × Bool)) (p : Psa) : Bool := pfit p s && decide (psL p s = xs)
def rdC (s : ByteArray) (xs : List (Int × Bool)) (ps : List Psa) : Nat := (ps.filter (rdQ s xs)).length
theorem rdC_step {s : ByteArray} {xs : List (Int × Bool)} {ps : List Psa} {k : Nat} {p : Psa} (h : ps[k]? = some p) : rdC s xs (ps.take (k + 1)) = rdC s xs (ps.take k) + (if rdQ s xs p then 1 else 0) := count_take _ _ h
theorem rdC_le (s : ByteArray) (xs : List (Int × Bool)) (ps : List Psa) (k : Nat) : rdC s xs (ps.take k) ≤ k := Nat.le_trans (List.length_filter_le _ _) (by rw [List.length_take]; omega)
/-- what PsalmRead answers -/
def pR (ps : List Psa) (s : ByteArray) (xs : List (Int × Bool)) : Int :=
  if vvl s.data.toList && (mv xs && ps.all pv) then (rdC s xs ps : Int) else -1
theorem pR_no {ps : List Psa} {s : ByteArray} {xs : List (Int × Bool)} (h : (vvl s.data.toList && (mv xs && ps.all pv)) = false) : pR ps s xs = -1 := by unfold pR; rw [h]; rfl
theorem pR_yes {ps : List Psa} {s : ByteArray} {xs : List (Int × Bool)} (h : (vvl s.data.toList && (mv xs && ps.all pv)) = true) : pR ps s xs = (rdC s xs ps : Int) := by unfold pR; rw [h]; rfl

set_option maxHeartbeats 4000000 in
theorem psalmRead_any (v u : Value) (ps : List Psa) (s : ByteArray) (xs : List (Int × Bool)) (hs : s.size ≤ 1048577) (w : World) (h : PLV w v ps) (k : LV w u xs) (hm : MaxAt w) :
    Calls Try.prog 36 #[v, .string s, u] w fun e w' => e = .returned (.int .i64 (pR ps s xs)) ∧ Below w.heap.size w w' := by
  have KV := Lib.hid (fun W (hb : Below w.heap.size w W) => verseValid_any s hs W (hm.below hb))
  have KP := Lib.hid (fun v p W (hv : PV W v p) (hb : Below w.heap.size w W) => psalmSing_any v p s hs W hv (hm.below hb))
  have KA := Lib.hid (fun W (hb : Below w.heap.size w W) => allPsalms_any v ps W (h.below hb))
  have KM := Lib.hid (fun W (hb : Below w.heap.size w W) => melodyValid_lv u xs W (k.below hb))
  have KE := Lib.hid (fun v ys W (hv : LV W v ys) (hb : Below w.heap.size w W) => slEqualT_any v u ys xs W hv (k.below hb))
  unfold TB2 at KP
  obtain ⟨a, c, rfl, hl, hat⟩ := h.at
  obtain ⟨a2, c2, rfl, hc3, hc4⟩ := k.sl
  have HAT := Lib.hid hat
  clear h k hat hm
  cases hok : vvl s.data.toList with
  | false =>
    have HP := Lib.hid (pR_no (ps := ps) (s := s) (xs := xs) (by rw [hok]; simp))
    rw [hok] at KV
    rw [HP.out]
    clear hok
    go_enter Try.func36, Try.ntmps36
    go_wp2_with (fail)
    (go_at_call 23; refine (KV.out _ (Below.refl _ _)).mono ?_; rintro e w1 ⟨rfl, hb1⟩)
    have hbw1 := hb1
    go_wp2
    go_ret
    exact ⟨rfl, hbw1⟩
  | true =>
    cases hmv : mv xs with
    | false =>
      have HP := Lib.hid (pR_no (ps := ps) (s := s) (xs := xs) (by rw [hmv]; simp))
      rw [hok] at KV
      rw [hmv] at KM
      rw [HP.out]
      clear hok hmv
      go_enter Try.func36, Try.ntmps36
      go_wp2_with (fail)
      (go_at_call 23; refine (KV.out _ (Below.refl _ _)).mono ?_; rintro e w1 ⟨rfl, hb1⟩)
      have hbw1 := hb1
      go_wp2_with (fail)
      (go_at_call 65; refine (KM.out _ (hbw1)).mono ?_; rintro e w2 ⟨rfl, hb2⟩)
      have hbw2 := bl_step hbw1 hb2
      go_wp2
      go_ret
      exact ⟨rfl, hbw2⟩
    | true =>
      cases hall : ps.all pv with
      | false =>
        have HP := Lib.hid (pR_no (ps := ps) (s := s) (xs := xs) (by rw [hall]; simp))
        rw [hok] at KV
        rw [hmv] at KM
        rw [hall] at KA
        rw [HP.out]
        clear hok hmv hall
        go_enter Try.func36, Try.ntmps36
        go_wp2_with (fail)
        (go_at_call 23; refine (KV.out _ (Below.refl _ _)).mono ?_; rintro e w1 ⟨rfl, hb1⟩)
        have hbw1 := hb1
        go_wp2_with (fail)
        (go_at_call 65; refine (KM.out _ (hbw1)).mono ?_; rintro e w2 ⟨rfl, hb2⟩)
        have hbw2 := bl_step hbw1 hb2
        go_wp2_with (fail)
        (go_at_call 61; refine (KA.out _ (hbw2)).mono ?_; rintro e w3 ⟨rfl, hb3⟩)
        have hbw3 := bl_step hbw2 hb3
        go_wp2
        go_ret
        exact ⟨rfl, hbw3⟩
      | true =>
        have HP := Lib.hid (pR_yes (ps := ps) (s := s) (xs := xs) (by rw [hok, hmv, hall]; rfl))
        have HSP := Lib.hid (fun k p (h : ps[k]? = some p) => rdC_step (s := s) (xs := xs) h)
        have HLE := Lib.hid (rdC_le s xs ps)
        rw [hok] at KV
        rw [hmv] at KM
        rw [hall] at KA
        rw [HP.out]
        clear hok hmv hall HP
        go_enter Try.func36, Try.ntmps36
        go_wp2_with (fail)
        (go_at_call 23; refine (KV.out _ (Below.refl _ _)).mono ?_; rintro e w1 ⟨rfl, hb1⟩)
        have hbw1 := hb1
        go_wp2_with (fail)
        (go_at_call 65; refine (KM.out _ (hbw1)).mono ?_; rintro e w2 ⟨rfl, hb2⟩)
        have hbw2 := bl_step hbw1 hb2
        go_wp2_with (fail)
        (go_at_call 61; refine (KA.out _ (hbw2)).mono ?_; rintro e w3 ⟨rfl, hb3⟩)
        have hbw3 := bl_step hbw2 hb3
        have HB3 := Lib.hid hbw3
        clear hb1 hb2 hb3 hbw1 hbw2 hbw3
        go_wp2
        go_loopw [7, 27] (fun m i wr => ∃ k : Nat, k ≤ ps.length ∧ i = .int .i64 k ∧ m = .int .i64 (rdC s xs (ps.take k) : Nat) ∧ Below w.heap.size w wr) (fun _ i _ => ps.length - (intOf i).toNat)
        case atStart => exact ⟨0, Nat.zero_le _, rfl, by simp [rdC], HB3.out⟩
        case round =>
          obtain ⟨k, hk, rfl, rfl, hb⟩ := hrel
          have hcl := HLE.out k
          by_cases hlt : k < ps.length
          · obtain ⟨p, hx⟩ := ps_get hlt
            obtain ⟨A, off, b0, b1, b2, d0, d1, d2, rfl, hA, e0, e1, e2, e3, e4, hv⟩ := HAT.out k p hx
            have e0 := (hb.cell (p := ⟨A, off + k * 5, none⟩) hA).trans e0
            have e1 := (hb.cell (p := ⟨A, off + k * 5 + 1, none⟩) hA).trans e1
            have e2 := (hb.cell (p := ⟨A, off + k * 5 + 2, none⟩) hA).trans e2
            have e3 := (hb.cell (p := ⟨A, off + k * 5 + 3, none⟩) hA).trans e3
            have e4 := (hb.cell (p := ⟨A, off + k * 5 + 4, none⟩) hA).trans e4
            have KQ := Lib.hid (fun W (hb : Below w.heap.size w W) => KP.out _ p W (hv.below hb) hb)
            have hk0 : (0 : Int) ≤ (k : Int) := by omega
            have hk1 : (k : Int) < (ps.length : Int) := by omega
            have hs1 := HSP.out k p hx
            unfold rdQ at hs1
            have HS := Lib.hid hs1
            clear hs1 hv hx
            obtain ⟨z, hz⟩ : ∃ z, rdC s xs (ps.take k) = z := ⟨_, rfl⟩
            rw [hz] at hcl ⊢
            have HZ := Lib.hid hz
            clear hz
            generalize p.st.length = q0 at *
            generalize p.mi.length = q1 at *
            generalize p.en.length = q2 at *
            generalize pfit p s = g at KQ HS
            generalize psL p s = ys at KQ HS
            cases g
            · go_wp2_with (fail)
              (go_at_call 15; refine (KQ.out _ (hb.alloc hb.size _)).mono ?_; rintro e w5 ⟨vm, rfl, hvm, hb5⟩)
              have hbw5 := bl_step (hb.alloc hb.size _) hb5
              have hvl : LV w5 vm ys := ⟨_, _, hvm⟩
              obtain ⟨va, vc, rfl, _, _⟩ := hvl.sl
              clear hvm hb5
              clear hvl
              go_wp2
              go_roundw
              case rel => exact ⟨k + 1, by omega, by go_num, by rw [HS.out, HZ.out]; rfl, hbw5⟩
              case measure => simp [intOf]; omega
            · cases hyx : decide (ys = xs)
              · go_wp2_with (fail)
                (go_at_call 15; refine (KQ.out _ (hb.alloc hb.size _)).mono ?_; rintro e w5 ⟨vm, rfl, hvm, hb5⟩)
                have hbw5 := bl_step (hb.alloc hb.size _) hb5
                have hvl : LV w5 vm ys := ⟨_, _, hvm⟩
                obtain ⟨va, vc, rfl, _, _⟩ := hvl.sl
                clear hvm hb5
                have KX := Lib.hid (KE.out _ _ w5 hvl hbw5)
                have HQ : Hid (decide (ys = xs) = false) := hyx
                rw [HQ.out] at KX
                clear hvl
                go_wp2_with (fail)
                (go_at_call 66; refine (KX.out).mono ?_; rintro e w6 ⟨rfl, hb6⟩)
                have hbw6 := bl_step hbw5 hb6
                go_wp2
                go_roundw
                case rel => exact ⟨k + 1, by omega, by go_num, by rw [HS.out, HZ.out, HQ.out]; rfl, hbw6⟩
                case measure => simp [intOf]; omega
              · go_wp2_with (fail)
                (go_at_call 15; refine (KQ.out _ (hb.alloc hb.size _)).mono ?_; rintro e w5 ⟨vm, rfl, hvm, hb5⟩)
                have hbw5 := bl_step (hb.alloc hb.size _) hb5
                have hvl : LV w5 vm ys := ⟨_, _, hvm⟩
                obtain ⟨va, vc, rfl, _, _⟩ := hvl.sl
                clear hvm hb5
                have KX := Lib.hid (KE.out _ _ w5 hvl hbw5)
                have HQ : Hid (decide (ys = xs) = true) := hyx
                rw [HQ.out] at KX
                clear hvl
                go_wp2_with (fail)
                (go_at_call 66; refine (KX.out).mono ?_; rintro e w6 ⟨rfl, hb6⟩)
                have hbw6 := bl_step hbw5 hb6
                go_wp2
                go_roundw
                case rel => exact ⟨k + 1, by omega, by go_num, by rw [HS.out, HZ.out, HQ.out]; go_num, hbw6⟩
                case measure => simp [intOf]; omega
          · have hkn : k = ps.length := by omega
            subst hkn
            have HT : Hid (rdC s xs (ps.take ps.length) = rdC s xs ps) := (congrArg _ List.take_length : rdC s xs (ps.take ps.length) = rdC s xs ps)
            go_wp2
            go_ret
            exact ⟨congrArg (fun z : Nat => Ending.returned (.int .i64 z)) HT.out, hb⟩

set_option maxHeartbeats 4000000 in
theorem sPsalmRead_any (v u : Value) (ps : List Psa) (s : ByteArray) (xs : List (Int × Bool)) (hs : s.size ≤ 1048577) (w : World) (h : PLV w v ps) (k : LV w u xs) :
    Calls Try.prog 37 #[v, .string s, u] w fun e w' => e = .returned (.int .i64 (pR ps s xs)) ∧ Below w.heap.size w w' := by
  have KV := Lib.hid (fun W (hb : Below w.heap.size w W) => sVerseValid_any s (by omega) W)
  have KP := Lib.hid (fun v p W (hv : PV W v p) (hb : Below w.heap.size w W) => sPsalmSing_any v p s hs W hv)
  have KA := Lib.hid (fun W (hb : Below w.heap.size w W) => l4All_any v ps W (h.below hb))
  have KM := Lib.hid (fun W (hb : Below w.heap.size w W) => sMelodyValid_lv u xs W (k.below hb))
  have KE := Lib.hid (fun v ys W (hv : LV W v ys) (hb : Below w.heap.size w W) => l4Equal_any v u ys xs W hv (k.below hb))
  unfold TB2 at KP
  obtain ⟨a, c, rfl, hl, hat⟩ := h.at
  obtain ⟨a2, c2, rfl, hc3, hc4⟩ := k.sl
  have HAT := Lib.hid hat
  clear h k hat
  cases hall : ps.all pv with
  | false =>
    have HP := Lib.hid (pR_no (ps := ps) (s := s) (xs := xs) (by rw [hall]; simp))
    rw [hall] at KA
    rw [HP.out]
    clear hall
    go_enter Try.func37, Try.ntmps37
    go_wp2_with (fail)
    (go_at_call 62; refine (KA.out _ (Below.refl _ _)).mono ?_; rintro e w1 ⟨rfl, hb1⟩)
    have hbw1 := hb1
    go_wp2
    go_ret
    exact ⟨rfl, hbw1⟩
  | true =>
    cases hok : vvl s.data.toList with
    | false =>
      have HP := Lib.hid (pR_no (ps := ps) (s := s) (xs := xs) (by rw [hok]; simp))
      rw [hall] at KA
      rw [hok] at KV
      rw [HP.out]
      clear hall hok
      go_enter Try.func37, Try.ntmps37
      go_wp2_with (fail)
      (go_at_call 62; refine (KA.out _ (Below.refl _ _)).mono ?_; rintro e w1 ⟨rfl, hb1⟩)
      have hbw1 := hb1
      go_wp2_with (fail)
      (go_at_call 55; refine (KV.out _ (hbw1)).mono ?_; rintro e w2 ⟨rfl, hb2⟩)
      have hbw2 := bl_step hbw1 hb2
      go_wp2
      go_ret
      exact ⟨rfl, hbw2⟩
    | true =>
      cases hmv : mv xs with
      | false =>
        have HP := Lib.hid (pR_no (ps := ps) (s := s) (xs := xs) (by rw [hmv]; simp))
        rw [hall] at KA
        rw [hok] at KV
        rw [hmv] at KM
        rw [HP.out]
        clear hall hok hmv
        go_enter Try.func37, Try.ntmps37
        go_wp2_with (fail)
        (go_at_call 62; refine (KA.out _ (Below.refl _ _)).mono ?_; rintro e w1 ⟨rfl, hb1⟩)
        have hbw1 := hb1
        go_wp2_with (fail)
        (go_at_call 55; refine (KV.out _ (hbw1)).mono ?_; rintro e w2 ⟨rfl, hb2⟩)
        have hbw2 := bl_step hbw1 hb2
        go_wp2_with (fail)
        (go_at_call 67; refine (KM.out _ (hbw2)).mono ?_; rintro e w3 ⟨rfl, hb3⟩)
        have hbw3 := bl_step hbw2 hb3
        go_wp2
        go_ret
        exact ⟨rfl, hbw3⟩
      | true =>
        have HP := Lib.hid (pR_yes (ps := ps) (s := s) (xs := xs) (by rw [hok, hmv, hall]; rfl))
        have HSP := Lib.hid (fun k p (h : ps[k]? = some p) => rdC_step (s := s) (xs := xs) h)
        have HLE := Lib.hid (rdC_le s xs ps)
        rw [hall] at KA
        rw [hok] at KV
        rw [hmv] at KM
        rw [HP.out]
        clear hok hmv hall HP
        go_enter Try.func37, Try.ntmps37
        go_wp2_with (fail)
        (go_at_call 62; refine (KA.out _ (Below.refl _ _)).mono ?_; rintro e w1 ⟨rfl, hb1⟩)
        have hbw1 := hb1
        go_wp2_with (fail)
        (go_at_call 55; refine (KV.out _ (hbw1)).mono ?_; rintro e w2 ⟨rfl, hb2⟩)
        have hbw2 := bl_step hbw1 hb2
        go_wp2_with (fail)
        (go_at_call 67; refine (KM.out _ (hbw2)).mono ?_; rintro e w3 ⟨rfl, hb3⟩)
        have hbw3 := bl_step hbw2 hb3
        have HB3 := Lib.hid hbw3
        clear hb1 hb2 hb3 hbw1 hbw2 hbw3
        go_wp2
        go_loopw [7, 8] (fun m i wr => ∃ k : Nat, k ≤ ps.length ∧ i = .int .i64 k ∧ m = .int .i64 (rdC s xs (ps.take k) : Nat) ∧ Below w.heap.size w wr) (fun _ i _ => ps.length - (intOf i).toNat)
        case atStart => exact ⟨0, Nat.zero_le _, rfl, by simp [rdC], HB3.out⟩
        case round =>
          obtain ⟨k, hk, rfl, rfl, hb⟩ := hrel
          have hcl := HLE.out k
          by_cases hlt : k < ps.length
          · obtain ⟨p, hx⟩ := ps_get hlt
            obtain ⟨A, off, b0, b1, b2, d0, d1, d2, rfl, hA, e0, e1, e2, e3, e4, hv⟩ := HAT.out k p hx
            have e0 := (hb.cell (p := ⟨A, off + k * 5, none⟩) hA).trans e0
            have e1 := (hb.cell (p := ⟨A, off + k * 5 + 1, none⟩) hA).trans e1
            have e2 := (hb.cell (p := ⟨A, off + k * 5 + 2, none⟩) hA).trans e2
            have e3 := (hb.cell (p := ⟨A, off + k * 5 + 3, none⟩) hA).trans e3
            have e4 := (hb.cell (p := ⟨A, off + k * 5 + 4, none⟩) hA).trans e4
            have KQ := Lib.hid (fun W (hb : Below w.heap.size w W) => KP.out _ p W (hv.below hb) hb)
            have hk0 : (0 : Int) ≤ (k : Int) := by omega
            have hk1 : (k : Int) < (ps.length : Int) := by omega
            have hs1 := HSP.out k p hx
            unfold rdQ at hs1
            have HS := Lib.hid hs1
            clear hs1 hv hx
            obtain ⟨z, hz⟩ : ∃ z, rdC s xs (ps.take k) = z := ⟨_, rfl⟩
            rw [hz] at hcl ⊢
            have HZ := Lib.hid hz
            clear hz
            generalize p.st.length = q0 at *
            generalize p.mi.length = q1 at *
            generalize p.en.length = q2 at *
            generalize pfit p s = g at KQ HS
            generalize psL p s = ys at KQ HS
            cases g
            · go_wp2_with (fail)
              (go_at_call 16; refine (KQ.out _ hb).mono ?_; rintro e w5 ⟨vm, rfl, hvm, hb5⟩)
              have hbw5 := bl_step hb hb5
              have hvl : LV w5 vm ys := ⟨_, _, hvm⟩
              obtain ⟨va, vc, rfl, _, _⟩ := hvl.sl
              clear hvm hb5
              clear hvl
              go_wp2
              go_roundw
              case rel => exact ⟨k + 1, by omega, by go_num, by rw [HS.out, HZ.out]; rfl, hbw5⟩
              case measure => simp [intOf]; omega
            · cases hyx : decide (ys = xs)
              · go_wp2_with (fail)
                (go_at_call 16; refine (KQ.out _ hb).mono ?_; rintro e w5 ⟨vm, rfl, hvm, hb5⟩)
                have hbw5 := bl_step hb hb5
                have hvl : LV w5 vm ys := ⟨_, _, hvm⟩
                obtain ⟨va, vc, rfl, _, _⟩ := hvl.sl
                clear hvm hb5
                have KX := Lib.hid (KE.out _ _ w5 hvl hbw5)
                have HQ : Hid (decide (ys = xs) = false) := hyx
                rw [HQ.out] at KX
                clear hvl
                go_wp2_with (fail)
                (go_at_call 68; refine (KX.out).mono ?_; rintro e w6 ⟨rfl, hb6⟩)
                have hbw6 := bl_step hbw5 hb6
                go_wp2
                go_roundw
                case rel => exact ⟨k + 1, by omega, by go_num, by rw [HS.out, HZ.out, HQ.out]; rfl, hbw6⟩
                case measure => simp [intOf]; omega
              · go_wp2_with (fail)
                (go_at_call 16; refine (KQ.out _ hb).mono ?_; rintro e w5 ⟨vm, rfl, hvm, hb5⟩)
                have hbw5 := bl_step hb hb5
                have hvl : LV w5 vm ys := ⟨_, _, hvm⟩
                obtain ⟨va, vc, rfl, _, _⟩ := hvl.sl
                clear hvm hb5
                have KX := Lib.hid (KE.out _ _ w5 hvl hbw5)
                have HQ : Hid (decide (ys = xs) = true) := hyx
                rw [HQ.out] at KX
                clear hvl
                go_wp2_with (fail)
                (go_at_call 68; refine (KX.out).mono ?_; rintro e w6 ⟨rfl, hb6⟩)
                have hbw6 := bl_step hbw5 hb6
                go_wp2
                go_roundw
                case rel => exact ⟨k + 1, by omega, by go_num, by rw [HS.out, HZ.out, HQ.out]; go_num, hbw6⟩
                case measure => simp [intOf]; omega
          · have hkn : k = ps.length := by omega
            subst hkn
            have HT : Hid (rdC s xs (ps.take ps.length) = rdC s xs ps) := (congrArg _ List.take_length : rdC s xs (ps.take ps.length) = rdC s xs ps)
            go_wp2
            go_ret
            exact ⟨congrArg (fun z : Nat => Ending.returned (.int .i64 z)) HT.out, hb⟩

end Go.Proofs.Ytcmcdomfmmjogaa
