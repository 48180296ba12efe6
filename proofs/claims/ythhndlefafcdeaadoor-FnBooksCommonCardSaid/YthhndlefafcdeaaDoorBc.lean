/-
  Manuscripts, in both programs: which are lost, which are readings, what are manuscripts, at how many places two differ.
-/
import Derived.Test.YthhndlefafcdeaaDoorBk
import Derived.Test.YthhndlefafcdeaaDoorSv
import Derived.Test.YthhndlefafcdeaaDoorShelf
import Derived.Shelf.Strings.SlTrimAscii
import Derived.IntWalk
namespace Go.Proofs.YthhndlefafcdeaaDoor
open Go.RowKit
set_option maxRecDepth 100000
set_option linter.unusedVariables false

theorem l6InB_any (n lo hi : Int) (w : World) : Calls Tryd.prog 48 #[.int .i64 n, .int .i64 lo, .int .i64 hi] w fun e w' => e = .returned (.bool (decide (lo ≤ n) && decide (n ≤ hi))) ∧ w = w' := by
  by_cases h : lo ≤ n
  · have e : (decide (lo ≤ n) && decide (n ≤ hi)) = decide (n ≤ hi) := by simp [h]
    rw [e]
    go_enter Tryd.func48, Tryd.ntmps48
    go_wp2
    go_ret
    exact ⟨rfl, rfl⟩
  · have e : (decide (lo ≤ n) && decide (n ≤ hi)) = false := by simp [h]
    rw [e]
    go_enter Tryd.func48, Tryd.ntmps48
    go_wp2
    go_ret
    exact ⟨rfl, rfl⟩

set_option maxHeartbeats 4000000 in
theorem l7Lost_any (s : ByteArray) (hs : s.size ≤ 4611686018427387904) (w : World) :
    Calls Tryd.prog 64 #[.string s] w fun e w' => e = .returned (.bool (lostB s)) ∧ w = w' := by
  go_enter Tryd.func64, Tryd.ntmps64
  go_wp2
  go_loop [3] (fun i => ∃ k : Nat, k ≤ s.size ∧ i = .int .i64 k ∧ Hid ((s.data.toList.take k).all lsb = true)) (fun i => s.size - (intOf i).toNat)
  case atStart => exact ⟨0, Nat.zero_le _, rfl, by show _ = _; simp⟩
  case round =>
    obtain ⟨k, hk, rfl, hq⟩ := hrel
    by_cases hlt : k < s.size
    · have k1 : (k : Int) < (s.size : Int) := by omega
      have k0 : (0 : Int) ≤ (k : Int) := by omega
      cases hy : lsb s[k]
      · have h1 : ((s[k].toNat : Int) != 63) = true := by rw [bne_iff_ne]; have := lsb_no hy; omega
        have HF := Lib.hid (show lostB s = false from allp_bad hlt hy)
        clear hy
        go_wp2
        go_ret
        exact ⟨by rw [HF.out]; rfl, rfl⟩
      · have h1 : ((s[k].toNat : Int) != 63) = false := by rw [lsb_yes hy]; rfl
        have HN := Lib.hid (allp_next hq.out hlt hy)
        clear hy
        go_wp2
        go_round
        case rel => exact ⟨k + 1, by omega, by go_num, HN⟩
        case measure => simp [intOf]; omega
    · have hke : k = s.size := by omega
      subst hke
      have HF := Lib.hid (show lostB s = true from allp_end hq.out)
      go_wp2
      go_ret
      exact ⟨by rw [HF.out]; rfl, rfl⟩

set_option maxHeartbeats 4000000 in
theorem l7Reading_any (s : ByteArray) (hs : s.size ≤ 4611686018427387904) (w : World) :
    Calls Tryd.prog 63 #[.string s] w fun e w' => e = .returned (.bool (readB s)) ∧ w = w' := by
  go_enter Tryd.func63, Tryd.ntmps63
  go_wp2
  go_loop [3] (fun i => ∃ k : Nat, k ≤ s.size ∧ i = .int .i64 k ∧ Hid ((s.data.toList.take k).all rdg = true)) (fun i => s.size - (intOf i).toNat)
  case atStart => exact ⟨0, Nat.zero_le _, rfl, by show _ = _; simp⟩
  case round =>
    obtain ⟨k, hk, rfl, hq⟩ := hrel
    by_cases hlt : k < s.size
    · have k1 : (k : Int) < (s.size : Int) := by omega
      have k0 : (0 : Int) ≤ (k : Int) := by omega
      cases hy : rdg s[k]
      · have HF := Lib.hid (show readB s = false from allp_bad hlt hy)
        have h9 := rdg_no hy
        clear hy
        by_cases h97 : s[k].toNat < 97
        · have g1 : decide (s[k].toNat < 97) = true := decide_eq_true h97
          have g2 : decide ((s[k].toNat : Int) < 97) = true := decide_eq_true (by omega)
          clear h9
          go_wp2
          go_ret
          exact ⟨by rw [HF.out]; rfl, rfl⟩
        · have g1 : decide (s[k].toNat < 97) = false := decide_eq_false h97
          have g2 : decide ((s[k].toNat : Int) < 97) = false := decide_eq_false (by omega)
          have g3 : decide (100 < s[k].toNat) = true := decide_eq_true (by omega)
          have g4 : decide (100 < (s[k].toNat : Int)) = true := decide_eq_true (by omega)
          clear h9
          go_wp2
          go_ret
          exact ⟨by rw [HF.out]; rfl, rfl⟩
      · have HN := Lib.hid (allp_next hq.out hlt hy)
        have h9 := rdg_yes hy
        have g1 : decide (s[k].toNat < 97) = false := decide_eq_false (by omega)
        have g2 : decide ((s[k].toNat : Int) < 97) = false := decide_eq_false (by omega)
        have g3 : decide (100 < s[k].toNat) = false := decide_eq_false (by omega)
        have g4 : decide (100 < (s[k].toNat : Int)) = false := decide_eq_false (by omega)
        clear hy h9
        go_wp2
        go_round
        case rel => exact ⟨k + 1, by omega, by go_num, HN⟩
        case measure => simp [intOf]; omega
    · have hke : k = s.size := by omega
      subst hke
      have HF := Lib.hid (show readB s = true from allp_end hq.out)
      go_wp2
      go_ret
      exact ⟨by rw [HF.out]; rfl, rfl⟩

theorem dw_all (p : UInt8 → Bool) (l : List UInt8) : (l.dropWhile p).isEmpty = l.all p := by
  induction l with
  | nil => rfl
  | cons a r ih =>
    rw [List.dropWhile_cons, List.all_cons]
    cases h : p a with
    | true => simpa using ih
    | false => simp
theorem trim_empty (l cs : List UInt8) : (Lib.trimS l cs).isEmpty = l.all (cs.contains ·) := by
  unfold Lib.trimS Lib.trimLeftS
  rw [dw_all]
  have h2 : Lib.trimRightS l cs = (l.reverse.dropWhile (cs.contains ·)).reverse := rfl
  rw [h2, List.all_reverse]
  have h3 := dw_all (cs.contains ·) l.reverse
  rw [List.all_reverse] at h3
  rw [← h3]
  cases hd : l.reverse.dropWhile (cs.contains ·) with
  | nil => rfl
  | cons a r =>
    have hne : l.reverse.dropWhile (cs.contains ·) ≠ [] := by rw [hd]; simp
    have := List.head_dropWhile_not (p := (cs.contains ·)) (l := l.reverse) hne
    simp only [hd, List.head_cons] at this
    have h4 : cs.contains a = false := by simpa using this
    simpa using fun e : a ∈ cs => absurd (List.contains_iff_mem.2 e) (by rw [h4]; simp)
theorem trim_nil (s : ByteArray) (cs : List UInt8) : ((⟨(Lib.trimS s.data.toList cs).toArray⟩ : ByteArray).toList == []) = s.data.toList.all (cs.contains ·) := by
  rw [← trim_empty, ByteArray.toList_eq]
  show (Lib.trimS s.data.toList cs == []) = _
  cases Lib.trimS s.data.toList cs <;> rfl
theorem trim_nil2 (s : ByteArray) (cs : List UInt8) : (⟨(Lib.trimS s.data.toList cs).toArray⟩ : ByteArray).toList.isEmpty = s.data.toList.all (cs.contains ·) := by
  rw [← trim_nil]
  cases (⟨(Lib.trimS s.data.toList cs).toArray⟩ : ByteArray).toList <;> rfl

set_option maxHeartbeats 4000000 in
theorem isLost_any (s : ByteArray) (hs : s.size ≤ 4611686018427387904) (w : World) :
    Calls Tryd.prog 65 #[.string s] w fun e w' => e = .returned (.bool (lostB s)) ∧ Below w.heap.size w w' := by
  have KT := Lib.hid (fun W => Any.strings_Trim_laid Tryd.lays160 (by kernel_rfl) s ⟨#[63]⟩ W (by omega) (by decide) (ascii_of_all (by decide)))
  have h1 : s.data.toList.all (([63] : List UInt8).contains ·) = lostB s := by
    unfold lostB
    congr 1
    funext c
    rw [Bool.eq_iff_iff]
    simp [lsb]
  have t1 := trim_nil s [63]
  have t2 := trim_nil2 s [63]
  rw [h1] at t1 t2
  have KT : Hid (∀ W, Calls Tryd.prog 73 #[.string s, .string ⟨#[63]⟩] W fun e w' => e = .returned (.string ⟨(Lib.trimS s.data.toList [63]).toArray⟩) ∧ Below W.heap.size W w') := KT
  generalize (⟨(Lib.trimS s.data.toList [63]).toArray⟩ : ByteArray) = x at KT t1 t2
  generalize lostB s = b at t1 t2
  clear h1
  go_enter Tryd.func65, Tryd.ntmps65
  go_wp2_with (fail)
  (go_at_call 73; refine (KT.out _).mono ?_; rintro e w1 ⟨rfl, hb1⟩)
  go_wp2
  go_ret
  exact ⟨rfl, hb1⟩

set_option maxHeartbeats 4000000 in
theorem isReading_any (s : ByteArray) (hs : s.size ≤ 4611686018427387904) (w : World) :
    Calls Tryd.prog 66 #[.string s] w fun e w' => e = .returned (.bool (readB s)) ∧ Below w.heap.size w w' := by
  have KT := Lib.hid (fun W => Any.strings_Trim_laid Tryd.lays160 (by kernel_rfl) s ⟨#[97, 98, 99, 100]⟩ W (by omega) (by decide) (ascii_of_all (by decide)))
  have h1 : s.data.toList.all (([97, 98, 99, 100] : List UInt8).contains ·) = readB s := by
    unfold readB
    congr 1
    funext c
    rw [Bool.eq_iff_iff]
    simp [rdg, or_assoc]
  have t1 := trim_nil s [97, 98, 99, 100]
  have t2 := trim_nil2 s [97, 98, 99, 100]
  rw [h1] at t1 t2
  have KT : Hid (∀ W, Calls Tryd.prog 73 #[.string s, .string ⟨#[97, 98, 99, 100]⟩] W fun e w' => e = .returned (.string ⟨(Lib.trimS s.data.toList [97, 98, 99, 100]).toArray⟩) ∧ Below W.heap.size W w') := KT
  generalize (⟨(Lib.trimS s.data.toList [97, 98, 99, 100]).toArray⟩ : ByteArray) = x at KT t1 t2
  generalize readB s = b at t1 t2
  clear h1
  go_enter Tryd.func66, Tryd.ntmps66
  go_wp2_with (fail)
  (go_at_call 73; refine (KT.out _).mono ?_; rintro e w1 ⟨rfl, hb1⟩)
  go_wp2
  go_ret
  exact ⟨rfl, hb1⟩

set_option maxHeartbeats 4000000 in
theorem l7Far_any (s t : ByteArray) (hst : s.size = t.size) (hs : s.size ≤ 1000000) (w : World) :
    Calls Tryd.prog 49 #[.string s, .string t] w fun e w' => e = .returned (.int .i64 (fr s t : Int)) ∧ ∃ m, w' = w.drewN m := by
  have HE : Hid (fr s t = frk s t s.size) := rfl
  have HT := Lib.hid hst
  go_enter Tryd.func49, Tryd.ntmps49
  go_wp2
  go_loopw [5, 6] (fun n i wr => ∃ k : Nat, k ≤ s.size ∧ i = .int .i64 k ∧ n = .int .i64 (frk s t k : Int) ∧ ∃ m, wr = w.drewN m) (fun _ i _ => s.size - (intOf i).toNat)
  case atStart => exact ⟨0, Nat.zero_le _, rfl, rfl, 0, rfl⟩
  case round =>
    obtain ⟨k, hk, rfl, rfl, md, hw⟩ := hrel
    have HW := Lib.hid hw
    have hle := frk_le s t k
    clear hw
    by_cases hlt : k < s.size
    · have k1 : (k : Int) < (s.size : Int) := by omega
      have k0 : (0 : Int) ≤ (k : Int) := by omega
      have hlt2 : k < t.size := by have := HT.out; omega
      have k2 : (k : Int) < (t.size : Int) := by omega
      by_cases he : s[k].toNat = t[k].toNat
      · have HX := Lib.hid (frk_same hlt hlt2 he)
        have h1 : ((s[k].toNat : Int) != (t[k].toNat : Int)) = false := by rw [bne_eq_false_iff_eq]; omega
        clear he
        generalize frk s t k = z at HX hle ⊢
        go_wp2
        go_quiet (fail)
        go_wp2
        go_roundw
        case rel => exact ⟨k + 1, by omega, by go_num, by rw [HX.out], _, by rw [HW.out, World.drewN_drewN]⟩
        case measure => simp [intOf]; omega
      · have HX := Lib.hid (frk_other hlt hlt2 he)
        have h1 : ((s[k].toNat : Int) != (t[k].toNat : Int)) = true := by rw [bne_iff_ne]; omega
        clear he
        generalize frk s t k = z at HX hle ⊢
        go_wp2
        go_quiet (fail)
        go_wp2
        go_roundw
        case rel => exact ⟨k + 1, by omega, by go_num, by rw [HX.out]; go_num, _, by rw [HW.out, World.drewN_drewN]⟩
        case measure => simp [intOf]; omega
    · have hke : k = s.size := by omega
      subst hke
      go_wp2
      go_ret
      exact ⟨by rw [HE.out]; rfl, _, HW.out⟩

set_option maxHeartbeats 4000000 in
theorem far_any (s t : ByteArray) (hst : s.size = t.size) (hs : s.size ≤ 1000000) (w : World) :
    Calls Tryd.prog 50 #[.string s, .string t] w fun e w' => e = .returned (.int .i64 (fr s t : Int)) ∧ ∃ m, w' = w.drewN m := by
  have HE : Hid (fr s t = frk s t s.size) := rfl
  have HT := Lib.hid hst
  go_enter Tryd.func50, Tryd.ntmps50
  go_wp2
  go_loopw [5, 9] (fun n i wr => ∃ k : Nat, k ≤ s.size ∧ i = .int .i64 k ∧ n = .int .i64 (frk s t k : Int) ∧ ∃ m, wr = w.drewN m) (fun _ i _ => s.size - (intOf i).toNat)
  case atStart => exact ⟨0, Nat.zero_le _, rfl, rfl, 0, rfl⟩
  case round =>
    obtain ⟨k, hk, rfl, rfl, md, hw⟩ := hrel
    have HW := Lib.hid hw
    have hle := frk_le s t k
    clear hw
    by_cases hlt : k < s.size
    · have k1 : (k : Int) < (s.size : Int) := by omega
      have k0 : (0 : Int) ≤ (k : Int) := by omega
      have hlt2 : k < t.size := by have := HT.out; omega
      have k2 : (k : Int) < (t.size : Int) := by omega
      by_cases he : s[k].toNat = t[k].toNat
      · have HX := Lib.hid (frk_same hlt hlt2 he)
        have h1 : ((s[k].toNat : Int) != (t[k].toNat : Int)) = false := by rw [bne_eq_false_iff_eq]; omega
        clear he
        generalize frk s t k = z at HX hle ⊢
        go_wp2
        go_quiet (fail)
        go_wp2
        go_roundw
        case rel => exact ⟨k + 1, by omega, by go_num, by rw [HX.out], _, by rw [HW.out, World.drewN_drewN]⟩
        case measure => simp [intOf]; omega
      · have HX := Lib.hid (frk_other hlt hlt2 he)
        have h1 : ((s[k].toNat : Int) != (t[k].toNat : Int)) = true := by rw [bne_iff_ne]; omega
        clear he
        generalize frk s t k = z at HX hle ⊢
        go_wp2
        go_quiet (fail)
        go_wp2
        go_roundw
        case rel => exact ⟨k + 1, by omega, by go_num, by rw [HX.out]; go_num, _, by rw [HW.out, World.drewN_drewN]⟩
        case measure => simp [intOf]; omega
    · have hke : k = s.size := by omega
      subst hke
      go_wp2
      go_ret
      exact ⟨by rw [HE.out]; rfl, _, HW.out⟩

theorem toplc {ss : List ByteArray} (h0 : ¬ ss.length = 0) : ∃ s0, ss[0]? = some s0 ∧ plc ss = s0.size := by
  obtain ⟨s0, hs0⟩ := ss_get (ss := ss) (k := 0) (by omega)
  exact ⟨s0, hs0, plc_get hs0⟩

set_option maxHeartbeats 3000000 in
theorem l7Books_any (v : Value) (ss : List ByteArray) (w : World) (h : SV w v ss) (hsz : ∀ s ∈ ss, s.size ≤ 4611686018427387904) :
    Calls Tryd.prog 46 #[v] w fun e w' => e = .returned (.tuple #[.int .i64 (bkL ss : Int), .bool (bkOk ss)]) ∧ ∃ m, w' = w.drewN m := by
  obtain ⟨a, c, rfl, ha, hc1, hc2⟩ := h
  unfold maxLen at hc2
  have HA := Lib.hid ha
  have HSZ := Lib.hid hsz
  clear ha hsz
  have HL1 := Lib.hid (l6InB_any (ss.length : Int) 1 6)
  by_cases h0 : ss.length = 0
  · have hz := bkOk_no (bkIn_no1 h0)
    rw [bkL_no hz, hz]
    have e1 : (decide ((1 : Int) ≤ (ss.length : Int)) && decide ((ss.length : Int) ≤ 6)) = false := by simp [h0]
    rw [e1] at HL1
    clear hz e1 h0
    go_enter Tryd.func46, Tryd.ntmps46
    go_wp2_with (fail)
    (go_at_call 48; refine (HL1.out _).mono ?_; rintro e wx ⟨rfl, rfl⟩)
    go_wp2
    go_ret2
    exact ⟨rfl, 0, rfl⟩
  by_cases h6 : 6 < ss.length
  · have hz := bkOk_no (bkIn_no2 h6)
    rw [bkL_no hz, hz]
    have e1 : (decide ((1 : Int) ≤ (ss.length : Int)) && decide ((ss.length : Int) ≤ 6)) = false := by rw [decide_eq_false (by omega : ¬ ((ss.length : Int) ≤ 6)), Bool.and_false]
    rw [e1] at HL1
    clear hz e1
    go_enter Tryd.func46, Tryd.ntmps46
    go_wp2_with (fail)
    (go_at_call 48; refine (HL1.out _).mono ?_; rintro e wx ⟨rfl, rfl⟩)
    go_wp2
    go_ret2
    exact ⟨rfl, 0, rfl⟩
  have e1 : (decide ((1 : Int) ≤ (ss.length : Int)) && decide ((ss.length : Int) ≤ 6)) = true := by rw [decide_eq_true (by omega), decide_eq_true (by omega)]; rfl
  rw [e1] at HL1
  clear e1
  obtain ⟨s0, hs0, hp0⟩ := toplc h0
  have hne : ss ≠ [] := by rintro rfl; simp at h0
  rcases HA.out with hh | ⟨A, off, rfl, hA, hc⟩
  · exact absurd hh hne
  have HC := Lib.hid hc
  clear hc hne HA
  have c0 : w.cell? ⟨A, off, none⟩ = some (.string s0) := HC.out 0 s0 hs0
  have HL2 := Lib.hid (l6InB_any (s0.size : Int) 1 8)
  have i0 : (0 : Int) < (ss.length : Int) := by omega
  have hsz0 := HSZ.out s0 (List.mem_of_getElem? hs0)
  by_cases hpl : 1 ≤ s0.size ∧ s0.size ≤ 8
  case neg =>
    have hz : bkOk ss = false := by
      by_cases h1 : s0.size = 0
      · exact bkOk_no (bkIn_no3 (by rw [hp0]; exact h1))
      · exact bkOk_no (bkIn_no4 (by rw [hp0]; omega))
    rw [bkL_no hz, hz]
    have e1 : (decide ((1 : Int) ≤ (s0.size : Int)) && decide ((s0.size : Int) ≤ 8)) = false := by
      rw [Bool.and_eq_false_iff]
      by_cases h1 : 1 ≤ s0.size
      · exact .inr (decide_eq_false (by omega))
      · exact .inl (decide_eq_false (by omega))
    rw [e1] at HL2
    clear hz e1 hpl hp0 hs0
    go_enter Tryd.func46, Tryd.ntmps46
    go_wp2_with (fail)
    (go_at_call 48; refine (HL1.out _).mono ?_; rintro e wx ⟨rfl, rfl⟩)
    go_wp2_with (fail)
    (go_at_call 48; refine (HL2.out _).mono ?_; rintro e wx ⟨rfl, rfl⟩)
    go_wp2
    go_ret2
    exact ⟨rfl, 0, rfl⟩
  have e1 : (decide ((1 : Int) ≤ (s0.size : Int)) && decide ((s0.size : Int) ≤ 8)) = true := by rw [decide_eq_true (by omega), decide_eq_true (by omega)]; rfl
  rw [e1] at HL2
  have HIN : Hid (bkIn ss = true) := bkIn_yes h0 (by omega) (by rw [hp0]; omega) (by rw [hp0]; omega)
  have HP0 := Lib.hid hp0
  clear e1 hs0 hp0
  go_enter Tryd.func46, Tryd.ntmps46
  go_wp2_with (fail)
  (go_at_call 48; refine (HL1.out _).mono ?_; rintro e wx ⟨rfl, rfl⟩)
  go_wp2_with (fail)
  (go_at_call 48; refine (HL2.out _).mono ?_; rintro e wx ⟨rfl, rfl⟩)
  go_wp2_with (fail)
  go_loopw [4, 5] (fun n i wr => ∃ k m : Nat, k ≤ ss.length ∧ i = .int .i64 k ∧ n = .int .i64 (m : Int) ∧ BkTo ss k m ∧ ∃ d, wr = w.drewN d) (fun _ i _ => ss.length - (intOf i).toNat)
  case atStart => exact ⟨0, 0, Nat.zero_le _, rfl, rfl, BkTo.zero _, 0, rfl⟩
  case round =>
    obtain ⟨k, m, hk, rfl, rfl, hq, d, hw⟩ := hrel
    have HQ := Lib.hid hq
    have HW := Lib.hid hw
    have hmk := hq.le hk
    clear hq hw
    by_cases hlt : k < ss.length
    · obtain ⟨s, hs⟩ := ss_get hlt
      have f0 : wr.cell? ⟨A, off, none⟩ = some (.string s0) := by rw [HW.out]; exact c0
      have f1 : wr.cell? ⟨A, off + k, none⟩ = some (.string s) := by rw [HW.out]; exact HC.out k s hs
      have hsm := HSZ.out s (List.mem_of_getElem? hs)
      have k0 : (0 : Int) ≤ (k : Int) := by omega
      have k1 : (k : Int) < (ss.length : Int) := by omega
      have HR := Lib.hid (fun W => l7Reading_any s hsm W)
      have HLo := Lib.hid (fun W => l7Lost_any s hsm W)
      have HS := Lib.hid hs
      clear hs
      by_cases hn : s.size = s0.size
      case neg =>
        have HF : Hid (bkOk ss = false) := bkOk_bad HS.out (bk1_size (by rw [HP0.out]; exact hn))
        have HF2 := Lib.hid (bkL_no HF.out)
        have t1 : ((s.size : Int) != (s0.size : Int)) = true := by rw [bne_iff_ne]; omega
        clear hn
        go_wp2_with (fail)
        go_quiet (fail)
        go_wp2
        go_ret2
        exact ⟨by rw [HF.out, HF2.out]; rfl, _, by rw [HW.out, World.drewN_drewN]⟩
      have t1 : ((s.size : Int) != (s0.size : Int)) = false := by rw [bne_eq_false_iff_eq]; omega
      cases hlo : lostB s with
      | true =>
        cases hr : readB s with
        | true =>
          rw [hr] at HR
          have HN : Hid (BkTo ss (k + 1) (m + 1)) := HQ.out.lost HS.out (by rw [HP0.out]; exact hn) hlo
          rw [hlo] at HLo
          clear hr hlo hn
          go_wp2_with (fail)
          go_quiet (first | (go_at_call 63; exact Calls.quiet_of_same ((HR.out _).mono fun e w' ⟨a, b⟩ => ⟨a, b.symm⟩)) | (go_at_call 64; exact Calls.quiet_of_same ((HLo.out _).mono fun e w' ⟨a, b⟩ => ⟨a, b.symm⟩)))
          obtain ⟨W3, hW3⟩ : ∃ W3, W3 = wr.drewN nq := ⟨_, rfl⟩
          rw [← hW3]
          have f2 : W3.cell? ⟨A, off + k, none⟩ = some (.string s) := by rw [hW3]; exact f1
          have HW3 : Hid (∃ d, W3 = w.drewN d) := ⟨_, by rw [hW3, HW.out, World.drewN_drewN]⟩
          clear hW3
          go_wp2_with (fail)
          (go_at_call 64; refine (HLo.out _).mono ?_; rintro e wx ⟨rfl, rfl⟩)
          go_wp2
          go_roundw
          case rel => exact ⟨k + 1, m + 1, by omega, by go_num, by go_num, HN.out, HW3.out⟩
          case measure => simp [intOf]; omega
        | false =>
          rw [hr] at HR
          have HN : Hid (BkTo ss (k + 1) (m + 1)) := HQ.out.lost HS.out (by rw [HP0.out]; exact hn) hlo
          rw [hlo] at HLo
          clear hr hlo hn
          go_wp2_with (fail)
          go_quiet (first | (go_at_call 63; exact Calls.quiet_of_same ((HR.out _).mono fun e w' ⟨a, b⟩ => ⟨a, b.symm⟩)) | (go_at_call 64; exact Calls.quiet_of_same ((HLo.out _).mono fun e w' ⟨a, b⟩ => ⟨a, b.symm⟩)))
          obtain ⟨W3, hW3⟩ : ∃ W3, W3 = wr.drewN nq := ⟨_, rfl⟩
          rw [← hW3]
          have f2 : W3.cell? ⟨A, off + k, none⟩ = some (.string s) := by rw [hW3]; exact f1
          have HW3 : Hid (∃ d, W3 = w.drewN d) := ⟨_, by rw [hW3, HW.out, World.drewN_drewN]⟩
          clear hW3
          go_wp2_with (fail)
          (go_at_call 64; refine (HLo.out _).mono ?_; rintro e wx ⟨rfl, rfl⟩)
          go_wp2
          go_roundw
          case rel => exact ⟨k + 1, m + 1, by omega, by go_num, by go_num, HN.out, HW3.out⟩
          case measure => simp [intOf]; omega
      | false =>
        cases hr : readB s with
        | true =>
          rw [hr] at HR
          have HN : Hid (BkTo ss (k + 1) m) := HQ.out.kept HS.out (by rw [HP0.out]; exact hn) hlo hr
          rw [hlo] at HLo
          clear hr hlo hn
          go_wp2_with (fail)
          go_quiet (first | (go_at_call 63; exact Calls.quiet_of_same ((HR.out _).mono fun e w' ⟨a, b⟩ => ⟨a, b.symm⟩)) | (go_at_call 64; exact Calls.quiet_of_same ((HLo.out _).mono fun e w' ⟨a, b⟩ => ⟨a, b.symm⟩)))
          obtain ⟨W3, hW3⟩ : ∃ W3, W3 = wr.drewN nq := ⟨_, rfl⟩
          rw [← hW3]
          have f2 : W3.cell? ⟨A, off + k, none⟩ = some (.string s) := by rw [hW3]; exact f1
          have HW3 : Hid (∃ d, W3 = w.drewN d) := ⟨_, by rw [hW3, HW.out, World.drewN_drewN]⟩
          clear hW3
          go_wp2_with (fail)
          (go_at_call 64; refine (HLo.out _).mono ?_; rintro e wx ⟨rfl, rfl⟩)
          go_wp2
          go_roundw
          case rel => exact ⟨k + 1, m, by omega, by go_num, rfl, HN.out, HW3.out⟩
          case measure => simp [intOf]; omega
        | false =>
          rw [hr] at HR
          have HF : Hid (bkOk ss = false) := bkOk_bad HS.out (bk1_none hlo hr)
          have HF2 := Lib.hid (bkL_no HF.out)
          rw [hlo] at HLo
          clear hr hlo hn
          go_wp2_with (fail)
          go_quiet (first | (go_at_call 63; exact Calls.quiet_of_same ((HR.out _).mono fun e w' ⟨a, b⟩ => ⟨a, b.symm⟩)) | (go_at_call 64; exact Calls.quiet_of_same ((HLo.out _).mono fun e w' ⟨a, b⟩ => ⟨a, b.symm⟩)))
          go_wp2
          go_ret2
          exact ⟨by rw [HF.out, HF2.out]; rfl, _, by rw [HW.out, World.drewN_drewN]⟩
    · have hke : k = ss.length := by omega
      subst hke
      obtain ⟨h1, h2⟩ := HQ.out.all HIN.out
      have H1 := Lib.hid h1
      have H2 := Lib.hid h2
      clear h1 h2
      go_wp2
      go_ret2
      exact ⟨by rw [H1.out, H2.out]; rfl, _, HW.out⟩

set_option maxHeartbeats 2000000 in
theorem countLost_any (v : Value) (ss : List ByteArray) (w : World) (h : SV w v ss) (hsz : ∀ s ∈ ss, s.size ≤ 4611686018427387904) :
    Calls Tryd.prog 47 #[v] w fun e w' => e = .returned (.tuple #[.int .i64 (bkL ss : Int), .bool (bkOk ss)]) ∧ Below w.heap.size w w' := by
  obtain ⟨a, c, rfl, ha, hc1, hc2⟩ := h
  unfold maxLen at hc2
  have HA := Lib.hid ha
  have HSZ := Lib.hid hsz
  clear ha hsz
  by_cases h0 : ss.length = 0
  · have hz := bkOk_no (bkIn_no1 h0)
    rw [bkL_no hz, hz]
    have e1 : ((ss.length : Int) == 0) = true := by simp [h0]
    clear hz h0
    go_enter Tryd.func47, Tryd.ntmps47
    go_wp2
    go_ret2
    exact ⟨rfl, Below.refl _ _⟩
  have e1 : ((ss.length : Int) == 0) = false := by rw [beq_eq_false_iff_ne]; omega
  by_cases h6 : 6 < ss.length
  · have hz := bkOk_no (bkIn_no2 h6)
    rw [bkL_no hz, hz]
    have e2 : decide (6 < (ss.length : Int)) = true := decide_eq_true (by omega)
    have e3 : decide (6 < ss.length) = true := decide_eq_true (by omega)
    clear hz
    go_enter Tryd.func47, Tryd.ntmps47
    go_wp2
    go_ret2
    exact ⟨rfl, Below.refl _ _⟩
  have e2 : decide (6 < (ss.length : Int)) = false := decide_eq_false (by omega)
  have e3 : decide (6 < ss.length) = false := decide_eq_false (by omega)
  obtain ⟨s0, hs0, hp0⟩ := toplc h0
  have hne : ss ≠ [] := by rintro rfl; simp at h0
  rcases HA.out with hh | ⟨A, off, rfl, hA, hc⟩
  · exact absurd hh hne
  have HC := Lib.hid hc
  clear hc hne HA
  have c0 : w.cell? ⟨A, off, none⟩ = some (.string s0) := HC.out 0 s0 hs0
  have i0 : (0 : Int) < (ss.length : Int) := by omega
  have hsz0 := HSZ.out s0 (List.mem_of_getElem? hs0)
  by_cases hz0 : s0.size = 0
  · have hz := bkOk_no (bkIn_no3 (by rw [hp0]; exact hz0))
    rw [bkL_no hz, hz]
    have e4 : ((s0.size : Int) == 0) = true := by simp [hz0]
    clear hz hz0 hp0 hs0
    go_enter Tryd.func47, Tryd.ntmps47
    go_wp2
    go_ret2
    exact ⟨rfl, Below.refl _ _⟩
  have e4 : ((s0.size : Int) == 0) = false := by rw [beq_eq_false_iff_ne]; omega
  by_cases h8 : 8 < s0.size
  · have hz := bkOk_no (bkIn_no4 (by rw [hp0]; exact h8))
    rw [bkL_no hz, hz]
    have e5 : decide (8 < (s0.size : Int)) = true := decide_eq_true (by omega)
    have e6 : decide (8 < s0.size) = true := decide_eq_true (by omega)
    clear hz hp0 hs0
    go_enter Tryd.func47, Tryd.ntmps47
    go_wp2
    go_ret2
    exact ⟨rfl, Below.refl _ _⟩
  have e5 : decide (8 < (s0.size : Int)) = false := decide_eq_false (by omega)
  have e6 : decide (8 < s0.size) = false := decide_eq_false (by omega)
  have HIN : Hid (bkIn ss = true) := bkIn_yes h0 (by omega) (by rw [hp0]; omega) (by rw [hp0]; omega)
  have HP0 := Lib.hid hp0
  clear hs0 hp0
  go_enter Tryd.func47, Tryd.ntmps47
  go_wp2_with (fail)
  go_loopw [5, 28] (fun n i wr => ∃ k m : Nat, k ≤ ss.length ∧ i = .int .i64 k ∧ n = .int .i64 (m : Int) ∧ BkTo ss k m ∧ Below w.heap.size w wr) (fun _ i _ => ss.length - (intOf i).toNat)
  case atStart => exact ⟨0, 0, Nat.zero_le _, rfl, rfl, BkTo.zero _, Below.refl _ _⟩
  case round =>
    obtain ⟨k, m, hk, rfl, rfl, hq, hb⟩ := hrel
    have HQ := Lib.hid hq
    have HB := Lib.hid hb
    have hmk := hq.le hk
    clear hq
    by_cases hlt : k < ss.length
    · obtain ⟨s, hs⟩ := ss_get hlt
      have f1 : wr.cell? ⟨A, off + k, none⟩ = some (.string s) := (hb.cell (p := ⟨A, off + k, none⟩) hA).trans (HC.out k s hs)
      have hsm := HSZ.out s (List.mem_of_getElem? hs)
      have k0 : (0 : Int) ≤ (k : Int) := by omega
      have k1 : (k : Int) < (ss.length : Int) := by omega
      have HR := Lib.hid (fun W => isReading_any s hsm W)
      have HLo := Lib.hid (fun W => isLost_any s hsm W)
      have HS := Lib.hid hs
      clear hs hb
      by_cases hn : s.size = s0.size
      case neg =>
        have HF : Hid (bkOk ss = false) := bkOk_bad HS.out (bk1_size (by rw [HP0.out]; exact hn))
        have HF2 := Lib.hid (bkL_no HF.out)
        have t1 : ((s.size : Int) != (s0.size : Int)) = true := by rw [bne_iff_ne]; omega
        clear hn
        go_wp2_with (fail)
        go_ret2
        exact ⟨by rw [HF.out, HF2.out]; rfl, HB.out⟩
      have t1 : ((s.size : Int) != (s0.size : Int)) = false := by rw [bne_eq_false_iff_eq]; omega
      cases hlo : lostB s with
      | true =>
        have HN : Hid (BkTo ss (k + 1) (m + 1)) := HQ.out.lost HS.out (by rw [HP0.out]; exact hn) hlo
        rw [hlo] at HLo
        clear hlo hn
        go_wp2_with (fail)
        (go_at_call 65; refine (HLo.out _).mono ?_; rintro e w1 ⟨rfl, hb1⟩)
        go_wp2
        go_roundw
        case rel => exact ⟨k + 1, m + 1, by omega, by go_num, by go_num, HN.out, bl_step HB.out hb1⟩
        case measure => simp [intOf]; omega
      | false =>
        cases hr : readB s with
        | true =>
          have HN : Hid (BkTo ss (k + 1) m) := HQ.out.kept HS.out (by rw [HP0.out]; exact hn) hlo hr
          rw [hlo] at HLo
          rw [hr] at HR
          clear hlo hn hr
          go_wp2_with (fail)
          (go_at_call 65; refine (HLo.out _).mono ?_; rintro e w1 ⟨rfl, hb1⟩)
          go_wp2_with (fail)
          (go_at_call 66; refine (HR.out _).mono ?_; rintro e w2 ⟨rfl, hb2⟩)
          go_wp2
          go_roundw
          case rel => exact ⟨k + 1, m, by omega, by go_num, rfl, HN.out, bl_step (bl_step HB.out hb1) hb2⟩
          case measure => simp [intOf]; omega
        | false =>
          have HF : Hid (bkOk ss = false) := bkOk_bad HS.out (bk1_none hlo hr)
          have HF2 := Lib.hid (bkL_no HF.out)
          rw [hlo] at HLo
          rw [hr] at HR
          clear hlo hn hr
          go_wp2_with (fail)
          (go_at_call 65; refine (HLo.out _).mono ?_; rintro e w1 ⟨rfl, hb1⟩)
          go_wp2_with (fail)
          (go_at_call 66; refine (HR.out _).mono ?_; rintro e w2 ⟨rfl, hb2⟩)
          go_wp2
          go_ret2
          exact ⟨by rw [HF.out, HF2.out]; rfl, bl_step (bl_step HB.out hb1) hb2⟩
    · have hke : k = ss.length := by omega
      subst hke
      obtain ⟨h1, h2⟩ := HQ.out.all HIN.out
      have H1 := Lib.hid h1
      have H2 := Lib.hid h2
      clear h1 h2
      go_wp2
      go_ret2
      exact ⟨by rw [H1.out, H2.out]; rfl, HB.out⟩

set_option maxHeartbeats 2000000 in
theorem sBooksValid_any (v : Value) (ss : List ByteArray) (w : World) (h : SV w v ss) (hsz : ∀ s ∈ ss, s.size ≤ 4611686018427387904) :
    Calls Tryd.prog 16 #[v] w fun e w' => e = .returned (.bool (bval ss)) ∧ ∃ m, w' = w.drewN m := by
  have KB := Lib.hid (l7Books_any v ss w h hsz)
  clear h
  cases hk : bkOk ss with
  | false =>
    rw [bval_no hk]
    rw [hk, bkL_no hk] at KB
    go_enter Tryd.func16, Tryd.ntmps16
    go_wp2_with (fail)
    (go_at_call 46; refine (KB.out).mono ?_; rintro e w1 ⟨rfl, m, rfl⟩)
    go_wp2
    go_ret
    exact ⟨rfl, _, rfl⟩
  | true =>
    have HV := Lib.hid (bval_eq hk)
    rw [hk] at KB
    clear hk
    generalize (bkL ss : Int) = n at KB HV
    go_enter Tryd.func16, Tryd.ntmps16
    go_wp2_with (fail)
    (go_at_call 46; refine (KB.out).mono ?_; rintro e w1 ⟨rfl, m, rfl⟩)
    go_wp2
    go_ret
    exact ⟨by rw [HV.out]; first | rfl | congr 2, _, rfl⟩

set_option maxHeartbeats 2000000 in
theorem booksValid_any (v : Value) (ss : List ByteArray) (w : World) (h : SV w v ss) (hsz : ∀ s ∈ ss, s.size ≤ 4611686018427387904) :
    Calls Tryd.prog 18 #[v] w fun e w' => e = .returned (.bool (bval ss)) ∧ Below w.heap.size w w' := by
  have KB := Lib.hid (countLost_any v ss w h hsz)
  clear h
  cases hk : bkOk ss with
  | false =>
    rw [bval_no hk]
    rw [hk, bkL_no hk] at KB
    go_enter Tryd.func18, Tryd.ntmps18
    go_wp2_with (fail)
    (go_at_call 47; refine (KB.out).mono ?_; rintro e w1 ⟨rfl, hb1⟩)
    go_wp2
    go_ret
    exact ⟨rfl, hb1⟩
  | true =>
    have HV := Lib.hid (bval_eq hk)
    rw [hk] at KB
    clear hk
    generalize (bkL ss : Int) = n at KB HV
    go_enter Tryd.func18, Tryd.ntmps18
    go_wp2_with (fail)
    (go_at_call 47; refine (KB.out).mono ?_; rintro e w1 ⟨rfl, hb1⟩)
    go_wp2
    go_ret
    exact ⟨by rw [HV.out]; first | rfl | congr 2, hb1⟩

theorem bl_drewN {B : Nat} {w w' : World} (h : Below B w w') (n : Nat) : Below B w (w'.drewN n) := ⟨h.os, h.tape, h.output, h.size, h.block⟩

set_option maxHeartbeats 4000000 in
theorem sBooksFar_any (v : Value) (ss : List ByteArray) (i k : Int) (hi : (Lit.int .i64 i).wf = true) (hk : (Lit.int .i64 k).wf = true) (w : World) (h : SV w v ss) (hsz : ∀ s ∈ ss, s.size ≤ 4611686018427387904) :
    Calls Tryd.prog 20 #[v, .int .i64 i, .int .i64 k] w fun e w' => e = .returned (.int .i64 (bfar ss i k)) ∧ ∃ m, w' = w.drewN m := by
  have KB := Lib.hid (sBooksValid_any v ss w h hsz)
  obtain ⟨a, c, rfl, ha, hc1, hc2⟩ := h
  unfold maxLen at hc2
  have HA := Lib.hid ha
  clear ha hsz hi hk
  cases hv : bval ss with
  | false =>
    rw [bfar_no0 hv]
    rw [hv] at KB
    clear hv
    go_enter Tryd.func20, Tryd.ntmps20
    go_wp2_with (fail)
    (go_at_call 16; refine (KB.out).mono ?_; rintro e w1 ⟨rfl, m, hw1⟩)
    go_wp2
    go_ret
    exact ⟨rfl, _, rfl⟩
  | true =>
    have HI := Lib.hid (l6InB_any i 0 ((ss.length : Int) - 1))
    have HK := Lib.hid (l6InB_any k 0 ((ss.length : Int) - 1))
    have wl : IntKind.i64.wrap ((ss.length : Int) - 1) = (ss.length : Int) - 1 := IntWalk.i64_in _ (by omega)
    by_cases hi : ¬ (0 ≤ i ∧ i < ss.length)
    case pos =>
      rw [(show bfar ss i k = -1 by by_cases h : i < 0; exact bfar_no1 h; exact bfar_no2 (by omega))]
      rw [hv] at KB
      have e1 : (decide (0 ≤ i) && decide (i ≤ (ss.length : Int) - 1)) = false := by
        rw [Bool.and_eq_false_iff]
        by_cases h : 0 ≤ i
        · exact .inr (decide_eq_false (by omega))
        · exact .inl (decide_eq_false h)
      rw [e1] at HI
      clear e1 hi
      clear hv
      go_enter Tryd.func20, Tryd.ntmps20
      go_wp2_with (fail)
      (go_at_call 16; refine (KB.out).mono ?_; rintro e w1 ⟨rfl, m, hw1⟩)
      go_wp2_with (fail)
      (go_at_call 48; refine (HI.out _).mono ?_; rintro e wx ⟨rfl, rfl⟩)
      go_wp2
      go_ret
      exact ⟨rfl, _, rfl⟩
    have e1 : (decide (0 ≤ i) && decide (i ≤ (ss.length : Int) - 1)) = true := by rw [decide_eq_true (by omega), decide_eq_true (by omega)]; rfl
    rw [e1] at HI
    clear e1
    by_cases hk : ¬ (0 ≤ k ∧ k < ss.length)
    case pos =>
      rw [(show bfar ss i k = -1 by by_cases h : k < 0; exact bfar_no3 h; exact bfar_no4 (by omega))]
      rw [hv] at KB
      have e1 : (decide (0 ≤ k) && decide (k ≤ (ss.length : Int) - 1)) = false := by
        rw [Bool.and_eq_false_iff]
        by_cases h : 0 ≤ k
        · exact .inr (decide_eq_false (by omega))
        · exact .inl (decide_eq_false h)
      rw [e1] at HK
      clear e1 hk
      clear hv
      go_enter Tryd.func20, Tryd.ntmps20
      go_wp2_with (fail)
      (go_at_call 16; refine (KB.out).mono ?_; rintro e w1 ⟨rfl, m, hw1⟩)
      go_wp2_with (fail)
      (go_at_call 48; refine (HI.out _).mono ?_; rintro e wx ⟨rfl, rfl⟩)
      go_wp2_with (fail)
      (go_at_call 48; refine (HK.out _).mono ?_; rintro e wx ⟨rfl, rfl⟩)
      go_wp2
      go_ret
      exact ⟨rfl, _, rfl⟩
    have e1 : (decide (0 ≤ k) && decide (k ≤ (ss.length : Int) - 1)) = true := by rw [decide_eq_true (by omega), decide_eq_true (by omega)]; rfl
    rw [e1] at HK
    clear e1
    obtain ⟨x, rfl⟩ : ∃ x : Nat, i = (x : Int) := ⟨i.toNat, by omega⟩
    obtain ⟨y, rfl⟩ : ∃ y : Nat, k = (y : Int) := ⟨k.toNat, by omega⟩
    have hx : x < ss.length := by omega
    have hy : y < ss.length := by omega
    obtain ⟨s, hs⟩ := ss_get hx
    obtain ⟨t, ht⟩ := ss_get hy
    rw [bfar_at hv hs ht]
    obtain ⟨hin, hall⟩ := bval_in hv
    have hs1 := (hall x s hs).1
    have ht1 := (hall y t ht).1
    have hp8 := (bkIn_parts hin).2.2.2
    have HF := Lib.hid (fun W => l7Far_any s t (by omega) (by omega) W)
    rw [hv] at KB
    have hne : ss ≠ [] := by rintro rfl; simp at hx
    rcases HA.out with hh | ⟨A, off, rfl, hA, hc⟩
    · exact absurd hh hne
    have c1 := hc x s hs
    have c2 := hc y t ht
    have x0 : (0 : Int) ≤ (x : Int) := by omega
    have x1 : (x : Int) < (ss.length : Int) := by omega
    have y0 : (0 : Int) ≤ (y : Int) := by omega
    have y1 : (y : Int) < (ss.length : Int) := by omega
    generalize (fr s t : Int) = z at HF ⊢
    clear hv hs ht hin hall hs1 ht1 hp8 hne hc
    go_enter Tryd.func20, Tryd.ntmps20
    go_wp2_with (fail)
    (go_at_call 16; refine (KB.out).mono ?_; rintro e w1 ⟨rfl, m, hw1⟩)
    have HW := Lib.hid hw1
    have f1 : w1.cell? ⟨A, off + x, none⟩ = some (.string s) := by rw [HW.out]; exact c1
    have f2 : w1.cell? ⟨A, off + y, none⟩ = some (.string t) := by rw [HW.out]; exact c2
    clear hw1 c1 c2
    go_wp2_with (fail)
    (go_at_call 48; refine (HI.out _).mono ?_; rintro e wx ⟨rfl, rfl⟩)
    go_wp2_with (fail)
    (go_at_call 48; refine (HK.out _).mono ?_; rintro e wx ⟨rfl, rfl⟩)
    go_wp2_with (fail)
    go_quiet ((go_at_call 49; exact Calls.quiet_of (HF.out _)))
    go_wp2
    go_ret
    exact ⟨rfl, _, by rw [HW.out, World.drewN_drewN]⟩

set_option maxHeartbeats 4000000 in
theorem booksFar_any (v : Value) (ss : List ByteArray) (i k : Int) (hi : (Lit.int .i64 i).wf = true) (hk : (Lit.int .i64 k).wf = true) (w : World) (h : SV w v ss) (hsz : ∀ s ∈ ss, s.size ≤ 4611686018427387904) :
    Calls Tryd.prog 21 #[v, .int .i64 i, .int .i64 k] w fun e w' => e = .returned (.int .i64 (bfar ss i k)) ∧ Below w.heap.size w w' := by
  have KB := Lib.hid (booksValid_any v ss w h hsz)
  obtain ⟨a, c, rfl, ha, hc1, hc2⟩ := h
  unfold maxLen at hc2
  have HA := Lib.hid ha
  clear ha hsz hi hk
  cases hv : bval ss with
  | false =>
    rw [bfar_no0 hv]
    rw [hv] at KB
    clear hv
    go_enter Tryd.func21, Tryd.ntmps21
    go_wp2_with (fail)
    (go_at_call 18; refine (KB.out).mono ?_; rintro e w1 ⟨rfl, hb1⟩)
    go_wp2
    go_ret
    exact ⟨rfl, hb1⟩
  | true =>
    by_cases hi0 : i < 0
    case pos =>
      rw [bfar_no1 hi0]
      rw [hv] at KB
      have t1 : decide (i < 0) = true := decide_eq_true hi0
      clear hv
      go_enter Tryd.func21, Tryd.ntmps21
      go_wp2_with (fail)
      (go_at_call 18; refine (KB.out).mono ?_; rintro e w1 ⟨rfl, hb1⟩)
      go_wp2
      go_ret
      exact ⟨rfl, hb1⟩
    have t1 : decide (i < 0) = false := decide_eq_false hi0
    by_cases hi1 : (ss.length : Int) ≤ i
    case pos =>
      rw [bfar_no2 (by omega)]
      rw [hv] at KB
      have t2 : decide ((ss.length : Int) ≤ i) = true := decide_eq_true hi1
      clear hv
      go_enter Tryd.func21, Tryd.ntmps21
      go_wp2_with (fail)
      (go_at_call 18; refine (KB.out).mono ?_; rintro e w1 ⟨rfl, hb1⟩)
      go_wp2
      go_ret
      exact ⟨rfl, hb1⟩
    have t2 : decide ((ss.length : Int) ≤ i) = false := decide_eq_false hi1
    by_cases hk0 : k < 0
    case pos =>
      rw [bfar_no3 hk0]
      rw [hv] at KB
      have t3 : decide (k < 0) = true := decide_eq_true hk0
      clear hv
      go_enter Tryd.func21, Tryd.ntmps21
      go_wp2_with (fail)
      (go_at_call 18; refine (KB.out).mono ?_; rintro e w1 ⟨rfl, hb1⟩)
      go_wp2
      go_ret
      exact ⟨rfl, hb1⟩
    have t3 : decide (k < 0) = false := decide_eq_false hk0
    by_cases hk1 : (ss.length : Int) ≤ k
    case pos =>
      rw [bfar_no4 (by omega)]
      rw [hv] at KB
      have t4 : decide ((ss.length : Int) ≤ k) = true := decide_eq_true hk1
      clear hv
      go_enter Tryd.func21, Tryd.ntmps21
      go_wp2_with (fail)
      (go_at_call 18; refine (KB.out).mono ?_; rintro e w1 ⟨rfl, hb1⟩)
      go_wp2
      go_ret
      exact ⟨rfl, hb1⟩
    have t4 : decide ((ss.length : Int) ≤ k) = false := decide_eq_false hk1
    obtain ⟨x, rfl⟩ : ∃ x : Nat, i = (x : Int) := ⟨i.toNat, by omega⟩
    obtain ⟨y, rfl⟩ : ∃ y : Nat, k = (y : Int) := ⟨k.toNat, by omega⟩
    have hx : x < ss.length := by omega
    have hy : y < ss.length := by omega
    obtain ⟨s, hs⟩ := ss_get hx
    obtain ⟨t, ht⟩ := ss_get hy
    rw [bfar_at hv hs ht]
    obtain ⟨hin, hall⟩ := bval_in hv
    have hs1 := (hall x s hs).1
    have ht1 := (hall y t ht).1
    have hp8 := (bkIn_parts hin).2.2.2
    have HF := Lib.hid (fun W => far_any s t (by omega) (by omega) W)
    rw [hv] at KB
    have hne : ss ≠ [] := by rintro rfl; simp at hx
    rcases HA.out with hh | ⟨A, off, rfl, hA, hc⟩
    · exact absurd hh hne
    have c1 := hc x s hs
    have c2 := hc y t ht
    have x0 : (0 : Int) ≤ (x : Int) := by omega
    have x1 : (x : Int) < (ss.length : Int) := by omega
    have y0 : (0 : Int) ≤ (y : Int) := by omega
    have y1 : (y : Int) < (ss.length : Int) := by omega
    generalize (fr s t : Int) = z at HF ⊢
    clear hv hs ht hin hall hs1 ht1 hp8 hne hc
    go_enter Tryd.func21, Tryd.ntmps21
    go_wp2_with (fail)
    (go_at_call 18; refine (KB.out).mono ?_; rintro e w1 ⟨rfl, hb1⟩)
    have f1 := (hb1.cell (p := ⟨A, off + x, none⟩) hA).trans c1
    have f2 := (hb1.cell (p := ⟨A, off + y, none⟩) hA).trans c2
    have HW := Lib.hid hb1
    clear hb1 c1 c2
    go_wp2_with (fail)
    go_quiet ((go_at_call 50; exact Calls.quiet_of (HF.out _)))
    go_wp2
    go_ret
    exact ⟨rfl, bl_drewN HW.out _⟩
end Go.Proofs.YthhndlefafcdeaaDoor
