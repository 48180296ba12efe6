/-
  Verses: what the functions on them answer, in both programs.
-/
import Derived.Test.YtkjimilapgkajaaVw
import Derived.Shelf.Strings.LastIndex
import Derived.Laws.Concat
import Derived.Laws.IdiomStrings
import Derived.Deep.RegionHeld3
import Derived.Deep.RegionWith
namespace Go.Proofs.Ytkjimilapgkajaa
open Go.RowKit
set_option maxRecDepth 100000
set_option linter.unusedVariables false

theorem verseValid_any (s : ByteArray) (hs : s.size ≤ 1048577) (w : World) (h : MaxAt w) :
    Calls Try.prog 26 #[.string s] w fun e w' => e = .returned (.bool (vvl s.data.toList)) ∧ Below w.heap.size w w' := by
  have KV := Lib.hid (newVerse_any s hs w h)
  clear h
  generalize vvl s.data.toList = ok at KV ⊢
  generalize vFst s = a at KV
  generalize vSnd s = b at KV
  go_enter Try.func26, Try.ntmps26
  go_wp2_with (fail)
  (go_at_call 79; refine (KV.out).mono ?_; rintro e w1 ⟨rfl, hb1⟩)
  have z1 := hb1.size
  go_wp2
  go_ret
  exact ⟨rfl, by (repeat' (first | (with_reducible assumption) | (with_reducible exact Below.refl _ _) | (with_reducible refine Below.alloc ?_ ?_ _) | (with_reducible refine Below.drew ?_) | (with_reducible refine Below.setCell ?_ ?_ _) | (with_reducible refine below_gb ?_ (by assumption) ?_) | (with_reducible refine bl_step ?_ (by assumption)) | go_size))⟩

theorem sVerseValid_any (s : ByteArray) (hs : s.size ≤ 4611686018427387904) (w : World) :
    Calls Try.prog 25 #[.string s] w fun e w' => e = .returned (.bool (vvl s.data.toList)) ∧ Below w.heap.size w w' := by
  have KH := Lib.hid (l4Halves_any s hs)
  obtain ⟨lA, lB⟩ := vA_le s.data.toList
  have lAB := vAB_le s.data.toList
  have hsz : s.data.toList.length = s.size := by simp
  rw [hsz] at lA lB lAB
  have KA := Lib.hid (l4Half_any ⟨(vA s.data.toList).toArray⟩ (by rw [mk_size]; omega))
  have KB := Lib.hid (l4Half_any ⟨(vB s.data.toList).toArray⟩ (by rw [mk_size]; omega))
  have SA : (⟨(vA s.data.toList).toArray⟩ : ByteArray).size = (vA s.data.toList).length := mk_size _
  have SB : (⟨(vB s.data.toList).toArray⟩ : ByteArray).size = (vB s.data.toList).length := mk_size _
  rw [mk_list] at KA KB
  cases h1 : hvl (vA s.data.toList)
  · have HV := Lib.hid (vvl_no1 h1)
    rw [h1] at KA
    rw [HV.out]
    clear h1 hsz
    go_enter Try.func25, Try.ntmps25
    go_wp2_with (fail)
    (go_at_call 77; refine (KH.out _).mono ?_; rintro e w1 ⟨rfl, hb1⟩)
    go_wp2_with (fail)
    (go_at_call 78; refine (KA.out _).mono ?_; rintro e w2 ⟨rfl, hb2⟩)
    go_wp2
    go_ret
    exact ⟨rfl, bl_step hb1 hb2⟩
  cases h2 : hvl (vB s.data.toList)
  · have HV := Lib.hid (vvl_no2 h2)
    rw [h1] at KA
    rw [h2] at KB
    rw [HV.out]
    clear h1 h2 hsz
    go_enter Try.func25, Try.ntmps25
    go_wp2_with (fail)
    (go_at_call 77; refine (KH.out _).mono ?_; rintro e w1 ⟨rfl, hb1⟩)
    go_wp2_with (fail)
    (go_at_call 78; refine (KA.out _).mono ?_; rintro e w2 ⟨rfl, hb2⟩)
    go_wp2_with (fail)
    (go_at_call 78; refine (KB.out _).mono ?_; rintro e w3 ⟨rfl, hb3⟩)
    go_wp2
    go_ret
    exact ⟨rfl, bl_step (bl_step hb1 hb2) hb3⟩
  have HV : Hid (vvl s.data.toList = decide ((vA s.data.toList).length + (vB s.data.toList).length ≤ 20)) := by
    show _ = _
    simp [vvl, h1, h2]
  rw [h1] at KA
  rw [h2] at KB
  rw [HV.out]
  clear h1 h2 hsz
  generalize vA s.data.toList = la at *
  generalize vB s.data.toList = lb at *
  have m1 : IntKind.i64.wrap ((la.length : Int) + (lb.length : Int)) = (la.length : Int) + (lb.length : Int) := IntWalk.i64_in _ (by omega)
  go_enter Try.func25, Try.ntmps25
  go_wp2_with (fail)
  (go_at_call 77; refine (KH.out _).mono ?_; rintro e w1 ⟨rfl, hb1⟩)
  go_wp2_with (fail)
  (go_at_call 78; refine (KA.out _).mono ?_; rintro e w2 ⟨rfl, hb2⟩)
  go_wp2_with (fail)
  (go_at_call 78; refine (KB.out _).mono ?_; rintro e w3 ⟨rfl, hb3⟩)
  go_wp2
  go_ret
  exact ⟨by show Ending.returned (Value.bool (decide ((la.length : Int) + (lb.length : Int) ≤ 20))) = _; congr 2; rw [Bool.eq_iff_iff]; simp; omega, bl_step (bl_step hb1 hb2) hb3⟩

theorem syllables_any (a b : ByteArray) (ha : a.size + b.size ≤ 1000) (w : World) :
    Calls Try.prog 80 #[.agg #[.string a, .string b]] w fun e w' => e = .returned (.string (a ++ b)) ∧ Below w.heap.size w w' := by
  have hadd : ∀ W : World, (Op.stringOp .add a b).run Try.prog W = .ok (.string (a ++ b)) W := fun W => run_string_add_sum W _ _ (by omega)
  go_enter Try.func80, Try.ntmps80
  go_wp2
  go_ret
  exact ⟨rfl, by (repeat' (first | (with_reducible assumption) | (with_reducible exact Below.refl _ _) | (with_reducible refine Below.alloc ?_ ?_ _) | (with_reducible refine Below.drew ?_) | (with_reducible refine Below.setCell ?_ ?_ _) | (with_reducible refine below_gb ?_ (by assumption) ?_) | (with_reducible refine bl_step ?_ (by assumption)) | go_size))⟩

theorem vsyl_size (s : ByteArray) (h : vvl s.data.toList = true) : vsyl s = ((vFst s).size : Int) + ((vSnd s).size : Int) := by
  rw [vsyl_yes h, (vFst_yes h).1, (vFst_yes h).2, mk_size, mk_size]; omega
theorem vhalf_size' (s : ByteArray) : (vFst s).size + (vSnd s).size ≤ 20 := by
  cases h : vvl s.data.toList
  · rw [(vFst_no h).1, (vFst_no h).2]; decide
  · rw [(vFst_yes h).1, (vFst_yes h).2, mk_size, mk_size]; exact (vvl_in h).2.2.1
theorem verseSyllables_any (s : ByteArray) (hs : s.size ≤ 1048577) (w : World) (h : MaxAt w) :
    Calls Try.prog 28 #[.string s] w fun e w' => e = .returned (.int .i64 (vsyl s)) ∧ Below w.heap.size w w' := by
  have KV := Lib.hid (newVerse_any s hs w h)
  clear h
  have h20 := vhalf_size' s
  cases hv : vvl s.data.toList
  · rw [vsyl_no hv]
    rw [hv] at KV
    clear hv h20
    generalize vFst s = a at KV
    generalize vSnd s = b at KV
    go_enter Try.func28, Try.ntmps28
    go_wp2_with (fail)
    (go_at_call 79; refine (KV.out).mono ?_; rintro e w1 ⟨rfl, hb1⟩)
    have z1 := hb1.size
    go_wp2
    go_ret
    exact ⟨rfl, by (repeat' (first | (with_reducible assumption) | (with_reducible exact Below.refl _ _) | (with_reducible refine Below.alloc ?_ ?_ _) | (with_reducible refine Below.drew ?_) | (with_reducible refine Below.setCell ?_ ?_ _) | (with_reducible refine below_gb ?_ (by assumption) ?_) | (with_reducible refine bl_step ?_ (by assumption)) | go_size))⟩
  · rw [vsyl_size s hv]
    rw [hv] at KV
    clear hv
    generalize vFst s = a at *
    generalize vSnd s = b at *
    have KS := Lib.hid (syllables_any a b (by omega))
    go_enter Try.func28, Try.ntmps28
    go_wp2_with (fail)
    (go_at_call 79; refine (KV.out).mono ?_; rintro e w1 ⟨rfl, hb1⟩)
    have z1 := hb1.size
    go_wp2_with (fail)
    (go_at_call 80; refine (KS.out _).mono ?_; rintro e w2 ⟨rfl, hb2⟩)
    go_wp2
    go_ret
    exact ⟨rfl, by (repeat' (first | (with_reducible assumption) | (with_reducible exact Below.refl _ _) | (with_reducible refine Below.alloc ?_ ?_ _) | (with_reducible refine Below.drew ?_) | (with_reducible refine Below.setCell ?_ ?_ _) | (with_reducible refine below_gb ?_ (by assumption) ?_) | (with_reducible refine bl_step ?_ (by assumption)) | go_size))⟩

theorem sVerseSyllables_any (s : ByteArray) (hs : s.size ≤ 4611686018427387904) (w : World) :
    Calls Try.prog 27 #[.string s] w fun e w' => e = .returned (.int .i64 (vsyl s)) ∧ Below w.heap.size w w' := by
  have KV := Lib.hid (sVerseValid_any s hs)
  cases hv : vvl s.data.toList
  · rw [vsyl_no hv]
    rw [hv] at KV
    clear hv
    go_enter Try.func27, Try.ntmps27
    go_wp2_with (fail)
    (go_at_call 25; refine (KV.out _).mono ?_; rintro e w1 ⟨rfl, hb1⟩)
    go_wp2
    go_ret
    exact ⟨rfl, hb1⟩
  · have hl := vvl_len hv
    have hsz : s.data.toList.length = s.size := by simp
    rw [hsz] at hl
    have HE : Hid (vsyl s = (s.size : Int) - 1) := by
      show _ = _
      rw [vsyl_yes hv]; omega
    have hp : (0 : Int) ≤ (s.size : Int) - 1 := by omega
    rw [hv] at KV
    rw [HE.out]
    clear hv hl hsz
    go_enter Try.func27, Try.ntmps27
    go_wp2_with (fail)
    (go_at_call 25; refine (KV.out _).mono ?_; rintro e w1 ⟨rfl, hb1⟩)
    go_wp2
    go_ret
    exact ⟨rfl, hb1⟩

theorem verseHalves_any (s : ByteArray) (hs : s.size ≤ 1048577) (w : World) (h : MaxAt w) :
    Calls Try.prog 30 #[.string s] w fun e w' => e = .returned (.tuple #[.string (vFst s), .string (vSnd s), .bool (vvl s.data.toList)]) ∧ Below w.heap.size w w' := by
  have KV := Lib.hid (newVerse_any s hs w h)
  clear h
  generalize vvl s.data.toList = ok at KV ⊢
  generalize vFst s = a at KV ⊢
  generalize vSnd s = b at KV ⊢
  go_enter Try.func30, Try.ntmps30
  go_wp2_with (fail)
  (go_at_call 79; refine (KV.out).mono ?_; rintro e w1 ⟨rfl, hb1⟩)
  have z1 := hb1.size
  go_wp2
  go_quiet (fail)
  all_goals
    go_wp2
    go_ret3
    exact ⟨rfl, by (repeat' (first | (with_reducible assumption) | (with_reducible exact Below.refl _ _) | (with_reducible refine Below.alloc ?_ ?_ _) | (with_reducible refine Below.drew ?_) | (with_reducible refine bl_drewN ?_ _) | (with_reducible refine Below.setCell ?_ ?_ _) | (with_reducible refine bl_step ?_ (by assumption)) | go_size))⟩

theorem sVerseHalves_any (s : ByteArray) (hs : s.size ≤ 4611686018427387904) (w : World) :
    Calls Try.prog 29 #[.string s] w fun e w' => e = .returned (.tuple #[.string (vFst s), .string (vSnd s), .bool (vvl s.data.toList)]) ∧ Below w.heap.size w w' := by
  have KV := Lib.hid (fun W => sVerseValid_any s hs W)
  have KH := Lib.hid (fun W => l4Halves_any s hs W)
  cases hv : vvl s.data.toList
  · rw [(vFst_no hv).1, (vFst_no hv).2]
    rw [hv] at KV
    clear hv
    go_enter Try.func29, Try.ntmps29
    go_wp2_with (fail)
    (go_at_call 25; refine (KV.out _).mono ?_; rintro e w1 ⟨rfl, hb1⟩)
    go_wp2
    go_ret3
    exact ⟨rfl, hb1⟩
  · rw [(vFst_yes hv).1, (vFst_yes hv).2]
    rw [hv] at KV
    clear hv
    generalize (⟨(vA s.data.toList).toArray⟩ : ByteArray) = a at KH ⊢
    generalize (⟨(vB s.data.toList).toArray⟩ : ByteArray) = b at KH ⊢
    go_enter Try.func29, Try.ntmps29
    go_wp2_with (fail)
    (go_at_call 25; refine (KV.out _).mono ?_; rintro e w1 ⟨rfl, hb1⟩)
    go_wp2_with (fail)
    (go_at_call 77; refine (KH.out _).mono ?_; rintro e w2 ⟨rfl, hb2⟩)
    go_wp2
    go_ret3
    exact ⟨rfl, bl_step hb1 hb2⟩

theorem lastIx_bd (s : ByteArray) (c : Int) : ∀ k, -1 ≤ Lib.lastIdx s c k ∧ Lib.lastIdx s c k < k := by
  intro k
  induction k with
  | zero => unfold Lib.lastIdx; omega
  | succ k ih => unfold Lib.lastIdx; split <;> omega
theorem weakBehind_any (s : ByteArray) (hs : s.size ≤ 1000000) (w : World) :
    Calls Try.prog 84 #[.string s] w fun e w' => e = .returned (.int .i64 (enx s)) ∧ Below w.heap.size w w' := by
  have KL : ∀ W : World, Calls Try.prog 109 #[.string s, .int .u8 47] W fun e w' => e = .returned (.int .i64 (Lib.lastIndexByte s 47)) ∧ W = w' := fun W => (Try.strings_LastIndexByte s 47 (by omega) W).mono fun e w' ⟨a, b⟩ => ⟨a, b.symm⟩
  have KH := Lib.hid KL
  obtain ⟨b0, b1⟩ := lastIx_bd s 47 s.size
  have e0 : Lib.lastIndexByte s 47 = Lib.lastIdx s 47 s.size := rfl
  rw [← e0] at b0 b1
  have he : enx s = (s.size : Int) - 1 - Lib.lastIndexByte s 47 := rfl
  rw [he]
  clear he e0 KL
  generalize Lib.lastIndexByte s 47 = x at *
  have m1 : IntKind.i64.wrap ((s.size : Int) - 1) = (s.size : Int) - 1 := IntWalk.i64_in _ (by omega)
  have m2 : IntKind.i64.wrap ((s.size : Int) - 1 - x) = (s.size : Int) - 1 - x := IntWalk.i64_in _ (by omega)
  go_enter Try.func84, Try.ntmps84
  go_wp2_with (fail)
  (go_at_call 109; refine (KH.out _).mono ?_; rintro e wx ⟨rfl, rfl⟩)
  go_wp2
  go_ret
  exact ⟨rfl, Below.refl _ _⟩

theorem verseEnds_any (s : ByteArray) (hs : s.size ≤ 1048577) (w : World) (h : MaxAt w) :
    Calls Try.prog 39 #[.string s] w fun e w' => e = .returned (.tuple #[.int .i64 (vE1 s), .int .i64 (vE2 s), .bool (vvl s.data.toList)]) ∧ Below w.heap.size w w' := by
  have KV := Lib.hid (newVerse_any s hs w h)
  clear h
  have h20 := vhalf_size' s
  cases hv : vvl s.data.toList
  · rw [(vE_no hv).1, (vE_no hv).2]
    rw [hv] at KV
    clear hv h20
    generalize vFst s = a at KV
    generalize vSnd s = b at KV
    go_enter Try.func39, Try.ntmps39
    go_wp2_with (fail)
    (go_at_call 79; refine (KV.out).mono ?_; rintro e w1 ⟨rfl, hb1⟩)
    have z1 := hb1.size
    go_wp2
    go_ret3
    exact ⟨rfl, by (repeat' (first | (with_reducible assumption) | (with_reducible exact Below.refl _ _) | (with_reducible refine Below.alloc ?_ ?_ _) | (with_reducible refine Below.drew ?_) | (with_reducible refine Below.setCell ?_ ?_ _) | (with_reducible refine below_gb ?_ (by assumption) ?_) | (with_reducible refine bl_step ?_ (by assumption)) | go_size))⟩
  · rw [(vE_yes hv).1, (vE_yes hv).2]
    rw [hv] at KV
    clear hv
    generalize vFst s = a at *
    generalize vSnd s = b at *
    have KA := Lib.hid (weakBehind_any a (by omega))
    have KB := Lib.hid (weakBehind_any b (by omega))
    generalize enx a = x at KA ⊢
    generalize enx b = y at KB ⊢
    go_enter Try.func39, Try.ntmps39
    go_wp2_with (fail)
    (go_at_call 79; refine (KV.out).mono ?_; rintro e w1 ⟨rfl, hb1⟩)
    have z1 := hb1.size
    go_wp2
    go_region_held3 (fun wx => wx.cell? ⟨w1.heap.size, 0, none⟩ = some (.string a) ∧ wx.cell? ⟨w1.heap.size, 1, none⟩ = some (.string b)) (go_keep)
      (first | (go_at_call_of 84 (Value.string a); refine (KA.out _).mono ?_; rintro e w2 ⟨rfl, hb2⟩; obtain ⟨hc2, hf2, hz2⟩ := bl hb2; (try simp at hz2); have d1 : w2.cell? ⟨w1.heap.size, 0, none⟩ = some (.string a) := (hc2 _ _ (by go_size)).trans (by go_simp); have d2 : w2.cell? ⟨w1.heap.size, 1, none⟩ = some (.string b) := (hc2 _ _ (by go_size)).trans (by go_simp); clear hc2 hf2) | (go_at_call 84; refine (KB.out _).mono ?_; rintro e w3 ⟨rfl, hb3⟩; obtain ⟨hc3, hf3, hz3⟩ := bl hb3; (try simp at hz3); have d3 : w3.cell? ⟨w1.heap.size, 0, none⟩ = some (.string a) := (hc3 _ _ (by go_size)).trans (by go_simp); have d4 : w3.cell? ⟨w1.heap.size, 1, none⟩ = some (.string b) := (hc3 _ _ (by go_size)).trans (by go_simp); clear hc3 hf3))
    all_goals
      go_wp2
      go_ret3
      exact ⟨rfl, by (repeat' (first | (with_reducible assumption) | (with_reducible exact Below.refl _ _) | (with_reducible refine Below.alloc ?_ ?_ _) | (with_reducible refine Below.drew ?_) | (with_reducible refine bl_drewN ?_ _) | (with_reducible refine Below.setCell ?_ ?_ _) | (with_reducible refine bl_step ?_ (by assumption)) | go_size))⟩

theorem lastIx_hit {s : ByteArray} {k : Nat} (hk : k < s.size) (h : s[k].toNat = 47) : Lib.lastIdx s 47 (k + 1) = (k : Int) := by
  refine Lib.lastIdx_hit s 47 k ?_
  rw [LastIndex.byteBang s k hk, h]; rfl
theorem lastIx_miss {s : ByteArray} {k : Nat} (hk : k < s.size) (h : s[k].toNat ≠ 47) : Lib.lastIdx s 47 (k + 1) = Lib.lastIdx s 47 k := by
  refine Lib.lastIdx_miss s 47 k ?_
  rw [LastIndex.byteBang s k hk]; first | omega | (rw [beq_eq_false_iff_ne]; omega)
set_option maxHeartbeats 4000000 in
theorem sEnd_any (s : ByteArray) (hs : s.size ≤ 1000000) (hv : s.data.toList.all vsy = true) (w : World) :
    Calls Try.prog 83 #[.string s] w fun e w' => e = .returned (.int .i64 (enx s)) ∧ Below w.heap.size w w' := by
  have HV := Lib.hid hv
  have HE : Hid (enx s = (s.size : Int) - 1 - Lib.lastIdx s 47 s.size) := rfl
  clear hv
  go_enter Try.func83, Try.ntmps83
  go_wp2
  go_loopw [3, 4] (fun n i wr => ∃ k : Nat, k ≤ s.size ∧ i = .int .i64 ((k : Int) - 1) ∧ n = .int .i64 ((s.size : Int) - (k : Int)) ∧ Hid (Lib.lastIdx s 47 s.size = Lib.lastIdx s 47 k) ∧ Below w.heap.size w wr) (fun _ i _ => (intOf i + 1).toNat)
  case atStart => exact ⟨s.size, Nat.le_refl _, rfl, by go_num, rfl, Below.refl _ _⟩
  case round =>
    obtain ⟨k, hk, rfl, rfl, hh, hb⟩ := hrel
    by_cases hk0 : k = 0
    · subst hk0
      have HF : Hid (enx s = (s.size : Int)) := by
        show _ = _
        rw [HE.out, hh.out]
        show (s.size : Int) - 1 - -1 = _
        omega
      clear hh
      go_wp2
      go_ret
      exact ⟨by rw [HF.out]; go_num, hb⟩
    · obtain ⟨j, rfl⟩ : ∃ j, k = j + 1 := ⟨k - 1, by omega⟩
      have hj : j < s.size := by omega
      have hs1 := List.all_eq_true.1 HV.out _ (List.mem_of_getElem? (at_list s j hj))
      have e1 : (((j + 1 : Nat) : Int) - 1) = (j : Int) := by omega
      rw [e1]
      have j0 : (0 : Int) ≤ (j : Int) := by omega
      have j1 : (j : Int) < (s.size : Int) := by omega
      rcases vsy_yes hs1 with h120 | h47
      · have g1 : ((s[j].toNat : Int) == 120) = true := by rw [h120]; rfl
        have HX : Hid (Lib.lastIdx s 47 s.size = Lib.lastIdx s 47 j) := hh.out.trans (lastIx_miss hj (by omega))
        clear hh hs1 h120
        go_wp2
        go_roundw
        case rel => exact ⟨j, by omega, by go_num, by first | go_num | (congr 1; omega), HX, hb⟩
        case measure => simp [intOf]
      · have g1 : ((s[j].toNat : Int) == 120) = false := by rw [h47]; rfl
        have HF : Hid (enx s = (s.size : Int) - ((j + 1 : Nat) : Int)) := by
          show _ = _
          rw [HE.out, hh.out, lastIx_hit hj h47]
          omega
        clear hh hs1 h47
        go_wp2
        go_ret
        exact ⟨by rw [HF.out]; rfl, hb⟩

theorem sVerseEnds_any (s : ByteArray) (hs : s.size ≤ 1048577) (w : World) :
    Calls Try.prog 38 #[.string s] w fun e w' => e = .returned (.tuple #[.int .i64 (vE1 s), .int .i64 (vE2 s), .bool (vvl s.data.toList)]) ∧ Below w.heap.size w w' := by
  have KV := Lib.hid (sVerseValid_any s (by omega))
  have KH := Lib.hid (l4Halves_any s (by omega))
  cases hv : vvl s.data.toList
  · rw [(vE_no hv).1, (vE_no hv).2]
    rw [hv] at KV
    clear hv
    go_enter Try.func38, Try.ntmps38
    go_wp2_with (fail)
    (go_at_call 25; refine (KV.out _).mono ?_; rintro e w1 ⟨rfl, hb1⟩)
    go_wp2
    go_ret3
    exact ⟨rfl, hb1⟩
  · rw [(vE_yes hv).1, (vE_yes hv).2, (vFst_yes hv).1, (vFst_yes hv).2]
    obtain ⟨h1, h2, h3, _⟩ := vvl_in hv
    have KA := Lib.hid (sEnd_any ⟨(vA s.data.toList).toArray⟩ (by rw [mk_size]; omega) (hvl_in h1).1)
    have KB := Lib.hid (sEnd_any ⟨(vB s.data.toList).toArray⟩ (by rw [mk_size]; omega) (hvl_in h2).1)
    rw [hv] at KV
    clear hv h1 h2 h3
    generalize (⟨(vA s.data.toList).toArray⟩ : ByteArray) = a at *
    generalize (⟨(vB s.data.toList).toArray⟩ : ByteArray) = b at *
    generalize enx a = x at KA ⊢
    generalize enx b = y at KB ⊢
    go_enter Try.func38, Try.ntmps38
    go_wp2_with (fail)
    (go_at_call 25; refine (KV.out _).mono ?_; rintro e w1 ⟨rfl, hb1⟩)
    go_wp2_with (fail)
    (go_at_call 77; refine (KH.out _).mono ?_; rintro e w2 ⟨rfl, hb2⟩)
    go_wp2_with (fail)
    (go_at_call 83; refine (KA.out _).mono ?_; rintro e w3 ⟨rfl, hb3⟩)
    go_wp2_with (fail)
    (go_at_call 83; refine (KB.out _).mono ?_; rintro e w4 ⟨rfl, hb4⟩)
    go_wp2
    go_ret3
    exact ⟨rfl, bl_step (bl_step (bl_step hb1 hb2) hb3) hb4⟩
end Go.Proofs.Ytkjimilapgkajaa
