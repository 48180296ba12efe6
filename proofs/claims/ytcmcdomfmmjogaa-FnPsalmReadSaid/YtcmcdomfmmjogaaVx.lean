/-
  Verses: what the functions on them answer, in both programs.
-/
import Derived.Test.YtcmcdomfmmjogaaVw
import Derived.Shelf.Strings.LastIndex
import Derived.Laws.Concat
import Derived.Laws.IdiomStrings
import Derived.Deep.RegionHeld3
import Derived.Deep.RegionWith
namespace Go.Proofs.Ytcmcdomfmmjogaa
open Go.RowKit
set_option maxRecDepth 100000
set_option linter.unusedVariables false

theorem verseValid_any (s : ByteArray) (hs : s.size ≤ 1048577) (w : World) (h : MaxAt w) :
    Calls Try.prog 23 #[.string s] w fun e w' => e = .returned (.bool (vvl s.data.toList)) ∧ Below w.heap.size w w' := by
  have KV := Lib.hid (newVerse_any s hs w h)
  clear h
  generalize vvl s.data.toList = ok at KV ⊢
  generalize vFst s = a at KV
  generalize vSnd s = b at KV
  go_enter Try.func23, Try.ntmps23
  go_wp2_with (fail)
  (go_at_call 50; refine (KV.out).mono ?_; rintro e w1 ⟨rfl, hb1⟩)
  have z1 := hb1.size
  go_wp2
  go_ret
  exact ⟨rfl, by (repeat' (first | (with_reducible assumption) | (with_reducible exact Below.refl _ _) | (with_reducible refine Below.alloc ?_ ?_ _) | (with_reducible refine Below.drew ?_) | (with_reducible refine Below.setCell ?_ ?_ _) | (with_reducible refine below_gb ?_ (by assumption) ?_) | (with_reducible refine bl_step ?_ (by assumption)) | go_size))⟩

theorem sVerseValid_any (s : ByteArray) (hs : s.size ≤ 4611686018427387904) (w : World) :
    Calls Try.prog 55 #[.string s] w fun e w' => e = .returned (.bool (vvl s.data.toList)) ∧ Below w.heap.size w w' := by
  have KH := Lib.hid (l4Halves_any s hs)
  obtain ⟨lA, lB⟩ := vA_le s.data.toList
  have lAB := vAB_le s.data.toList
  have hsz : s.data.toList.length = s.size := by simp
  rw [hsz] at lA lB lAB
  have KA := Lib.hid (l4Half_any ⟨(vA s.data.toList).toArray⟩ (by rw [mk_size]; omega))
  have KB := Lib.hid (l4Half_any ⟨(vB s.data.toList).toArray⟩ (by rw [mk_size]; omega))
  have SA : (⟨(vA s.data.toList).toArray⟩ : ByteArray).size = (vA s.data.toList).length := mk_size _
  have SB : (⟨(vB s.data.toList).toArray⟩ : ByteArray).size = (vB s.data.toList).length := mk_size _
  rw [mk_list] at KA KB
  cases h1 : hvl (vA s.data.toList)
  · have HV := Lib.hid (vvl_no1 h1)
    rw [h1] at KA
    rw [HV.out]
    clear h1 hsz
    go_enter Try.func55, Try.ntmps55
    go_wp2_with (fail)
    (go_at_call 49; refine (KH.out _).mono ?_; rintro e w1 ⟨rfl, hb1⟩)
    go_wp2_with (fail)
    (go_at_call 79; refine (KA.out _).mono ?_; rintro e w2 ⟨rfl, hb2⟩)
    go_wp2
    go_ret
    exact ⟨rfl, bl_step hb1 hb2⟩
  cases h2 : hvl (vB s.data.toList)
  · have HV := Lib.hid (vvl_no2 h2)
    rw [h1] at KA
    rw [h2] at KB
    rw [HV.out]
    clear h1 h2 hsz
    go_enter Try.func55, Try.ntmps55
    go_wp2_with (fail)
    (go_at_call 49; refine (KH.out _).mono ?_; rintro e w1 ⟨rfl, hb1⟩)
    go_wp2_with (fail)
    (go_at_call 79; refine (KA.out _).mono ?_; rintro e w2 ⟨rfl, hb2⟩)
    go_wp2_with (fail)
    (go_at_call 79; refine (KB.out _).mono ?_; rintro e w3 ⟨rfl, hb3⟩)
    go_wp2
    go_ret
    exact ⟨rfl, bl_step (bl_step hb1 hb2) hb3⟩
  have HV : Hid (vvl s.data.toList = decide ((vA s.data.toList).length + (vB s.data.toList).length ≤ 20)) := by
    show _ = _
    simp [vvl, h1, h2]
  rw [h1] at KA
  rw [h2] at KB
  rw [HV.out]
  clear h1 h2 hsz
  generalize vA s.data.toList = la at *
  generalize vB s.data.toList = lb at *
  have m1 : IntKind.i64.wrap ((la.length : Int) + (lb.length : Int)) = (la.length : Int) + (lb.length : Int) := IntWalk.i64_in _ (by omega)
  go_enter Try.func55, Try.ntmps55
  go_wp2_with (fail)
  (go_at_call 49; refine (KH.out _).mono ?_; rintro e w1 ⟨rfl, hb1⟩)
  go_wp2_with (fail)
  (go_at_call 79; refine (KA.out _).mono ?_; rintro e w2 ⟨rfl, hb2⟩)
  go_wp2_with (fail)
  (go_at_call 79; refine (KB.out _).mono ?_; rintro e w3 ⟨rfl, hb3⟩)
  go_wp2
  go_ret
  exact ⟨by show Ending.returned (Value.bool (decide ((la.length : Int) + (lb.length : Int) ≤ 20))) = _; congr 2; rw [Bool.eq_iff_iff]; simp; omega, bl_step (bl_step hb1 hb2) hb3⟩

theorem syllables_any (a b : ByteArray) (ha : a.size + b.size ≤ 1000) (w : World) :
    Calls Try.prog 51 #[.agg #[.string a, .string b]] w fun e w' => e = .returned (.string (a ++ b)) ∧ Below w.heap.size w w' := by
  have hadd : ∀ W : World, (Op.stringOp .add a b).run Try.prog W = .ok (.string (a ++ b)) W := fun W => run_string_add_sum W _ _ (by omega)
  go_enter Try.func51, Try.ntmps51
  go_wp2
  go_ret
  exact ⟨rfl, by (repeat' (first | (with_reducible assumption) | (with_reducible exact Below.refl _ _) | (with_reducible refine Below.alloc ?_ ?_ _) | (with_reducible refine Below.drew ?_) | (with_reducible refine Below.setCell ?_ ?_ _) | (with_reducible refine below_gb ?_ (by assumption) ?_) | (with_reducible refine bl_step ?_ (by assumption)) | go_size))⟩

theorem vsyl_size (s : ByteArray) (h : vvl s.data.toList = true) : vsyl s = ((vFst s).size : Int) + ((vSnd s).size : Int) := by
  rw [vsyl_yes h, (vFst_yes h).1, (vFst_yes h).2, mk_size, mk_size]; omega
theorem vhalf_size' (s : ByteArray) : (vFst s).size + (vSnd s).size ≤ 20 := by
  cases h : vvl s.data.toList
  · rw [(vFst_no h).1, (vFst_no h).2]; decide
  · rw [(vFst_yes h).1, (vFst_yes h).2, mk_size, mk_size]; exact (vvl_in h).2.2.1
theorem verseSyllables_any (s : ByteArray) (hs : s.size ≤ 1048577) (w : World) (h : MaxAt w) :
    Calls Try.prog 19 #[.string s] w fun e w' => e = .returned (.int .i64 (vsyl s)) ∧ Below w.heap.size w w' := by
  have KV := Lib.hid (newVerse_any s hs w h)
  clear h
  have h20 := vhalf_size' s
  cases hv : vvl s.data.toList
  · rw [vsyl_no hv]
    rw [hv] at KV
    clear hv h20
    generalize vFst s = a at KV
    generalize vSnd s = b at KV
    go_enter Try.func19, Try.ntmps19
    go_wp2_with (fail)
    (go_at_call 50; refine (KV.out).mono ?_; rintro e w1 ⟨rfl, hb1⟩)
    have z1 := hb1.size
    go_wp2
    go_ret
    exact ⟨rfl, by (repeat' (first | (with_reducible assumption) | (with_reducible exact Below.refl _ _) | (with_reducible refine Below.alloc ?_ ?_ _) | (with_reducible refine Below.drew ?_) | (with_reducible refine Below.setCell ?_ ?_ _) | (with_reducible refine below_gb ?_ (by assumption) ?_) | (with_reducible refine bl_step ?_ (by assumption)) | go_size))⟩
  · rw [vsyl_size s hv]
    rw [hv] at KV
    clear hv
    generalize vFst s = a at *
    generalize vSnd s = b at *
    have KS := Lib.hid (syllables_any a b (by omega))
    go_enter Try.func19, Try.ntmps19
    go_wp2_with (fail)
    (go_at_call 50; refine (KV.out).mono ?_; rintro e w1 ⟨rfl, hb1⟩)
    have z1 := hb1.size
    go_wp2_with (fail)
    (go_at_call 51; refine (KS.out _).mono ?_; rintro e w2 ⟨rfl, hb2⟩)
    go_wp2
    go_ret
    exact ⟨rfl, by (repeat' (first | (with_reducible assumption) | (with_reducible exact Below.refl _ _) | (with_reducible refine Below.alloc ?_ ?_ _) | (with_reducible refine Below.drew ?_) | (with_reducible refine Below.setCell ?_ ?_ _) | (with_reducible refine below_gb ?_ (by assumption) ?_) | (with_reducible refine bl_step ?_ (by assumption)) | go_size))⟩

theorem sVerseSyllables_any (s : ByteArray) (hs : s.size ≤ 4611686018427387904) (w : World) :
    Calls Try.prog 54 #[.string s] w fun e w' => e = .returned (.int .i64 (vsyl s)) ∧ Below w.heap.size w w' := by
  have KV := Lib.hid (sVerseValid_any s hs)
  cases hv : vvl s.data.toList
  · rw [vsyl_no hv]
    rw [hv] at KV
    clear hv
    go_enter Try.func54, Try.ntmps54
    go_wp2_with (fail)
    (go_at_call 55; refine (KV.out _).mono ?_; rintro e w1 ⟨rfl, hb1⟩)
    go_wp2
    go_ret
    exact ⟨rfl, hb1⟩
  · have hl := vvl_len hv
    have hsz : s.data.toList.length = s.size := by simp
    rw [hsz] at hl
    have HE : Hid (vsyl s = (s.size : Int) - 1) := by
      show _ = _
      rw [vsyl_yes hv]; omega
    have hp : (0 : Int) ≤ (s.size : Int) - 1 := by omega
    rw [hv] at KV
    rw [HE.out]
    clear hv hl hsz
    go_enter Try.func54, Try.ntmps54
    go_wp2_with (fail)
    (go_at_call 55; refine (KV.out _).mono ?_; rintro e w1 ⟨rfl, hb1⟩)
    go_wp2
    go_ret
    exact ⟨rfl, hb1⟩

theorem verseHalves_any (s : ByteArray) (hs : s.size ≤ 1048577) (w : World) (h : MaxAt w) :
    Calls Try.prog 18 #[.string s] w fun e w' => e = .returned (.tuple #[.string (vFst s), .string (vSnd s), .bool (vvl s.data.toList)]) ∧ Below w.heap.size w w' := by
  have KV := Lib.hid (newVerse_any s hs w h)
  clear h
  generalize vvl s.data.toList = ok at KV ⊢
  generalize vFst s = a at KV ⊢
  generalize vSnd s = b at KV ⊢
  go_enter Try.func18, Try.ntmps18
  go_wp2_with (fail)
  (go_at_call 50; refine (KV.out).mono ?_; rintro e w1 ⟨rfl, hb1⟩)
  have z1 := hb1.size
  go_wp2
  go_quiet (fail)
  all_goals
    go_wp2
    go_ret3
    exact ⟨rfl, by (repeat' (first | (with_reducible assumption) | (with_reducible exact Below.refl _ _) | (with_reducible refine Below.alloc ?_ ?_ _) | (with_reducible refine Below.drew ?_) | (with_reducible refine bl_drewN ?_ _) | (with_reducible refine Below.setCell ?_ ?_ _) | (with_reducible refine bl_step ?_ (by assumption)) | go_size))⟩
end Go.Proofs.Ytcmcdomfmmjogaa
