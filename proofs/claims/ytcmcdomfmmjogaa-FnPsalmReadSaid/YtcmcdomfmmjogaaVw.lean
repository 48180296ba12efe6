/-
  Halves of a verse, in both programs.
-/
import Derived.Test.YtcmcdomfmmjogaaVm
import Derived.Test.YtcmcdomfmmjogaaVbl
import Derived.Test.YtcmcdomfmmjogaaShelf
import Derived.WalkLawsBesides
import Derived.Handy
import Derived.Deep.QuietTactic
import Derived.BigQuiet
import Derived.IntWalk
namespace Go.Proofs.Ytcmcdomfmmjogaa
open Go.RowKit
set_option maxRecDepth 100000
set_option linter.unusedVariables false

theorem at_list (s : ByteArray) (k : Nat) (h : k < s.size) : s.data.toList[k]? = some s[k] := by
  rw [List.getElem?_eq_getElem (by simpa using h)]; rfl
theorem vsy_yes {c : UInt8} (h : vsy c = true) : c.toNat = 120 ∨ c.toNat = 47 := by
  simp [vsy] at h
  rcases h with rfl | rfl
  · exact .inl rfl
  · exact .inr rfl
theorem vsy_no {c : UInt8} (h : vsy c = false) : c.toNat ≠ 120 ∧ c.toNat ≠ 47 := by
  refine ⟨fun e => ?_, fun e => ?_⟩
  · rw [show c = 120 from UInt8.toNat_inj.1 e] at h; exact absurd h (by decide)
  · rw [show c = 47 from UInt8.toNat_inj.1 e] at h; exact absurd h (by decide)
theorem syb_cases {s : ByteArray} {k : Nat} (hk : k < s.size) :
    (vsy s[k] = true ∧ (((s[k].toNat : Int) != 120) = false ∨ ((s[k].toNat : Int) != 120) = true ∧ ((s[k].toNat : Int) != 47) = false)) ∨
      (vsy s[k] = false ∧ ((s[k].toNat : Int) != 120) = true ∧ ((s[k].toNat : Int) != 47) = true) := by
  cases h : vsy s[k]
  · right
    obtain ⟨a, b⟩ := vsy_no h
    refine ⟨rfl, ?_, ?_⟩ <;> (rw [bne_iff_ne]; omega)
  · left
    refine ⟨rfl, ?_⟩
    rcases vsy_yes h with a | a <;> rw [a] <;> simp
/-- the first k bytes are syllables -/
def Sybs (s : ByteArray) (k : Nat) : Prop := (s.data.toList.take k).all vsy = true
theorem Sybs.zero (s : ByteArray) : Sybs s 0 := by simp [Sybs]
theorem Sybs.next {s : ByteArray} {k : Nat} (h : Sybs s k) (hk : k < s.size) (hw : vsy s[k] = true) : Sybs s (k + 1) := hvl_snoc (at_list s k hk) h hw
theorem ne_list {s : ByteArray} (h : s.size ≠ 0) : s.data.toList ≠ [] := fun e => h (by have := congrArg List.length e; simpa using this)
theorem Sybs.all {s : ByteArray} (h : Sybs s s.size) (h0 : s.size ≠ 0) : hvl s.data.toList = true := by
  unfold Sybs at h
  rw [List.take_of_length_le (by simp)] at h
  exact hvl_yes h (ne_list h0)
theorem bempty {s : ByteArray} (h : s.size = 0) : s = ⟨#[]⟩ := by
  obtain ⟨⟨d⟩⟩ := s
  have h : d.length = 0 := h
  rw [List.eq_nil_of_length_eq_zero h]

set_option maxHeartbeats 4000000 in
theorem l4Half_any (s : ByteArray) (hs : s.size ≤ 4611686018427387904) (w : World) :
    Calls Try.prog 79 #[.string s] w fun e w' => e = .returned (.bool (hvl s.data.toList)) ∧ Below w.heap.size w w' := by
  by_cases h0 : s.size = 0
  · obtain rfl := bempty h0
    go_enter Try.func79, Try.ntmps79
    go_wp2
    go_rounds 1
    go_ret
    exact ⟨rfl, Below.refl _ _⟩
  have hp : (0 : Int) < (s.size : Int) := by omega
  have hp2 : decide (0 < s.size) = true := by simp; omega
  go_enter Try.func79, Try.ntmps79
  go_wp2
  go_loopw [3] (fun i wr => ∃ k : Nat, k ≤ s.size ∧ i = .int .i64 k ∧ Sybs s k ∧ Below w.heap.size w wr) (fun i _ => s.size - (intOf i).toNat)
  case atStart => exact ⟨0, Nat.zero_le _, rfl, Sybs.zero s, Below.refl _ _⟩
  case round =>
    obtain ⟨k, hk, rfl, hw, hb⟩ := hrel
    by_cases hlt : k < s.size
    · have k1 : (k : Int) < (s.size : Int) := by omega
      have k0 : (0 : Int) ≤ (k : Int) := by omega
      rcases syb_cases hlt with ⟨hy, h1⟩ | ⟨hn, h1, h2⟩
      · have HN := Lib.hid (hw.next hlt hy)
        clear hw hy
        rcases h1 with h1 | ⟨h1, h2⟩
        all_goals
          go_wp2
          go_roundw
          case rel => exact ⟨k + 1, by omega, by go_num, HN.out, hb⟩
          case measure => simp [intOf]; omega
      · have HF := Lib.hid (hvl_bad (at_list s k hlt) hn)
        clear hw hn
        go_wp2
        go_ret
        exact ⟨by rw [HF.out]; rfl, hb⟩
    · have hke : k = s.size := by omega
      subst hke
      have HF := Lib.hid (hw.all h0)
      clear hw
      go_wp2
      go_ret
      exact ⟨by rw [HF.out]; first | rfl | (show Ending.returned (Value.bool (decide (0 < s.size))) = _; rw [hp2]), hb⟩

set_option maxHeartbeats 4000000 in
theorem halfValid_any (s : ByteArray) (hs : s.size ≤ 4611686018427387904) (w : World) :
    Calls Try.prog 78 #[.string s] w fun e w' => e = .returned (.bool (hvl s.data.toList)) ∧ Below w.heap.size w w' := by
  by_cases h0 : s.size = 0
  · obtain rfl := bempty h0
    go_enter Try.func78, Try.ntmps78
    go_wp2
    go_rounds 1
    go_ret
    exact ⟨rfl, Below.refl _ _⟩
  have hp : (0 : Int) < (s.size : Int) := by omega
  have he : s.toList.isEmpty = false := by rw [ByteArray.toList_eq]; simpa using ne_list h0
  have he1 : (s.toList == []) = false := by rw [ByteArray.toList_eq]; simpa using ne_list h0
  have he2 : (s.toList != []) = true := by rw [bne, he1]; rfl
  go_enter Try.func78, Try.ntmps78
  go_wp2
  go_loopw [6] (fun i wr => ∃ k : Nat, k ≤ s.size ∧ i = .int .i64 k ∧ Sybs s k ∧ Below w.heap.size w wr) (fun i _ => s.size - (intOf i).toNat)
  case atStart => exact ⟨0, Nat.zero_le _, rfl, Sybs.zero s, Below.refl _ _⟩
  case round =>
    obtain ⟨k, hk, rfl, hw, hb⟩ := hrel
    by_cases hlt : k < s.size
    · have k1 : (k : Int) < (s.size : Int) := by omega
      have k0 : (0 : Int) ≤ (k : Int) := by omega
      rcases syb_cases hlt with ⟨hy, h1⟩ | ⟨hn, h1, h2⟩
      · have HN := Lib.hid (hw.next hlt hy)
        clear hw hy
        rcases h1 with h1 | ⟨h1, h2⟩
        all_goals
          go_wp2
          go_roundw
          case rel => exact ⟨k + 1, by omega, by go_num, HN.out, hb⟩
          case measure => simp [intOf]; omega
      · have HF := Lib.hid (hvl_bad (at_list s k hlt) hn)
        clear hw hn
        go_wp2
        go_ret
        exact ⟨by rw [HF.out]; rfl, hb⟩
    · have hke : k = s.size := by omega
      subst hke
      have HF := Lib.hid (hw.all h0)
      clear hw
      go_wp2
      go_ret
      exact ⟨by rw [HF.out]; rfl, hb⟩

theorem ext_take (s : ByteArray) (k : Nat) : s.extract 0 k = ⟨(s.data.toList.take k).toArray⟩ := by
  rw [Lib.extract_eq]; simp
theorem ext_drop (s : ByteArray) (k : Nat) : s.extract k s.size = ⟨(s.data.toList.drop k).toArray⟩ := by
  rw [Lib.extract_eq]
  have : List.take (s.size - k) (List.drop k s.data.toList) = List.drop k s.data.toList := List.take_of_length_le (by rw [List.length_drop]; simp)
  rw [this]

set_option maxHeartbeats 4000000 in
theorem l4Halves_any (s : ByteArray) (hs : s.size ≤ 4611686018427387904) (w : World) :
    Calls Try.prog 49 #[.string s] w fun e w' => e = .returned (.tuple #[.string ⟨(vA s.data.toList).toArray⟩, .string ⟨(vB s.data.toList).toArray⟩]) ∧ Below w.heap.size w w' := by
  have HV := Lib.hid (fun k (c : UInt8) h1 h2 h3 => vat (l := s.data.toList) (k := k) (c := c) h1 h2 h3)
  have HN := Lib.hid (fun h => vno (l := s.data.toList) h)
  go_enter Try.func49, Try.ntmps49
  go_wp2
  go_loopw [4] (fun i wr => ∃ k : Nat, k ≤ s.size ∧ i = .int .i64 k ∧ Hid (vBar (s.data.toList.take k) = false) ∧ Below w.heap.size w wr) (fun i _ => s.size - (intOf i).toNat)
  case atStart => exact ⟨0, Nat.zero_le _, rfl, rfl, Below.refl _ _⟩
  case round =>
    obtain ⟨k, hk, rfl, hw, hb⟩ := hrel
    by_cases hlt : k < s.size
    · have k1 : (k : Int) < (s.size : Int) := by omega
      have k0 : (0 : Int) ≤ (k : Int) := by omega
      have ha := at_list s k hlt
      by_cases hc : s[k].toNat = 124
      · have h1 : ((s[k].toNat : Int) == 124) = true := by rw [hc]; rfl
        obtain ⟨e1, e2, _⟩ := HV.out k s[k] hw.out ha (UInt8.toNat_inj.1 hc)
        have HE : Hid ((⟨(vA s.data.toList).toArray⟩ : ByteArray) = s.extract 0 k ∧ (⟨(vB s.data.toList).toArray⟩ : ByteArray) = s.extract (k + 1) s.size) := ⟨by rw [e1, ext_take], by rw [e2, ext_drop]⟩
        have m1 : IntKind.i64.wrap ((k : Int) + 1) = (k : Int) + 1 := IntWalk.i64_in _ (by omega)
        have m2 : (0 : Int) ≤ (k : Int) + 1 := by omega
        have m3 : ((k : Int) + 1).toNat = k + 1 := by omega
        have m4 : (k : Int) + 1 ≤ (s.size : Int) := by omega
        have m5 : (k : Int) ≤ (s.size : Int) := by omega
        clear e1 e2 ha hc
        go_wp2
        go_quiet (fail)
        all_goals
          go_wp2
          go_ret2
          exact ⟨by rw [HE.out.1, HE.out.2]; rfl, ⟨hb.os, hb.tape, hb.output, hb.size, hb.block⟩⟩
      · have h1 : ((s[k].toNat : Int) == 124) = false := by rw [beq_eq_false_iff_ne]; omega
        have HX : Hid (vBar (s.data.toList.take (k + 1)) = false) := by
          show _ = _
          rw [List.take_add_one, ha]
          show vBar (_ ++ [s[k]]) = false
          rw [vBar_snoc, hw.out]
          simp only [Bool.false_or, decide_eq_false_iff_not]
          intro e
          exact hc (by rw [e]; rfl)
        clear ha hc
        go_wp2
        go_roundw
        case rel => exact ⟨k + 1, by omega, by go_num, HX, hb⟩
        case measure => simp [intOf]; omega
    · have hke : k = s.size := by omega
      subst hke
      have h9 := hw.out
      rw [List.take_of_length_le (by simp)] at h9
      obtain ⟨e1, e2⟩ := HN.out h9
      have HE : Hid ((⟨(vA s.data.toList).toArray⟩ : ByteArray) = s ∧ (⟨(vB s.data.toList).toArray⟩ : ByteArray) = ⟨#[]⟩) := ⟨by rw [e1], by rw [e2]⟩
      clear e1 e2 h9 hw
      go_wp2
      go_ret2
      exact ⟨by rw [HE.out.1, HE.out.2]; rfl, hb⟩

theorem hvl_of (l : List UInt8) : hvl (⟨l.toArray⟩ : ByteArray).data.toList = hvl l := rfl
/-- the library's variable that a search reads -/
def MaxAt (w : World) : Prop := ∃ m : Int, w.cell? ⟨0, 0, none⟩ = some (.int .i64 m)
theorem MaxAt.below {w W : World} (h : MaxAt w) (hb : Below w.heap.size w W) : MaxAt W := by
  obtain ⟨m, hm⟩ := h
  exact ⟨m, (hb.cell (p := ⟨0, 0, none⟩) (World.block_lt_of_cell? w _ hm)).trans hm⟩
theorem cutv_any (s : ByteArray) (hs : s.size ≤ 1048577) (w : World) (h : MaxAt w) :
    Calls Try.prog 77 #[.string s, .string ⟨#[124]⟩] w fun e w' => e = .returned (.tuple #[.string ⟨(vA s.data.toList).toArray⟩, .string ⟨(vB s.data.toList).toArray⟩, .bool (vBar s.data.toList)]) ∧ Below w.heap.size w w' := by
  obtain ⟨m, hm⟩ := h
  exact (Try.strings_Cut s ⟨#[124]⟩ m w (by omega) hm).mono fun e w' ⟨a, n, b⟩ => by
    have e1 : Lib.cut s.data.toList (⟨#[124]⟩ : ByteArray).data.toList = (vA s.data.toList, vB s.data.toList, vBar s.data.toList) := vcut _
    rw [e1] at a
    exact ⟨a, by rw [b]; exact ⟨rfl, rfl, rfl, Nat.le_refl _, fun _ _ => rfl⟩⟩

set_option maxHeartbeats 4000000 in
theorem newVerse_any (s : ByteArray) (hs : s.size ≤ 1048577) (w : World) (h : MaxAt w) :
    Calls Try.prog 50 #[.string s] w fun e w' => e = .returned (.tuple #[.agg #[.string (vFst s), .string (vSnd s)], .bool (vvl s.data.toList)]) ∧ Below w.heap.size w w' := by
  have KC := Lib.hid (fun W (hb : Below w.heap.size w W) => cutv_any s hs W (h.below hb))
  obtain ⟨lA, lB⟩ := vA_le s.data.toList
  have hsz : s.data.toList.length = s.size := by simp
  rw [hsz] at lA lB
  have KA := Lib.hid (halfValid_any ⟨(vA s.data.toList).toArray⟩ (by rw [mk_size]; omega))
  have KB := Lib.hid (halfValid_any ⟨(vB s.data.toList).toArray⟩ (by rw [mk_size]; omega))
  have SA : (⟨(vA s.data.toList).toArray⟩ : ByteArray).size = (vA s.data.toList).length := mk_size _
  have SB : (⟨(vB s.data.toList).toArray⟩ : ByteArray).size = (vB s.data.toList).length := mk_size _
  rw [mk_list] at KA KB
  cases h0 : vBar s.data.toList
  · have HV := Lib.hid (vvl_no0 h0)
    have HF := Lib.hid (vFst_no HV.out)
    rw [h0] at KC
    rw [HV.out, HF.out.1, HF.out.2]
    clear h0 hsz SA SB lA lB
    generalize (⟨(vA s.data.toList).toArray⟩ : ByteArray) = sa at KC KA
    generalize (⟨(vB s.data.toList).toArray⟩ : ByteArray) = sb at KC KB
    go_enter Try.func50, Try.ntmps50
    go_wp2_with (fail)
    go_at_call 77; refine (KC.out _ (by (repeat' (first | (with_reducible assumption) | (with_reducible exact Below.refl _ _) | (with_reducible refine Below.alloc ?_ ?_ _) | (with_reducible refine Below.drew ?_) | (with_reducible refine Below.setCell ?_ ?_ _) | (with_reducible refine below_gb ?_ (by assumption) ?_) | (with_reducible refine bl_step ?_ (by assumption)) | go_size)))).mono ?_; rintro e w1 ⟨rfl, hb1⟩; obtain ⟨hc1, hf1, hz1⟩ := bl hb1; (try simp at hz1); (try (refine got (p := w.heap.size < w1.heap.size) ?_ ?_; (focus (go_size; done)); intro q1_w0)); (try (refine got (p := w1.cell? ⟨w.heap.size, 0, none⟩ = some (.string ⟨#[]⟩)) ?_ ?_; (focus (refine (hc1 _ _ ?_).trans ?_; (focus (go_size; done)); go_simp; done)); intro c1_w0_0)); (try (refine got (p := w1.cell? ⟨w.heap.size, 1, none⟩ = some (.string ⟨#[]⟩)) ?_ ?_; (focus (refine (hc1 _ _ ?_).trans ?_; (focus (go_size; done)); go_simp; done)); intro c1_w0_1)); (try (refine got (p := ∀ o, w1.frozen? ⟨w.heap.size, o, none⟩ = false) ?_ ?_; (focus (intro o; refine (hf1 _ _ ?_).trans ?_; (focus (go_size; done)); go_simp; done)); intro f1_w0)); clear hc1 hf1
    go_wp2
    refine bodyPost_ret (v := .tuple #[.agg #[.string ⟨#[]⟩, .string ⟨#[]⟩], .bool false]) (by simp only [results, Try.results50]; go_simp) rfl ⟨rfl, ?_⟩; (repeat' (first | (with_reducible exact Below.refl _ _) | (with_reducible refine Below.alloc ?_ ?_ _) | (with_reducible refine Below.drew ?_) | (with_reducible refine Below.setCell ?_ ?_ _) | (with_reducible refine bl_step ?_ (by assumption)) | go_size))
  cases h1 : hvl (vA s.data.toList)
  · have HV := Lib.hid (vvl_no1 h1)
    have HF := Lib.hid (vFst_no HV.out)
    rw [h0] at KC
    rw [h1] at KA
    rw [HV.out, HF.out.1, HF.out.2]
    clear h0 h1 hsz SA SB lA lB
    generalize (⟨(vA s.data.toList).toArray⟩ : ByteArray) = sa at KC KA
    generalize (⟨(vB s.data.toList).toArray⟩ : ByteArray) = sb at KC KB
    go_enter Try.func50, Try.ntmps50
    go_wp2_with (fail)
    go_at_call 77; refine (KC.out _ (by (repeat' (first | (with_reducible assumption) | (with_reducible exact Below.refl _ _) | (with_reducible refine Below.alloc ?_ ?_ _) | (with_reducible refine Below.drew ?_) | (with_reducible refine Below.setCell ?_ ?_ _) | (with_reducible refine below_gb ?_ (by assumption) ?_) | (with_reducible refine bl_step ?_ (by assumption)) | go_size)))).mono ?_; rintro e w1 ⟨rfl, hb1⟩; obtain ⟨hc1, hf1, hz1⟩ := bl hb1; (try simp at hz1); (try (refine got (p := w.heap.size < w1.heap.size) ?_ ?_; (focus (go_size; done)); intro q1_w0)); (try (refine got (p := w1.cell? ⟨w.heap.size, 0, none⟩ = some (.string ⟨#[]⟩)) ?_ ?_; (focus (refine (hc1 _ _ ?_).trans ?_; (focus (go_size; done)); go_simp; done)); intro c1_w0_0)); (try (refine got (p := w1.cell? ⟨w.heap.size, 1, none⟩ = some (.string ⟨#[]⟩)) ?_ ?_; (focus (refine (hc1 _ _ ?_).trans ?_; (focus (go_size; done)); go_simp; done)); intro c1_w0_1)); (try (refine got (p := ∀ o, w1.frozen? ⟨w.heap.size, o, none⟩ = false) ?_ ?_; (focus (intro o; refine (hf1 _ _ ?_).trans ?_; (focus (go_size; done)); go_simp; done)); intro f1_w0)); clear hc1 hf1
    go_wp2_with (fail)
    go_at_call 78; refine (KA.out _).mono ?_; rintro e w2 ⟨rfl, hb2⟩; obtain ⟨hc2, hf2, hz2⟩ := bl hb2; (try simp at hz2); (try (refine got (p := w.heap.size < w2.heap.size) ?_ ?_; (focus (go_size; done)); intro q2_w0)); (try (refine got (p := w2.cell? ⟨w.heap.size, 0, none⟩ = some (.string ⟨#[]⟩)) ?_ ?_; (focus (refine (hc2 _ _ ?_).trans ?_; (focus (go_size; done)); go_simp; done)); intro c2_w0_0)); (try (refine got (p := w2.cell? ⟨w.heap.size, 1, none⟩ = some (.string ⟨#[]⟩)) ?_ ?_; (focus (refine (hc2 _ _ ?_).trans ?_; (focus (go_size; done)); go_simp; done)); intro c2_w0_1)); (try (refine got (p := ∀ o, w2.frozen? ⟨w.heap.size, o, none⟩ = false) ?_ ?_; (focus (intro o; refine (hf2 _ _ ?_).trans ?_; (focus (go_size; done)); go_simp; done)); intro f2_w0)); clear hc2 hf2
    go_wp2
    refine bodyPost_ret (v := .tuple #[.agg #[.string ⟨#[]⟩, .string ⟨#[]⟩], .bool false]) (by simp only [results, Try.results50]; go_simp) rfl ⟨rfl, ?_⟩; (repeat' (first | (with_reducible exact Below.refl _ _) | (with_reducible refine Below.alloc ?_ ?_ _) | (with_reducible refine Below.drew ?_) | (with_reducible refine Below.setCell ?_ ?_ _) | (with_reducible refine bl_step ?_ (by assumption)) | go_size))
  cases h2 : hvl (vB s.data.toList)
  · have HV := Lib.hid (vvl_no2 h2)
    have HF := Lib.hid (vFst_no HV.out)
    rw [h0] at KC
    rw [h1] at KA
    rw [h2] at KB
    rw [HV.out, HF.out.1, HF.out.2]
    clear h0 h1 h2 hsz SA SB lA lB
    generalize (⟨(vA s.data.toList).toArray⟩ : ByteArray) = sa at KC KA
    generalize (⟨(vB s.data.toList).toArray⟩ : ByteArray) = sb at KC KB
    go_enter Try.func50, Try.ntmps50
    go_wp2_with (fail)
    go_at_call 77; refine (KC.out _ (by (repeat' (first | (with_reducible assumption) | (with_reducible exact Below.refl _ _) | (with_reducible refine Below.alloc ?_ ?_ _) | (with_reducible refine Below.drew ?_) | (with_reducible refine Below.setCell ?_ ?_ _) | (with_reducible refine below_gb ?_ (by assumption) ?_) | (with_reducible refine bl_step ?_ (by assumption)) | go_size)))).mono ?_; rintro e w1 ⟨rfl, hb1⟩; obtain ⟨hc1, hf1, hz1⟩ := bl hb1; (try simp at hz1); (try (refine got (p := w.heap.size < w1.heap.size) ?_ ?_; (focus (go_size; done)); intro q1_w0)); (try (refine got (p := w1.cell? ⟨w.heap.size, 0, none⟩ = some (.string ⟨#[]⟩)) ?_ ?_; (focus (refine (hc1 _ _ ?_).trans ?_; (focus (go_size; done)); go_simp; done)); intro c1_w0_0)); (try (refine got (p := w1.cell? ⟨w.heap.size, 1, none⟩ = some (.string ⟨#[]⟩)) ?_ ?_; (focus (refine (hc1 _ _ ?_).trans ?_; (focus (go_size; done)); go_simp; done)); intro c1_w0_1)); (try (refine got (p := ∀ o, w1.frozen? ⟨w.heap.size, o, none⟩ = false) ?_ ?_; (focus (intro o; refine (hf1 _ _ ?_).trans ?_; (focus (go_size; done)); go_simp; done)); intro f1_w0)); clear hc1 hf1
    go_wp2_with (fail)
    go_at_call 78; refine (KA.out _).mono ?_; rintro e w2 ⟨rfl, hb2⟩; obtain ⟨hc2, hf2, hz2⟩ := bl hb2; (try simp at hz2); (try (refine got (p := w.heap.size < w2.heap.size) ?_ ?_; (focus (go_size; done)); intro q2_w0)); (try (refine got (p := w2.cell? ⟨w.heap.size, 0, none⟩ = some (.string ⟨#[]⟩)) ?_ ?_; (focus (refine (hc2 _ _ ?_).trans ?_; (focus (go_size; done)); go_simp; done)); intro c2_w0_0)); (try (refine got (p := w2.cell? ⟨w.heap.size, 1, none⟩ = some (.string ⟨#[]⟩)) ?_ ?_; (focus (refine (hc2 _ _ ?_).trans ?_; (focus (go_size; done)); go_simp; done)); intro c2_w0_1)); (try (refine got (p := ∀ o, w2.frozen? ⟨w.heap.size, o, none⟩ = false) ?_ ?_; (focus (intro o; refine (hf2 _ _ ?_).trans ?_; (focus (go_size; done)); go_simp; done)); intro f2_w0)); clear hc2 hf2
    go_wp2_with (fail)
    go_at_call 78; refine (KB.out _).mono ?_; rintro e w3 ⟨rfl, hb3⟩; obtain ⟨hc3, hf3, hz3⟩ := bl hb3; (try simp at hz3); (try (refine got (p := w.heap.size < w3.heap.size) ?_ ?_; (focus (go_size; done)); intro q3_w0)); (try (refine got (p := w3.cell? ⟨w.heap.size, 0, none⟩ = some (.string ⟨#[]⟩)) ?_ ?_; (focus (refine (hc3 _ _ ?_).trans ?_; (focus (go_size; done)); go_simp; done)); intro c3_w0_0)); (try (refine got (p := w3.cell? ⟨w.heap.size, 1, none⟩ = some (.string ⟨#[]⟩)) ?_ ?_; (focus (refine (hc3 _ _ ?_).trans ?_; (focus (go_size; done)); go_simp; done)); intro c3_w0_1)); (try (refine got (p := ∀ o, w3.frozen? ⟨w.heap.size, o, none⟩ = false) ?_ ?_; (focus (intro o; refine (hf3 _ _ ?_).trans ?_; (focus (go_size; done)); go_simp; done)); intro f3_w0)); clear hc3 hf3
    go_wp2
    refine bodyPost_ret (v := .tuple #[.agg #[.string ⟨#[]⟩, .string ⟨#[]⟩], .bool false]) (by simp only [results, Try.results50]; go_simp) rfl ⟨rfl, ?_⟩; (repeat' (first | (with_reducible exact Below.refl _ _) | (with_reducible refine Below.alloc ?_ ?_ _) | (with_reducible refine Below.drew ?_) | (with_reducible refine Below.setCell ?_ ?_ _) | (with_reducible refine bl_step ?_ (by assumption)) | go_size))
  by_cases h3 : 20 < (vA s.data.toList).length + (vB s.data.toList).length
  · have HV := Lib.hid (vvl_no3 h3)
    have HF := Lib.hid (vFst_no HV.out)
    rw [h0] at KC
    rw [h1] at KA
    rw [h2] at KB
    rw [HV.out, HF.out.1, HF.out.2]
    rw [← SA, ← SB] at h3
    rw [← SA] at lA
    rw [← SB] at lB
    clear h0 h1 h2 hsz SA SB
    generalize (⟨(vA s.data.toList).toArray⟩ : ByteArray) = sa at KC KA h3 lA
    generalize (⟨(vB s.data.toList).toArray⟩ : ByteArray) = sb at KC KB h3 lB
    have h4 : (20 : Int) < (sa.size : Int) + (sb.size : Int) := by omega
    go_enter Try.func50, Try.ntmps50
    go_wp2_with (fail)
    go_at_call 77; refine (KC.out _ (by (repeat' (first | (with_reducible assumption) | (with_reducible exact Below.refl _ _) | (with_reducible refine Below.alloc ?_ ?_ _) | (with_reducible refine Below.drew ?_) | (with_reducible refine Below.setCell ?_ ?_ _) | (with_reducible refine below_gb ?_ (by assumption) ?_) | (with_reducible refine bl_step ?_ (by assumption)) | go_size)))).mono ?_; rintro e w1 ⟨rfl, hb1⟩; obtain ⟨hc1, hf1, hz1⟩ := bl hb1; (try simp at hz1); (try (refine got (p := w.heap.size < w1.heap.size) ?_ ?_; (focus (go_size; done)); intro q1_w0)); (try (refine got (p := w1.cell? ⟨w.heap.size, 0, none⟩ = some (.string ⟨#[]⟩)) ?_ ?_; (focus (refine (hc1 _ _ ?_).trans ?_; (focus (go_size; done)); go_simp; done)); intro c1_w0_0)); (try (refine got (p := w1.cell? ⟨w.heap.size, 1, none⟩ = some (.string ⟨#[]⟩)) ?_ ?_; (focus (refine (hc1 _ _ ?_).trans ?_; (focus (go_size; done)); go_simp; done)); intro c1_w0_1)); (try (refine got (p := ∀ o, w1.frozen? ⟨w.heap.size, o, none⟩ = false) ?_ ?_; (focus (intro o; refine (hf1 _ _ ?_).trans ?_; (focus (go_size; done)); go_simp; done)); intro f1_w0)); clear hc1 hf1
    go_wp2_with (fail)
    go_at_call 78; refine (KA.out _).mono ?_; rintro e w2 ⟨rfl, hb2⟩; obtain ⟨hc2, hf2, hz2⟩ := bl hb2; (try simp at hz2); (try (refine got (p := w.heap.size < w2.heap.size) ?_ ?_; (focus (go_size; done)); intro q2_w0)); (try (refine got (p := w2.cell? ⟨w.heap.size, 0, none⟩ = some (.string ⟨#[]⟩)) ?_ ?_; (focus (refine (hc2 _ _ ?_).trans ?_; (focus (go_size; done)); go_simp; done)); intro c2_w0_0)); (try (refine got (p := w2.cell? ⟨w.heap.size, 1, none⟩ = some (.string ⟨#[]⟩)) ?_ ?_; (focus (refine (hc2 _ _ ?_).trans ?_; (focus (go_size; done)); go_simp; done)); intro c2_w0_1)); (try (refine got (p := ∀ o, w2.frozen? ⟨w.heap.size, o, none⟩ = false) ?_ ?_; (focus (intro o; refine (hf2 _ _ ?_).trans ?_; (focus (go_size; done)); go_simp; done)); intro f2_w0)); clear hc2 hf2
    go_wp2_with (fail)
    go_at_call 78; refine (KB.out _).mono ?_; rintro e w3 ⟨rfl, hb3⟩; obtain ⟨hc3, hf3, hz3⟩ := bl hb3; (try simp at hz3); (try (refine got (p := w.heap.size < w3.heap.size) ?_ ?_; (focus (go_size; done)); intro q3_w0)); (try (refine got (p := w3.cell? ⟨w.heap.size, 0, none⟩ = some (.string ⟨#[]⟩)) ?_ ?_; (focus (refine (hc3 _ _ ?_).trans ?_; (focus (go_size; done)); go_simp; done)); intro c3_w0_0)); (try (refine got (p := w3.cell? ⟨w.heap.size, 1, none⟩ = some (.string ⟨#[]⟩)) ?_ ?_; (focus (refine (hc3 _ _ ?_).trans ?_; (focus (go_size; done)); go_simp; done)); intro c3_w0_1)); (try (refine got (p := ∀ o, w3.frozen? ⟨w.heap.size, o, none⟩ = false) ?_ ?_; (focus (intro o; refine (hf3 _ _ ?_).trans ?_; (focus (go_size; done)); go_simp; done)); intro f3_w0)); clear hc3 hf3
    go_wp2
    refine bodyPost_ret (v := .tuple #[.agg #[.string ⟨#[]⟩, .string ⟨#[]⟩], .bool false]) (by simp only [results, Try.results50]; go_simp) rfl ⟨rfl, ?_⟩; (repeat' (first | (with_reducible exact Below.refl _ _) | (with_reducible refine Below.alloc ?_ ?_ _) | (with_reducible refine Below.drew ?_) | (with_reducible refine Below.setCell ?_ ?_ _) | (with_reducible refine bl_step ?_ (by assumption)) | go_size))
  · have HV := Lib.hid (vvl_yes h1 h2 (by omega))
    have HF := Lib.hid (vFst_yes HV.out)
    rw [h0] at KC
    rw [h1] at KA
    rw [h2] at KB
    rw [HV.out, HF.out.1, HF.out.2]
    rw [← SA, ← SB] at h3
    rw [← SA] at lA
    rw [← SB] at lB
    clear h0 h1 h2 hsz SA SB
    generalize (⟨(vA s.data.toList).toArray⟩ : ByteArray) = sa at *
    generalize (⟨(vB s.data.toList).toArray⟩ : ByteArray) = sb at *
    have h4 : decide ((20 : Int) < (sa.size : Int) + (sb.size : Int)) = false := by simp; omega
    go_enter Try.func50, Try.ntmps50
    go_wp2_with (fail)
    go_at_call 77; refine (KC.out _ (by (repeat' (first | (with_reducible assumption) | (with_reducible exact Below.refl _ _) | (with_reducible refine Below.alloc ?_ ?_ _) | (with_reducible refine Below.drew ?_) | (with_reducible refine Below.setCell ?_ ?_ _) | (with_reducible refine below_gb ?_ (by assumption) ?_) | (with_reducible refine bl_step ?_ (by assumption)) | go_size)))).mono ?_; rintro e w1 ⟨rfl, hb1⟩; obtain ⟨hc1, hf1, hz1⟩ := bl hb1; (try simp at hz1); (try (refine got (p := w.heap.size < w1.heap.size) ?_ ?_; (focus (go_size; done)); intro q1_w0)); (try (refine got (p := w1.cell? ⟨w.heap.size, 0, none⟩ = some (.string ⟨#[]⟩)) ?_ ?_; (focus (refine (hc1 _ _ ?_).trans ?_; (focus (go_size; done)); go_simp; done)); intro c1_w0_0)); (try (refine got (p := w1.cell? ⟨w.heap.size, 1, none⟩ = some (.string ⟨#[]⟩)) ?_ ?_; (focus (refine (hc1 _ _ ?_).trans ?_; (focus (go_size; done)); go_simp; done)); intro c1_w0_1)); (try (refine got (p := ∀ o, w1.frozen? ⟨w.heap.size, o, none⟩ = false) ?_ ?_; (focus (intro o; refine (hf1 _ _ ?_).trans ?_; (focus (go_size; done)); go_simp; done)); intro f1_w0)); clear hc1 hf1
    go_wp2_with (fail)
    go_at_call 78; refine (KA.out _).mono ?_; rintro e w2 ⟨rfl, hb2⟩; obtain ⟨hc2, hf2, hz2⟩ := bl hb2; (try simp at hz2); (try (refine got (p := w.heap.size < w2.heap.size) ?_ ?_; (focus (go_size; done)); intro q2_w0)); (try (refine got (p := w2.cell? ⟨w.heap.size, 0, none⟩ = some (.string ⟨#[]⟩)) ?_ ?_; (focus (refine (hc2 _ _ ?_).trans ?_; (focus (go_size; done)); go_simp; done)); intro c2_w0_0)); (try (refine got (p := w2.cell? ⟨w.heap.size, 1, none⟩ = some (.string ⟨#[]⟩)) ?_ ?_; (focus (refine (hc2 _ _ ?_).trans ?_; (focus (go_size; done)); go_simp; done)); intro c2_w0_1)); (try (refine got (p := ∀ o, w2.frozen? ⟨w.heap.size, o, none⟩ = false) ?_ ?_; (focus (intro o; refine (hf2 _ _ ?_).trans ?_; (focus (go_size; done)); go_simp; done)); intro f2_w0)); clear hc2 hf2
    go_wp2_with (fail)
    go_at_call 78; refine (KB.out _).mono ?_; rintro e w3 ⟨rfl, hb3⟩; obtain ⟨hc3, hf3, hz3⟩ := bl hb3; (try simp at hz3); (try (refine got (p := w.heap.size < w3.heap.size) ?_ ?_; (focus (go_size; done)); intro q3_w0)); (try (refine got (p := w3.cell? ⟨w.heap.size, 0, none⟩ = some (.string ⟨#[]⟩)) ?_ ?_; (focus (refine (hc3 _ _ ?_).trans ?_; (focus (go_size; done)); go_simp; done)); intro c3_w0_0)); (try (refine got (p := w3.cell? ⟨w.heap.size, 1, none⟩ = some (.string ⟨#[]⟩)) ?_ ?_; (focus (refine (hc3 _ _ ?_).trans ?_; (focus (go_size; done)); go_simp; done)); intro c3_w0_1)); (try (refine got (p := ∀ o, w3.frozen? ⟨w.heap.size, o, none⟩ = false) ?_ ?_; (focus (intro o; refine (hf3 _ _ ?_).trans ?_; (focus (go_size; done)); go_simp; done)); intro f3_w0)); clear hc3 hf3
    go_wp2
    refine bodyPost_ret (v := .tuple #[.agg #[.string sa, .string sb], .bool true]) (by simp only [results, Try.results50]; go_simp) rfl ⟨rfl, ?_⟩; (repeat' (first | (with_reducible exact Below.refl _ _) | (with_reducible refine Below.alloc ?_ ?_ _) | (with_reducible refine Below.drew ?_) | (with_reducible refine Below.setCell ?_ ?_ _) | (with_reducible refine bl_step ?_ (by assumption)) | go_size))
end Go.Proofs.Ytcmcdomfmmjogaa
