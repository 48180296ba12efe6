/-
  A text cut at a byte, in the model.
-/
import Derived.Test.YtjodcaeohkjlnaaDoorMfm
import Derived.Test.YtjodcaeohkjlnaaDoorJn
import Derived.IntWalk
namespace Go.Proofs.YtjodcaeohkjlnaaDoor
open Go.RowKit
set_option maxRecDepth 100000
set_option linter.unusedVariables false

theorem cutW_snoc {c : UInt8} (h : c ≠ 32) : ∀ (l : List UInt8) (a : List (List UInt8)) (b : List UInt8), cutW l = a ++ [b] → cutW (l ++ [c]) = a ++ [b ++ [c]]
  | [], a, b, e => by
    have e2 : a ++ [b] = [[]] := e.symm
    cases a with
    | nil => injection e2 with e3 _; subst e3; rw [List.nil_append, cutW_cons h]; rfl
    | cons x a => simp at e2
  | x :: l, a, b, e => by
    by_cases hx : x = 32
    · subst hx
      rw [cutW_cons_sp] at e
      rw [List.cons_append, cutW_cons_sp]
      cases a with
      | nil => simp at e; exact absurd e.2 (cutW_ne l)
      | cons y a =>
        rw [List.cons_append] at e
        injection e with e1 e2
        rw [cutW_snoc h l a b e2, ← e1]; rfl
    · rw [cutW_cons hx] at e
      rw [List.cons_append, cutW_cons hx]
      obtain ⟨v, vs, hv⟩ : ∃ v vs, cutW l = v :: vs := by
        cases hh : cutW l with
        | nil => exact absurd hh (cutW_ne l)
        | cons v vs => exact ⟨v, vs, rfl⟩
      rw [hv] at e
      have e : (x :: v) :: vs = a ++ [b] := e
      cases a with
      | nil =>
        rw [List.nil_append] at e
        injection e with e1 e2
        rw [cutW_snoc h l [] v (by rw [hv, e2]; rfl), ← e1]; rfl
      | cons y a =>
        rw [List.cons_append] at e
        injection e with e1 e2
        rw [cutW_snoc h l (v :: a) b (by rw [hv, e2]; rfl), ← e1]; rfl

/-- the state behind k bytes: the closed words, and where the open one began -/
structure CutAt (l : List UInt8) (k st : Nat) (ws : List ByteArray) : Prop where
  lo : st ≤ k
  cut : cutW (l.take k) = ws.map (·.data.toList) ++ [(l.take k).drop st]
  len : ws.length ≤ k

theorem CutAt.start (l : List UInt8) : CutAt l 0 0 [] := ⟨Nat.le_refl _, rfl, Nat.le_refl _⟩

theorem CutAt.sp {l : List UInt8} {k st : Nat} {ws : List ByteArray} (h : CutAt l k st ws) (hk : l[k]? = some 32) : CutAt l (k + 1) (k + 1) (ws ++ [⟨((l.take k).drop st).toArray⟩]) := by
  have hkl : k < l.length := (List.getElem?_eq_some_iff.1 hk).1
  refine ⟨Nat.le_refl _, ?_, by have := h.len; simp; omega⟩
  rw [List.take_add_one, hk]
  show cutW (l.take k ++ [32]) = _
  rw [cutW_snoc_sp, h.cut, List.map_append]
  simp [List.length_take]
  omega

theorem CutAt.more {l : List UInt8} {k st : Nat} {ws : List ByteArray} {c : UInt8} (h : CutAt l k st ws) (hk : l[k]? = some c) (hc : c ≠ 32) : CutAt l (k + 1) st ws := by
  have hkl : k < l.length := (List.getElem?_eq_some_iff.1 hk).1
  have hs := h.lo
  refine ⟨by omega, ?_, by have := h.len; omega⟩
  rw [List.take_add_one, hk]
  show cutW (l.take k ++ [c]) = _
  rw [cutW_snoc hc _ _ _ h.cut]
  congr 1
  show _ = [(l.take k ++ [c]).drop st]
  rw [List.drop_append_of_le_length (by rw [List.length_take]; omega)]

theorem CutAt.done {s : ByteArray} {st : Nat} {ws : List ByteArray} (h : CutAt s.data.toList s.size st ws) : wds s = ws ++ [⟨(s.data.toList.drop st).toArray⟩] := by
  have hl : s.data.toList.length = s.size := by simp
  have e := h.cut
  rw [List.take_of_length_le (by omega)] at e
  unfold wds
  rw [e, List.map_append, List.map_map]
  congr 1
  conv => rhs; rw [← List.map_id ws]
  apply List.map_congr_left
  intro x _
  obtain ⟨⟨d⟩⟩ := x
  rfl

theorem ext_eq (s : ByteArray) {st k : Nat} (h : st ≤ k) (hk : k ≤ s.size) : s.extract st k = ⟨((s.data.toList.take k).drop st).toArray⟩ := by
  apply ByteArray.ext
  rw [ByteArray.data_extract]
  apply Array.ext'
  rw [Array.toList_extract]
  simp [List.drop_take]

set_option maxRecDepth 100000 in
set_option maxHeartbeats 4000000 in
theorem l2Cut_any (s : ByteArray) (hs : s.size ≤ 1048576) (w : World) :
    Calls Tryd.prog 120 #[.string s, .int .u8 32] w fun e w' => ∃ v, e = .returned v ∧ JRow w' w.heap.size v (wds s) ∧ Below w.heap.size w w' := by
  obtain ⟨i0, hi0, hq0, hq1, hq2⟩ := info_parts infoStrJ
  have HS0 : Hid (JRow (w.alloc (.cells #[] 9)) w.heap.size (.slice (some ⟨w.heap.size, 0, none⟩) 0 0) []) := JRow.start w w (Below.refl _ _)
  have HB0 : Hid (Below w.heap.size w (w.alloc (.cells #[] 9))) := (Below.refl _ _).alloc (Nat.le_refl _) _
  go_enter Tryd.func120, Tryd.ntmps120
  go_wp2
  go_loopw [5, 6, 7] (fun o j i wr => ∃ (k st : Nat) (ws : List ByteArray), k ≤ s.size ∧ i = .int .i64 k ∧ j = .int .i64 st ∧ CutAt s.data.toList k st ws ∧ JRow wr w.heap.size o ws ∧ Below w.heap.size w wr) (fun _ _ i _ => s.size - (intOf i).toNat)
  case atStart => exact ⟨0, 0, [], Nat.zero_le _, rfl, rfl, CutAt.start _, HS0.out, HB0.out⟩
  case round =>
    obtain ⟨k, st, ws, hk, rfl, rfl, hC, hJ, hb⟩ := hrel
    have hst := hC.lo
    have hwl := hC.len
    have k0 : (0 : Int) ≤ (k : Int) := by omega
    have st0 : (0 : Int) ≤ (st : Int) := by omega
    have st1 : (st : Int) ≤ (k : Int) := by omega
    have k2 : (k : Int) ≤ (s.size : Int) := by omega
    have hbs := hb.size
    have HB := Lib.hid hb
    have HC := Lib.hid hC
    have HJ := Lib.hid hJ
    by_cases hlt : k < s.size
    · have k1 : (k : Int) < (s.size : Int) := by omega
      have hg : s.data.toList[k]? = some s[k] := by
        rw [List.getElem?_eq_getElem (by simpa using hlt)]; rfl
      have HE := Lib.hid (ext_eq s hst hk)
      by_cases hc : s[k] = 32
      · have hC2 := Lib.hid (hC.sp (by rw [hg, hc]))
        have hc2 : (((s[k]).toNat : Int) == 32) = true := by rw [hc]; rfl
        have hc3 : ((s[k]).toNat : Int) = 32 := by rw [hc]; rfl
        rw [← HE.out] at hC2
        clear hg hC hb
        go_wp2_with (at_builtin; refine wpList_append_own _ rfl _ _ 88 rfl w.heap.size 9 i0 (.string ⟨#[]⟩) 1 16 Tryd.underlying88 hi0 hq0 hq1 hq2 rfl (by decide) _ _ _ rfl (World.ownsRow.alloc hJ _) ⟨wr.heap.size, 0, none⟩ 1 1 [.string (s.extract st k)] rfl rfl jnews jnews_one (by unfold maxLen; omega) (by omega) (by simp; omega) ?_)
        intro v' w2 hown' hgrow _
        have HJ2 : Hid (JRow w2 w.heap.size v' (ws ++ [s.extract st k])) := JRow.app hown'
        have HB2 : Hid (Below w.heap.size w w2) := (HB.out.alloc hbs _).grown hgrow (by simp; omega) (fun q hq => (World.ownsRow.lt HJ.out q hq).1)
        clear hown' hgrow hJ
        go_wp2
        go_roundw
        case rel => exact ⟨k + 1, k + 1, _, by omega, by go_num, by go_num, hC2.out, HJ2.out, HB2.out⟩
        case measure => simp [intOf]; omega
      · have hC2 := Lib.hid (hC.more hg hc)
        have hc2 : (((s[k]).toNat : Int) == 32) = false := by
          rw [beq_eq_false_iff_ne]
          intro e
          exact hc (UInt8.toNat_inj.1 (by show (s[k]).toNat = 32; omega))
        have hc3 : ¬ ((s[k]).toNat : Int) = 32 := by simpa using hc2
        clear hg hC hb hJ
        go_wp2
        go_roundw
        case rel => exact ⟨k + 1, st, _, by omega, by go_num, rfl, hC2.out, HJ.out, HB.out⟩
        case measure => simp [intOf]; omega
    · have hke : k = s.size := by omega
      subst hke
      have HD := Lib.hid hC.done
      have HE : Hid (s.extract st s.size = ⟨(s.data.toList.drop st).toArray⟩) := by
        show _ = _
        rw [ext_eq s hst (Nat.le_refl _), List.take_of_length_le (by simp)]
      rw [← HE.out] at HD
      clear hC hb
      go_wp2_with (at_builtin; refine wpList_append_own _ rfl _ _ 88 rfl w.heap.size 9 i0 (.string ⟨#[]⟩) 1 16 Tryd.underlying88 hi0 hq0 hq1 hq2 rfl (by decide) _ _ _ rfl (World.ownsRow.alloc hJ _) ⟨wr.heap.size, 0, none⟩ 1 1 [.string (s.extract st s.size)] rfl rfl jnews jnews_one (by unfold maxLen; omega) (by omega) (by simp; omega) ?_)
      intro v' w2 hown' hgrow _
      have HJ2 : Hid (JRow w2 w.heap.size v' (wds s)) := by
        show JRow _ _ _ _
        rw [HD.out]
        exact JRow.app hown'
      have HB2 : Hid (Below w.heap.size w w2) := (HB.out.alloc hbs _).grown hgrow (by simp; omega) (fun q hq => (World.ownsRow.lt HJ.out q hq).1)
      clear hown' hgrow hJ
      go_wp2
      go_ret
      exact ⟨_, rfl, HJ2.out, HB2.out⟩
end Go.Proofs.YtjodcaeohkjlnaaDoor
