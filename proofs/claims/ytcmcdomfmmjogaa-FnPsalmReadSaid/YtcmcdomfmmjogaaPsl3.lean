/-
  The psalm tone of a list that has the most accents: both programs.
-/
import Derived.Test.YtcmcdomfmmjogaaPsl2
import Derived.Test.YtcmcdomfmmjogaaPsu
namespace Go.Proofs.Ytcmcdomfmmjogaa
open Go.RowKit
set_option maxRecDepth 100000
set_option linter.unusedVariables false

/-- the first index with the most accents, from index i on -/
def bG (s : ByteArray) : List Psa → Nat → Nat → Int → Nat × Int
  | [], _, b, m => (b, m)
  | p :: r, i, b, m => if m < psA p s then bG s r (i + 1) i (psA p s) else bG s r (i + 1) b m
theorem bG_step {s : ByteArray} {ps : List Psa} {k : Nat} {p : Psa} (h : ps[k]? = some p) (b : Nat) (m : Int) : bG s (ps.drop k) k b m = if m < psA p s then bG s (ps.drop (k + 1)) (k + 1) k (psA p s) else bG s (ps.drop (k + 1)) (k + 1) b m := by
  obtain ⟨hk, rfl⟩ := List.getElem?_eq_some_iff.1 h
  rw [List.drop_eq_getElem_cons hk]
  rfl
theorem psA_low (p : Psa) (s : ByteArray) : -1 ≤ psA p s ∧ (psA p s = -1 ∨ 0 ≤ psA p s) := by
  cases h : pfit p s with
  | false => rw [psA_no h]; omega
  | true => rw [psA_yes h]; omega
theorem pall_step {ps : List Psa} {k : Nat} {p : Psa} (h : ps[k]? = some p) : (ps.drop k).all pv = (pv p && (ps.drop (k + 1)).all pv) := by
  obtain ⟨hk, rfl⟩ := List.getElem?_eq_some_iff.1 h
  rw [List.drop_eq_getElem_cons hk, List.all_cons]
/-- what PsalmBest answers -/
def pB (ps : List Psa) (s : ByteArray) : Nat × Bool :=
  if vvl s.data.toList && ps.all pv then ((bG s ps 0 0 (-1)).1, decide (0 ≤ (bG s ps 0 0 (-1)).2)) else (0, false)
/-- a round's psalm tone -/
theorem PLV.at {w : World} {v : Value} {ps : List Psa} (h : PLV w v ps) : ∃ a c, v = .slice a ps.length c ∧ ps.length ≤ 9223372036854775807 ∧ ∀ k p, ps[k]? = some p → ∃ A off b0 b1 b2 d0 d1 d2, a = some ⟨A, off, none⟩ ∧ A < w.heap.size ∧
    w.cell? ⟨A, off + k * 5, none⟩ = some (.slice b0 p.st.length d0) ∧ w.cell? ⟨A, off + k * 5 + 1, none⟩ = some (.int .i64 p.tn.1) ∧ w.cell? ⟨A, off + k * 5 + 2, none⟩ = some (.bool p.tn.2) ∧ w.cell? ⟨A, off + k * 5 + 3, none⟩ = some (.slice b1 p.mi.length d1) ∧ w.cell? ⟨A, off + k * 5 + 4, none⟩ = some (.slice b2 p.en.length d2) ∧
    PV w (.agg #[.slice b0 p.st.length d0, .int .i64 p.tn.1, .bool p.tn.2, .slice b1 p.mi.length d1, .slice b2 p.en.length d2]) p := by
  obtain ⟨a, c, rfl, h, h1, h2⟩ := h
  unfold maxLen at h2
  refine ⟨a, c, rfl, by omega, fun k p hp => ?_⟩
  rcases h with h | ⟨A, off, rfl, hA, hc⟩
  · subst h; simp at hp
  · obtain ⟨v0, v1, v2, e0, e1, e2, e3, e4, l0, l1, l2⟩ := hc k p hp
    obtain ⟨b0, d0, rfl, _, _⟩ := l0.sl
    obtain ⟨b1, d1, rfl, _, _⟩ := l1.sl
    obtain ⟨b2, d2, rfl, _, _⟩ := l2.sl
    exact ⟨A, off, b0, b1, b2, d0, d1, d2, rfl, hA, e0, e1, e2, e3, e4, _, _, _, rfl, l0, l1, l2⟩

set_option maxHeartbeats 2000000 in
theorem allPsalms_any (v : Value) (ps : List Psa) (w : World) (h : PLV w v ps) :
    Calls Try.prog 61 #[v] w fun e w' => e = .returned (.bool (ps.all pv)) ∧ Below w.heap.size w w' := by
  obtain ⟨a, c, rfl, hl, hat⟩ := h.at
  have HAT := Lib.hid hat
  have HST : Hid ((ps.drop 0).all pv = ps.all pv) := (rfl : (ps.drop 0).all pv = ps.all pv)
  have HEND : Hid ((ps.drop ps.length).all pv = true) := by show _ = _; rw [List.drop_length]; rfl
  have HSP := Lib.hid (fun k p (h : ps[k]? = some p) => pall_step h)
  generalize ps.all pv = r at HST ⊢
  clear hat h
  go_enter Try.func61, Try.ntmps61
  go_wp2
  go_loopw [7] (fun i wr => ∃ k : Nat, k ≤ ps.length ∧ i = .int .i64 k ∧ (ps.drop k).all pv = r ∧ Below w.heap.size w wr) (fun i _ => ps.length - (intOf i).toNat)
  case atStart => exact ⟨0, Nat.zero_le _, rfl, HST.out, by (repeat' (first | (with_reducible exact Below.refl _ _) | (with_reducible refine Below.alloc ?_ ?_ _) | (with_reducible refine Below.drew ?_) | (with_reducible refine Below.setCell ?_ ?_ _) | (with_reducible refine bl_step ?_ (by assumption)) | go_size))⟩
  case round =>
    obtain ⟨k, hk, rfl, hr, hb⟩ := hrel
    by_cases hlt : k < ps.length
    · obtain ⟨p, hx⟩ := ps_get hlt
      obtain ⟨A, off, b0, b1, b2, d0, d1, d2, rfl, hA, e0, e1, e2, e3, e4, hv⟩ := HAT.out k p hx
      have e0 := (hb.cell (p := ⟨A, off + k * 5, none⟩) hA).trans e0
      have e1 := (hb.cell (p := ⟨A, off + k * 5 + 1, none⟩) hA).trans e1
      have e2 := (hb.cell (p := ⟨A, off + k * 5 + 2, none⟩) hA).trans e2
      have e3 := (hb.cell (p := ⟨A, off + k * 5 + 3, none⟩) hA).trans e3
      have e4 := (hb.cell (p := ⟨A, off + k * 5 + 4, none⟩) hA).trans e4
      have KV := Lib.hid (fun W (hb : Below w.heap.size w W) => psalmValid_any _ p W (hv.below hb))
      have hk0 : (0 : Int) ≤ (k : Int) := by omega
      have hk1 : (k : Int) < (ps.length : Int) := by omega
      have hs := HSP.out k p hx
      rw [hr] at hs
      have HS := Lib.hid hs
      clear hs hv hr hx
      generalize p.st.length = q0 at *
      generalize p.mi.length = q1 at *
      generalize p.en.length = q2 at *
      generalize pv p = g at KV HS
      cases g
      · go_wp2_with (fail)
        (go_at_call 27; refine (KV.out _ (hb.alloc hb.size _)).mono ?_; rintro e w1 ⟨rfl, hb1⟩)
        go_wp2
        go_ret
        exact ⟨by rw [HS.out]; rfl, bl_step (hb.alloc hb.size _) hb1⟩
      · go_wp2_with (fail)
        (go_at_call 27; refine (KV.out _ (hb.alloc hb.size _)).mono ?_; rintro e w1 ⟨rfl, hb1⟩)
        go_wp2
        go_roundw
        case rel => exact ⟨k + 1, by omega, by go_num, by rw [HS.out]; rfl, bl_step (hb.alloc hb.size _) hb1⟩
        case measure => simp [intOf]; omega
    · have hkn : k = ps.length := by omega
      subst hkn
      have HR : Hid (r = true) := hr.symm.trans HEND.out
      clear hr
      go_wp2
      go_ret
      exact ⟨by rw [HR.out]; rfl, hb⟩

set_option maxHeartbeats 2000000 in
theorem l4All_any (v : Value) (ps : List Psa) (w : World) (h : PLV w v ps) :
    Calls Try.prog 62 #[v] w fun e w' => e = .returned (.bool (ps.all pv)) ∧ Below w.heap.size w w' := by
  obtain ⟨a, c, rfl, hl, hat⟩ := h.at
  have HAT := Lib.hid hat
  have HST : Hid ((ps.drop 0).all pv = ps.all pv) := (rfl : (ps.drop 0).all pv = ps.all pv)
  have HEND : Hid ((ps.drop ps.length).all pv = true) := by show _ = _; rw [List.drop_length]; rfl
  have HSP := Lib.hid (fun k p (h : ps[k]? = some p) => pall_step h)
  generalize ps.all pv = r at HST ⊢
  clear hat h
  go_enter Try.func62, Try.ntmps62
  go_wp2
  go_loopw [3] (fun i wr => ∃ k : Nat, k ≤ ps.length ∧ i = .int .i64 k ∧ (ps.drop k).all pv = r ∧ Below w.heap.size w wr) (fun i _ => ps.length - (intOf i).toNat)
  case atStart => exact ⟨0, Nat.zero_le _, rfl, HST.out, by (repeat' (first | (with_reducible exact Below.refl _ _) | (with_reducible refine Below.alloc ?_ ?_ _) | (with_reducible refine Below.drew ?_) | (with_reducible refine Below.setCell ?_ ?_ _) | (with_reducible refine bl_step ?_ (by assumption)) | go_size))⟩
  case round =>
    obtain ⟨k, hk, rfl, hr, hb⟩ := hrel
    by_cases hlt : k < ps.length
    · obtain ⟨p, hx⟩ := ps_get hlt
      obtain ⟨A, off, b0, b1, b2, d0, d1, d2, rfl, hA, e0, e1, e2, e3, e4, hv⟩ := HAT.out k p hx
      have e0 := (hb.cell (p := ⟨A, off + k * 5, none⟩) hA).trans e0
      have e1 := (hb.cell (p := ⟨A, off + k * 5 + 1, none⟩) hA).trans e1
      have e2 := (hb.cell (p := ⟨A, off + k * 5 + 2, none⟩) hA).trans e2
      have e3 := (hb.cell (p := ⟨A, off + k * 5 + 3, none⟩) hA).trans e3
      have e4 := (hb.cell (p := ⟨A, off + k * 5 + 4, none⟩) hA).trans e4
      have KV := Lib.hid (fun W (hb : Below w.heap.size w W) => sPsalmValid_any _ p W (hv.below hb))
      have hk0 : (0 : Int) ≤ (k : Int) := by omega
      have hk1 : (k : Int) < (ps.length : Int) := by omega
      have hs := HSP.out k p hx
      rw [hr] at hs
      have HS := Lib.hid hs
      clear hs hv hr hx
      generalize p.st.length = q0 at *
      generalize p.mi.length = q1 at *
      generalize p.en.length = q2 at *
      generalize pv p = g at KV HS
      cases g
      · go_wp2_with (fail)
        (go_at_call 39; refine (KV.out _ hb).mono ?_; rintro e w1 ⟨rfl, hb1⟩)
        go_wp2
        go_ret
        exact ⟨by rw [HS.out]; rfl, bl_step hb hb1⟩
      · go_wp2_with (fail)
        (go_at_call 39; refine (KV.out _ hb).mono ?_; rintro e w1 ⟨rfl, hb1⟩)
        go_wp2
        go_roundw
        case rel => exact ⟨k + 1, by omega, by go_num, by rw [HS.out]; rfl, bl_step hb hb1⟩
        case measure => simp [intOf]; omega
    · have hkn : k = ps.length := by omega
      subst hkn
      have HR : Hid (r = true) := hr.symm.trans HEND.out
      clear hr
      go_wp2
      go_ret
      exact ⟨by rw [HR.out]; rfl, hb⟩
end Go.Proofs.Ytcmcdomfmmjogaa
