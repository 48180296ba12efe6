/-
  Formulas marked by the exact laws' helper, and read again.
-/
import Derived.Test.YtjhigjbfnemdjaaFt
namespace Go.Proofs.Ytjhigjbfnemdjaa
open Go.RowKit
set_option maxRecDepth 100000
set_option linter.unusedVariables false

/-- the marks of formulas of these lengths, from s on -/
def mkf : Int → List Nat → List Fm
  | _, [] => []
  | s, n :: r => (mk s n, s + (n : Int)) :: mkf (s + (n : Int) + 1) r
def mks (ls : List Nat) : Nat := ls.sum + ls.length
theorem mkf_len (s : Int) (ls : List Nat) : (mkf s ls).length = ls.length := by
  induction ls generalizing s with
  | nil => rfl
  | cons n r ih => simp [mkf, ih]
theorem mks_take_succ {ls : List Nat} {k n : Nat} (h : ls[k]? = some n) : mks (ls.take (k + 1)) = mks (ls.take k) + n + 1 := by
  unfold mks
  have hk := (List.getElem?_eq_some_iff.1 h).1
  rw [List.take_add_one, h]
  simp
  omega
theorem mkf_get {ls : List Nat} {k n : Nat} (s : Int) (h : ls[k]? = some n) : (mkf s ls)[k]? = some (mk (s + (mks (ls.take k) : Int)) n, s + (mks (ls.take k) : Int) + (n : Int)) := by
  induction ls generalizing s k with
  | nil => simp at h
  | cons m r ih =>
    cases k with
    | zero => simp at h; subst h; simp [mkf, mks]
    | succ j =>
      have := ih (k := j) (s + (m : Int) + 1) (by simpa using h)
      simp only [mkf, List.getElem?_cons_succ, List.take_succ_cons]
      rw [this]
      have e : s + (m : Int) + 1 + (mks (List.take j r) : Int) = s + (mks (m :: List.take j r) : Int) := by simp [mks]; omega
      rw [e]
theorem mks_take_le (ls : List Nat) (k : Nat) : mks (ls.take k) ≤ mks ls := by
  unfold mks
  have := sum_take_le ls k
  simp
  omega
def flens (fs : List Fm) : List Nat := fs.map fun f => f.1.length
theorem mks_flens (fs : List Fm) : mks (flens fs) = fs.length + szf fs := by simp [mks, flens, szf]; omega

/-- the first k formulas are marked, the others not -/
def half (s : Int) (fs : List Fm) (k : Nat) : List Fm := (mkf s (flens fs)).take k ++ fs.drop k
theorem half_zero (s : Int) (fs : List Fm) : half s fs 0 = fs := by simp [half]
theorem half_all (s : Int) (fs : List Fm) : half s fs fs.length = mkf s (flens fs) := by
  unfold half
  rw [List.drop_length, List.append_nil, List.take_of_length_le (by rw [mkf_len]; simp [flens])]
theorem half_len (s : Int) (fs : List Fm) {k : Nat} (hk : k ≤ fs.length) : (half s fs k).length = fs.length := by
  simp [half, mkf_len, flens]; omega
theorem half_get (s : Int) (fs : List Fm) {k : Nat} (hk : k < fs.length) : (half s fs k)[k]? = fs[k]? := by
  unfold half
  rw [List.getElem?_append_right (by simp [mkf_len, flens]; omega)]
  simp [mkf_len, flens, List.getElem?_drop, Nat.min_eq_left (Nat.le_of_lt hk)]
theorem half_next (s : Int) (fs : List Fm) {k : Nat} {f : Fm} (hf : fs[k]? = some f) :
    half s fs (k + 1) = (half s fs k).set k (mk (s + (mks ((flens fs).take k) : Int)) f.1.length, s + (mks ((flens fs).take k) : Int) + (f.1.length : Int)) := by
  have hk : k < fs.length := (List.getElem?_eq_some_iff.1 hf).1
  have hg : (mkf s (flens fs))[k]? = some (mk (s + (mks ((flens fs).take k) : Int)) f.1.length, s + (mks ((flens fs).take k) : Int) + (f.1.length : Int)) := mkf_get s (by simp [flens, hf])
  have hl : (List.take k (mkf s (flens fs))).length = k := by simp [mkf_len, flens]; omega
  unfold half
  have hd := List.drop_eq_getElem_cons hk
  rw [List.take_add_one, hg, List.set_append_right _ _ (by omega), hl, Nat.sub_self, hd, List.set_cons_zero]
  simp

/-- lists marked: one list's cells turned, and one weight -/
theorem FRow.mark {w w2 : World} {lo hi : Nat} {g cap : Nat} {us : List Value} {gs : List Fm} {n : Nat} {k : Nat} {u : Value} {zs : List Int} {z : Int} (h : FRow w lo hi (.slice (some ⟨g, 0, none⟩) n cap) us gs) (hs : Sep us)
    (hu : us[k]? = some u) (hm : IRow w2 lo hi u zs) (ho : OwnT u w w2) (hk : k < gs.length) :
    FRow (w2.setCell ⟨g, k * 2 + 1, none⟩ (.int .i64 z)) lo hi (.slice (some ⟨g, 0, none⟩) n cap) us (gs.set k (zs, z)) ∧ (∃ x, w2.cell? ⟨g, k * 2 + 1, none⟩ = some x) ∧ (∀ o, w2.frozen? ⟨g, o, none⟩ = false) ∧ lo ≤ g ∧ g < hi ∧ g < w.heap.size := by
  obtain ⟨⟨hl, h0 | ⟨g', cap', cur, hv, hg, hh, hn, hcap, hsz, htake⟩⟩, hlt, hlen, hrow⟩ := h
  · cases h0.1
  injection hv with hv1 hv0 hv2
  injection hv1 with hv1
  injection hv1 with hv1
  subst hv1 hv0 hv2
  have hgs : g < w.heap.size := by
    rcases Nat.lt_or_ge g w.heap.size with h | h
    · exact h
    · rw [Array.getElem?_eq_none h] at hh; cases hh
  obtain ⟨f, hf⟩ : ∃ f, gs[k]? = some f := ⟨_, List.getElem?_eq_getElem hk⟩
  have hne : ∀ (i : Nat) (x : Value) (b : Nat), us[i]? = some x → x.ownBlock = some b → b ≠ g := by
    intro i x b hx hb e
    subst e
    have hi : i < us.length := (List.getElem?_eq_some_iff.1 hx).1
    have hfi : gs[i]? = some gs[i] := List.getElem?_eq_getElem (by omega)
    obtain ⟨⟨_, h | ⟨b', cap2, cur2, rfl, _, hh2, _⟩⟩, _⟩ := hrow i x _ hx hfi
    · rw [h.1] at hb; simp [Value.ownBlock] at hb
    · have e : b' = b := by simpa [Value.ownBlock] using hb
      subst e
      rw [hh] at hh2
      injection hh2 with hh2
      injection hh2 with _ ht
      exact absurd ht (by decide)
  have hh2 : w2.heap[g]? = some (.cells cur 59 (0, 0)) := (ho.block g hgs (fun e => hne k u g hu e rfl)).trans hh
  have hk2 : k * 2 + 1 < cur.size := by omega
  have hother : ∀ q, q ≠ g → (w2.setCell ⟨g, k * 2 + 1, none⟩ (.int .i64 z)).heap[q]? = w2.heap[q]? := fun q hq => Below.heap_setCell _ _ _ _ (fun e => hq (by simpa using e))
  refine ⟨⟨⟨?_, .inr ⟨g, cap, cur.setIfInBounds (k * 2 + 1) (.int .i64 z), by simp, hg, ?_, by simpa using hn, hcap, by simp [hsz], ?_⟩⟩, hlt, by simpa using hlen, ?_⟩, ?_, ?_, hg, hlt g rfl, hgs⟩
  · rw [fcs_len (by simpa using hlen)]
  · simp [World.setCell, Array.getElem?_modify, hh2]
  · rw [Array.toList_setIfInBounds, List.length_set]
    have hset : ∀ (us : List Value) (gs : List Fm) (k : Nat), us.length = gs.length → k < gs.length → fcs us (gs.set k (zs, z)) = (fcs us gs).set (k * 2 + 1) (.int .i64 z) := by
      intro us
      induction us with
      | nil => intro gs k hl hk; cases gs with
        | nil => simp at hk
        | cons _ _ => simp at hl
      | cons u us ih => intro gs k hl hk; cases gs with
        | nil => simp at hk
        | cons f r =>
          cases k with
          | zero => rfl
          | succ j =>
            rw [show (j + 1) * 2 + 1 = j * 2 + 1 + 1 + 1 by omega]
            simp only [List.set_cons_succ, fcs]
            rw [ih r j (by simpa using hl) (by simpa using hk)]
    rw [hset us gs k hlen hk, ← htake, List.take_set]
  · intro i x f' hx hf'
    have hxg := hne i x
    by_cases e : i = k
    · subst e
      rw [hu] at hx
      injection hx with hx
      subst hx
      rw [List.getElem?_set_self hk] at hf'
      injection hf' with hf'
      subst hf'
      obtain ⟨⟨hl1, h | ⟨b', cap2, cur2, rfl, hb2, hh3, hr⟩⟩, hlt3⟩ := hm
      · exact ⟨⟨hl1, .inl h⟩, hlt3⟩
      · exact ⟨⟨hl1, .inr ⟨b', cap2, cur2, rfl, hb2, (hother b' (hxg b' hu rfl)).trans hh3, hr⟩⟩, hlt3⟩
    · rw [List.getElem?_set_ne (fun h => e h.symm)] at hf'
      obtain ⟨⟨hl1, h | ⟨b', cap2, cur2, rfl, hb2, hh3, hr⟩⟩, hlt3⟩ := hrow i x f' hx hf'
      · exact ⟨⟨hl1, .inl h⟩, hlt3⟩
      · have hbs : b' < w.heap.size := by
          rcases Nat.lt_or_ge b' w.heap.size with h | h
          · exact h
          · rw [Array.getElem?_eq_none h] at hh3; cases hh3
        have hnb : u.ownBlock ≠ some b' := by
          intro hub
          rcases Nat.lt_or_gt_of_ne e with h | h
          · exact hs i k _ _ hx hu h b' rfl hub
          · exact hs k i _ _ hu hx h b' hub rfl
        exact ⟨⟨hl1, .inr ⟨b', cap2, cur2, rfl, hb2, (hother b' (hxg b' hx rfl)).trans ((ho.block b' hbs hnb).trans hh3), hr⟩⟩, hlt3⟩
  · exact ⟨cur[k * 2 + 1], by simp [World.cell?, hh2, Array.getElem?_eq_getElem hk2]⟩
  · intro o; simp [World.frozen?, hh2]

/-- the lists are marked, and nothing outside their blocks turned -/
def FMarked (w : World) (lo hi : Nat) (v : Value) (us : List Value) (s : Int) (fs : List Fm) (e : Ending) (w' : World) : Prop :=
  e = .returned (.int .i64 (s + (mks (flens fs) : Int))) ∧ FRow w' lo hi v us (mkf s (flens fs)) ∧ Turned lo hi w w'

theorem OwnT.turned {w w' : World} {lo hi : Nat} {u : Value} {zs : List Int} (h : OwnT u w w') (hu : IRow w lo hi u zs) : Turned lo hi w w' :=
  ⟨h.os, h.tape, h.output, h.size, fun k hk ho => h.block k hk (fun e => by
    obtain ⟨⟨_, h1 | ⟨b', cap2, cur2, rfl, hb2, _⟩⟩, hlt⟩ := hu
    · rw [h1.1] at e; simp [Value.ownBlock] at e
    · have e2 : b' = k := by simpa [Value.ownBlock] using e
      subst e2
      have := hlt b' rfl
      omega)⟩
theorem Turned.trans {lo hi : Nat} {w w1 w2 : World} (h : Turned lo hi w w1) (k : Turned lo hi w1 w2) : Turned lo hi w w2 :=
  ⟨k.os.trans h.os, k.tape.trans h.tape, k.output.trans h.output, Nat.le_trans h.size k.size, fun q hq ho => (k.block q (Nat.lt_of_lt_of_le hq h.size) ho).trans (h.block q hq ho)⟩
theorem Turned.refl (lo hi : Nat) (w : World) : Turned lo hi w w := ⟨rfl, rfl, rfl, Nat.le_refl _, fun _ _ _ => rfl⟩
theorem Turned.setCell {lo hi : Nat} {w w1 : World} (h : Turned lo hi w w1) {g o : Nat} (x : Value) (h1 : lo ≤ g) (h2 : g < hi) : Turned lo hi w (w1.setCell ⟨g, o, none⟩ x) :=
  ⟨h.os, h.tape, h.output, by simpa [World.setCell] using h.size, fun q hq ho => by rw [Below.heap_setCell _ _ _ _ (fun e => by simp at e; omega)]; exact h.block q hq ho⟩

set_option maxHeartbeats 4000000 in
theorem markFormS_any (lo hi : Nat) (v : Value) (us : List Value) (fs : List Fm) (s : Int) (hs : 0 ≤ s) (hs1 : s ≤ 5000000) (hx : fs.length + szf fs ≤ 1048576) (w : World) (h : FRow w lo hi v us fs) (hsep : Sep us) :
    Calls Try.prog 16 #[v, .int .i64 s] w (FMarked w lo hi v us s fs) := by
  obtain ⟨hown, hlt2, hlen, hrow⟩ := id h
  obtain ⟨hl, ⟨rfl, hx0⟩ | ⟨g, cap, cur, rfl, hg, hh, hcap, hmax, hsz, htk⟩⟩ := hown
  · have hx1 : fs = [] := List.eq_nil_of_length_eq_zero hx0
    subst hx1
    have HN : Hid (FMarked w lo hi (.slice none 0 0) us s [] (.returned (.int .i64 s)) w) := ⟨by simp [mks, flens], by simpa [flens, mkf] using h, ⟨rfl, rfl, rfl, Nat.le_refl _, fun _ _ _ => rfl⟩⟩
    clear hl hlt2 h hrow hlen
    go_enter Try.func16, Try.ntmps16
    go_wp2
    go_rounds 1
    go_ret
    exact HN.out
  · unfold maxLen at hmax
    have hf0 : FRow w lo hi (.slice (some ⟨g, 0, none⟩) fs.length cap) us (half s fs 0) := by rw [half_zero]; exact h
    clear hl hlt2 hh hsz htk hrow h
    have H0 := Lib.hid hf0
    clear hf0
    have hm0 := mks_flens fs
    go_enter Try.func16, Try.ntmps16
    go_wp2
    go_loopw [1, 5] (fun m i wr => ∃ k : Nat, k ≤ fs.length ∧ i = .int .i64 k ∧ m = .int .i64 (s + (mks ((flens fs).take k) : Int)) ∧ FRow wr lo hi (.slice (some ⟨g, 0, none⟩) fs.length cap) us (half s fs k) ∧ Turned lo hi w wr) (fun _ i _ => fs.length - (intOf i).toNat)
    case atStart => exact ⟨0, Nat.zero_le _, rfl, by simp [mks], H0.out, Turned.refl _ _ _⟩
    case round =>
      obtain ⟨k, hk, rfl, rfl, hfr, ht⟩ := hrel
      by_cases hlt : k < fs.length
      · obtain ⟨xs, wt, hxk⟩ := fs_get hlt
        obtain ⟨a, c, hav, hA, _, _⟩ := hfr.view
        have hgk : (half s fs k)[k]? = some (xs, wt) := (half_get s fs hlt).trans hxk
        have hhl := half_len s fs (Nat.le_of_lt hlt)
        injection hav with hav hav1 hav2
        subst hav hav2
        clear hav1
        rcases hA with h | ⟨A, off, hAe, hA, hc⟩
        · rw [h] at hgk; simp at hgk
        injection hAe with hAe
        injection hAe with hAe hoff
        subst hAe hoff
        obtain ⟨u, e1, _, e2⟩ := hc k _ hgk
        rw [Nat.zero_add] at e1 e2
        have huk : us[k]? = some u := by
          obtain ⟨⟨_, h0 | ⟨g', cap', cur, hv, _, hh, _, _, hsz, htake⟩⟩, _, hl3, _⟩ := hfr
          · cases h0.1
          · injection hv with hv1 hv0 hv2
            injection hv1 with hv1
            injection hv1 with hv1
            subst hv1
            have hu : us[k]? = some us[k] := List.getElem?_eq_getElem (by omega)
            have h1 := (fcs_get hu hgk).1
            rw [← htake, List.getElem?_take_of_lt (by omega), Array.getElem?_toList] at h1
            simp [World.cell?, hh, h1] at e1
            rw [hu, e1]
        have hur := hfr.row k u _ huk hgk
        have hms := mks_take_succ (ls := flens fs) (k := k) (n := xs.length) (by simp [flens, hxk])
        have hml := mks_take_le (flens fs) (k + 1)
        have hq : (0 : Int) ≤ s + (mks ((flens fs).take k) : Int) ∧ s + (mks ((flens fs).take k) : Int) ≤ 10000000 ∧ xs.length ≤ 10000000 := by omega
        have HM := Lib.hid (fun w' => markIntO_any lo hi u xs (s + (mks ((flens fs).take k) : Int)) hq.1 hq.2.1 hq.2.2 w')
        have hnx := half_next s fs hxk
        simp only at hnx
        have HK : Hid (∀ (w2 : World), IRow w2 lo hi u (mk (s + (mks ((flens fs).take k) : Int)) xs.length) → OwnT u wr w2 →
            (FRow (w2.setCell ⟨g, k * 2 + 1, none⟩ (.int .i64 (s + (mks ((flens fs).take k) : Int) + (xs.length : Int)))) lo hi (.slice (some ⟨g, 0, none⟩) fs.length cap) us (half s fs (k + 1)) ∧ (∃ x, w2.cell? ⟨g, k * 2 + 1, none⟩ = some x) ∧ (∀ o, w2.frozen? ⟨g, o, none⟩ = false) ∧
              Turned lo hi w (w2.setCell ⟨g, k * 2 + 1, none⟩ (.int .i64 (s + (mks ((flens fs).take k) : Int) + (xs.length : Int)))))) := by
          intro w2 hm ho
          obtain ⟨k1, k2, k3, k4, k5, k6⟩ := hfr.mark hsep huk hm ho (z := s + (mks ((flens fs).take k) : Int) + (xs.length : Int)) (by omega)
          rw [hnx]
          exact ⟨k1, k2, k3, (ht.trans (ho.turned hur)).setCell _ k4 k5⟩
        have HU := Lib.hid hur
        have hk0 : (0 : Int) ≤ (k : Int) := by omega
        have hk1 : (k : Int) < (fs.length : Int) := by omega
        have hms2 : s + (mks ((flens fs).take (k + 1)) : Int) = s + (mks ((flens fs).take k) : Int) + (xs.length : Int) + 1 := by omega
        have HS := Lib.hid hms2
        clear hc hfr hur hgk hhl hnx ht H0 hms2
        generalize s + (mks ((flens fs).take k) : Int) = q at *
        go_wp2_with (fail)
        (go_at_call 17; refine (HM.out _ HU.out).mono ?_; rintro e w2 ⟨rfl, hm2, ho2⟩)
        obtain ⟨k1, ⟨x, k2⟩, k3, k4⟩ := HK.out w2 hm2 ho2
        have K1 := Lib.hid k1
        have K4 := Lib.hid k4
        clear k1 k4 hm2 ho2
        go_wp2
        go_roundw
        case rel => exact ⟨k + 1, by omega, by go_num, by rw [HS.out], K1.out, K4.out⟩
        case measure => simp [intOf]; omega
      · have hkn : k = fs.length := by omega
        subst hkn
        have e : (flens fs).take fs.length = flens fs := List.take_of_length_le (by simp [flens])
        rw [half_all] at hfr
        rw [e]
        have HE := Lib.hid (show FMarked w lo hi (.slice (some ⟨g, 0, none⟩) fs.length cap) us s fs (.returned (.int .i64 (s + (mks (flens fs) : Int)))) wr from ⟨rfl, hfr, ht⟩)
        clear H0 hfr
        go_wp2
        go_ret
        exact HE.out

set_option maxHeartbeats 4000000 in
theorem heldFormS_any (lo hi : Nat) (v : Value) (us : List Value) (fs : List Fm) (s : Int) (hs : 0 ≤ s) (hs1 : s ≤ 5000000) (hx : fs.length + szf fs ≤ 1048576) (w : World) (h : FRow w lo hi v us (mkf s (flens fs))) :
    Calls Try.prog 35 #[v, .int .i64 s] w fun e w' => e = .returned (.int .i64 (s + (mks (flens fs) : Int))) ∧ w = w' := by
  obtain ⟨a, c, rfl, ha, hc1, hc2⟩ := h.view
  have hfl : (mkf s (flens fs)).length = fs.length := by rw [mkf_len]; simp [flens]
  rw [hfl] at h hc1 ⊢
  unfold maxLen at hc2
  have hm0 := mks_flens fs
  have HH := Lib.hid h
  have HA := Lib.hid ha
  clear h ha
  go_enter Try.func35, Try.ntmps35
  go_wp2
  go_loop [1, 5] (fun m i => ∃ k : Nat, k ≤ fs.length ∧ i = .int .i64 k ∧ m = .int .i64 (s + (mks ((flens fs).take k) : Int))) (fun _ i => fs.length - (intOf i).toNat)
  case atStart => exact ⟨0, Nat.zero_le _, rfl, by simp [mks]⟩
  case round =>
    obtain ⟨k, hk, rfl, rfl⟩ := hrel
    by_cases hlt : k < fs.length
    · obtain ⟨xs, wt, hxk⟩ := fs_get hlt
      have hgk := mkf_get s (ls := flens fs) (k := k) (n := xs.length) (by simp [flens, hxk])
      rcases HA.out with h | ⟨A, off, rfl, hA, hc⟩
      · rw [h] at hgk; simp at hgk
      obtain ⟨u, e1, _, e2⟩ := hc k _ hgk
      have hoff : off = 0 ∧ us[k]? = some u := by
        obtain ⟨⟨_, h0 | ⟨g', cap', cur, hv, _, hh, hn2, _, hsz, htake⟩⟩, _, hl3, _⟩ := HH.out
        · cases h0.1
        · injection hv with hv1 hv0 hv2
          injection hv1 with hv1
          injection hv1 with hv1 hv3
          subst hv1 hv3
          have hu : us[k]? = some us[k] := List.getElem?_eq_getElem (by omega)
          have h1 := (fcs_get hu hgk).1
          rw [← htake, List.getElem?_take_of_lt (by omega), Array.getElem?_toList] at h1
          simp [World.cell?, hh, h1] at e1
          exact ⟨rfl, by rw [hu, e1]⟩
      obtain ⟨rfl, huk⟩ := hoff
      rw [Nat.zero_add] at e1 e2
      have hur := HH.out.row k u _ huk hgk
      have hms := mks_take_succ (ls := flens fs) (k := k) (n := xs.length) (by simp [flens, hxk])
      have hml := mks_take_le (flens fs) (k + 1)
      have hq : (0 : Int) ≤ s + (mks ((flens fs).take k) : Int) ∧ s + (mks ((flens fs).take k) : Int) ≤ 10000000 ∧ xs.length ≤ 10000000 := by omega
      have HM := Lib.hid (heldIntO_any lo hi u (s + (mks ((flens fs).take k) : Int)) xs.length hq.1 hq.2.1 hq.2.2 w hur)
      have hk0 : (0 : Int) ≤ (k : Int) := by omega
      have hk1 : (k : Int) < (fs.length : Int) := by omega
      have hms2 : s + (mks ((flens fs).take (k + 1)) : Int) = s + (mks ((flens fs).take k) : Int) + (xs.length : Int) + 1 := by omega
      have HS := Lib.hid hms2
      clear hc hur hgk hms2 hms
      generalize s + (mks ((flens fs).take k) : Int) = q at *
      have hq2 : decide (q + (xs.length : Int) < 0) = false := by simp; omega
      go_wp2_with (fail)
      (go_at_call 18; refine HM.out.mono ?_; rintro e wx ⟨rfl, rfl⟩)
      go_wp2
      go_round
      case rel => exact ⟨k + 1, by omega, by go_num, by rw [HS.out]⟩
      case measure => simp [intOf]; omega
    · have hkn : k = fs.length := by omega
      subst hkn
      have e : (flens fs).take fs.length = flens fs := List.take_of_length_le (by simp [flens])
      rw [e]
      go_wp2
      go_ret
      exact ⟨rfl, rfl⟩
end Go.Proofs.Ytjhigjbfnemdjaa
