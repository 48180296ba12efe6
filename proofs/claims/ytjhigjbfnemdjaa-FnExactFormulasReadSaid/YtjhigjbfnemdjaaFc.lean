/-
  The formulas of a reading, and their weight, in both programs.
-/
import Derived.Test.YtjhigjbfnemdjaaFx
import Derived.Test.YtjhigjbfnemdjaaFt
import Derived.Test.YtjhigjbfnemdjaaIb
namespace Go.Proofs.Ytjhigjbfnemdjaa
open Go.RowKit
set_option maxRecDepth 100000
set_option linter.unusedVariables false

theorem newsF {w : World} {a : Option Addr} {n c : Nat} {z : Int} {t : TypeId} : ∀ j u, ([.slice a n c, .int .i64 z] : List Value)[j]? = some u → (w.alloc (.cells #[.slice a n c, .int .i64 z] t)).cell? ((⟨w.heap.size, 0, none⟩ : Addr).add j) = some u := by
  intro j u hj
  match j, hj with
  | 0, hj => simp at hj; subst hj; simp [Addr.add]
  | 1, hj => simp at hj; subst hj; simp [Addr.add]
theorem newsF_one {a : Option Addr} {n c : Nat} {z : Int} : ∀ u ∈ ([.slice a n c, .int .i64 z] : List Value), u.oneCell' = true := by
  intro u hu
  simp at hu
  rcases hu with rfl | rfl <;> rfl

/-- a list of formulas that a call has built: their lists lie where they lay in w -/
structure FcInv (w wr : World) (v : Value) (us : List Value) (gs : List Fm) : Prop where
  own : wr.ownsRow w.heap.size 59 2 v gs.length (fcs us gs)
  len : us.length = gs.length
  row : ∀ (i : Nat) (u : Value) (f : Fm), us[i]? = some u → gs[i]? = some f → IV w u f.1
  bl : Below w.heap.size w wr
theorem FcInv.start {w w1 : World} (hb : Below w.heap.size w w1) : FcInv w (w1.alloc (.cells #[] 59)) (.slice (some ⟨w1.heap.size, 0, none⟩) 0 0) [] [] :=
  ⟨⟨rfl, .inr ⟨w1.heap.size, 0, #[], rfl, hb.size, heap_alloc_new w1 _, by simp, by simp [maxLen], by simp, by simp [fcs]⟩⟩, rfl, fun i u f hu => by simp at hu, hb.alloc hb.size _⟩
theorem FcInv.app {w w1 w2 : World} {v v' : Value} {us : List Value} {gs : List Fm} {u : Value} {xs : List Int} {z : Int} {o : Obj} (h : FcInv w w1 v us gs) (hu : IV w u xs)
    (hown : w2.ownsRow w.heap.size 59 2 v' (gs.length + 1) (fcs us gs ++ [u, .int .i64 z])) (hg : (w1.alloc o).grownBy w2 v.ownBlock) : FcInv w w2 v' (us ++ [u]) (gs ++ [(xs, z)]) := by
  refine ⟨by rw [fcs_app h.len, List.length_append]; exact hown, by simp [h.len], fun i x f hx hf => ?_, (h.bl.alloc h.bl.size o).grown hg (by have := h.bl.size; simp; omega) (fun k hk => (own_ltb h.own hk).1)⟩
  have hl := h.len
  rcases Nat.lt_trichotomy i us.length with hi | hi | hi
  · rw [List.getElem?_append_left hi] at hx
    rw [List.getElem?_append_left (by omega)] at hf
    exact h.row i x f hx hf
  · rw [List.getElem?_append_right (by omega)] at hx hf
    rw [show i - us.length = 0 by omega] at hx
    rw [show i - gs.length = 0 by omega] at hf
    simp at hx hf
    subst hx hf
    exact hu
  · rw [List.getElem?_append_right (by omega)] at hx
    have : ([u] : List Value)[i - us.length]? = none := List.getElem?_eq_none (by simp; omega)
    rw [this] at hx; cases hx
theorem FV.of_own {w : World} {base : Nat} {v : Value} {us : List Value} {gs : List Fm} (h : w.ownsRow base 59 2 v gs.length (fcs us gs)) (hlen : us.length = gs.length)
    (hrow : ∀ (i : Nat) (u : Value) (f : Fm), us[i]? = some u → gs[i]? = some f → IV w u f.1) : FV w v gs := by
  obtain ⟨hl, h0 | ⟨g, cap, cur, rfl, hg, hh, hn, hcap, hsz, htake⟩⟩ := h
  · obtain ⟨rfl, h1⟩ := h0
    have h2 : gs = [] := List.eq_nil_of_length_eq_zero h1
    subst h2
    exact ⟨none, 0, rfl, .inl rfl, Nat.le_refl _, Nat.zero_le _⟩
  · have hgs : g < w.heap.size := by
      rcases Nat.lt_or_ge g w.heap.size with h | h
      · exact h
      · rw [Array.getElem?_eq_none h] at hh; cases hh
    refine ⟨_, cap, rfl, .inr ⟨g, 0, rfl, hgs, fun i f hf => ?_⟩, hn, hcap⟩
    have hi : i < gs.length := (List.getElem?_eq_some_iff.1 hf).1
    have hu : us[i]? = some us[i] := List.getElem?_eq_getElem (by omega)
    obtain ⟨h0, h1⟩ := fcs_get hu hf
    rw [← htake, List.getElem?_take_of_lt (by omega), Array.getElem?_toList] at h0 h1
    exact ⟨us[i], by simp [World.cell?, hh, h0], hrow i _ f hu hf, by simp [World.cell?, hh, h1]⟩
theorem FcInv.view {w wr : World} {v : Value} {us : List Value} {gs : List Fm} (h : FcInv w wr v us gs) : FV wr v gs :=
  FV.of_own h.own h.len fun i u f hu hf => (h.row i u f hu hf).below h.bl

/-- are the list formulas, and is there one with each index? -/
def chok (fs : List Fm) (rd : List Int) : Bool := fv fs && rok fs.length rd
theorem chok_1 {fs : List Fm} {rd : List Int} (h : fv fs = false) : chok fs rd = false := by unfold chok; rw [h]; rfl
theorem chok_2 {fs : List Fm} {rd : List Int} (h : rok fs.length rd = false) : chok fs rd = false := by unfold chok; rw [h, Bool.and_false]
theorem chok_3 {fs : List Fm} {rd : List Int} (h : fv fs = true) (k : rok fs.length (rd.take rd.length) = true) : chok fs rd = true := by
  rw [List.take_length] at k; unfold chok; rw [h, k]; rfl
def Chosen (fs : List Fm) (rd : List Int) (w : World) (e : Ending) (w' : World) : Prop :=
  ((chok fs rd = true ∧ ∃ x, e = .returned (.tuple #[x, .bool true]) ∧ FV w' x (chs fs rd)) ∨ (chok fs rd = false ∧ e = .returned (.tuple #[.slice none 0 0, .bool false]))) ∧ Below w.heap.size w w'

set_option maxHeartbeats 4000000 in
theorem chosen_any (v u : Value) (fs : List Fm) (rd : List Int) (hrd : rd.length ≤ 1048576) (w : World) (h : FV w v fs) (k : IV w u rd) :
    Calls Try.prog 77 #[v, u] w (Chosen fs rd w) := by
  obtain ⟨i0, hi, hq0, hq1, hq2⟩ := info_parts infoForm
  have HV := Lib.hid (formulasValid_any v fs w h)
  obtain ⟨a, c, rfl, ha, hc1, hc2⟩ := h
  obtain ⟨a', c', rfl, ha', hc1', hc2'⟩ := k
  unfold maxLen at hc2 hc2'
  have HA := Lib.hid ha
  have HA' := Lib.hid ha'
  clear ha ha'
  by_cases hv : fv fs = true
  case neg =>
    rw [Bool.not_eq_true] at hv
    rw [hv] at HV
    have HN : Hid (∀ w1, Below w.heap.size w w1 → Chosen fs rd w (.returned (.tuple #[.slice none 0 0, .bool false])) w1) := fun w1 hb => ⟨.inr ⟨chok_1 hv, rfl⟩, hb⟩
    clear hv
    go_enter Try.func77, Try.ntmps77
    go_wp2_with (fail)
    (go_at_call 50; refine HV.out.mono ?_; rintro e w1 ⟨rfl, hb1⟩)
    go_wp2
    go_ret2
    exact HN.out _ hb1
  rw [hv] at HV
  have HVV := Lib.hid hv
  clear hv
  go_enter Try.func77, Try.ntmps77
  go_wp2_with (fail)
  (go_at_call 50; refine HV.out.mono ?_; rintro e w1 ⟨rfl, hb1⟩)
  have h0 := Lib.hid (FcInv.start hb1)
  go_wp2
  go_loopw [6, 15] (fun x i wr => ∃ (k : Nat) (us : List Value), k ≤ rd.length ∧ i = .int .i64 k ∧ rok fs.length (rd.take k) = true ∧ FcInv w wr x us (chs fs (rd.take k))) (fun _ i _ => rd.length - (intOf i).toNat)
  case atStart => exact ⟨0, [], Nat.zero_le _, rfl, rfl, by simpa [chs] using h0.out⟩
  case round =>
    obtain ⟨k, us, hk, rfl, hq, hinv⟩ := hrel
    have HQ := Lib.hid hq
    have HI := Lib.hid hinv
    have hb := hinv.bl
    clear hq hinv
    by_cases hlt : k < rd.length
    · rcases HA'.out with h | ⟨A', off', rfl, hA', hc'⟩
      · subst h; simp at hlt
      have e0 := (hb.cell (p := ⟨A', off' + k, none⟩) hA').trans (hc' k hlt)
      have hk0 : (0 : Int) ≤ (k : Int) := by omega
      have hk1 : (k : Int) < (rd.length : Int) := by omega
      clear hc'
      by_cases hix : idx fs.length (rd.getD k 0) = true
      · obtain ⟨j, hj, hjn⟩ := idx_yes hix
        have hR := rok_take hlt HQ.out hix
        obtain ⟨xs, wt, hx⟩ := fs_get hjn
        have hC := chs_take (fs := fs) hlt hj hx
        rcases HA.out with h | ⟨A, off, rfl, hA, hc⟩
        · subst h; simp at hjn
        obtain ⟨p, e1, hu, e2⟩ := hc j _ hx
        have e1 := (hb.cell (p := ⟨A, off + j * 2, none⟩) hA).trans e1
        have e2 := (hb.cell (p := ⟨A, off + j * 2 + 1, none⟩) hA).trans e2
        have HU := Lib.hid hu
        obtain ⟨pa, pc, rfl, _, _, _⟩ := hu
        rw [hj] at e0
        have hj0 : (0 : Int) ≤ (j : Int) := by omega
        have hj1 : (j : Int) < (fs.length : Int) := by omega
        have HR := Lib.hid hR
        have hcl : (chs fs (rd.take k)).length = k := by rw [chs_len]; simp; omega
        have HC := Lib.hid hC
        have hown := HI.out.own
        rw [hcl] at hown
        have HCL := Lib.hid hcl
        clear hc hix hj hC hR hx hcl
        go_wp2_with (at_builtin; refine wpList_append_own _ rfl _ _ 26 rfl w.heap.size 59 i0 (.agg #[.slice none 0 0, .int .i64 0]) 2 32 Try.underlying26 hi hq0 hq1 hq2 rfl (by decide) _ _ _ rfl (hown.alloc _) ⟨wr.heap.size, 0, none⟩ 1 1 [.slice pa xs.length pc, .int .i64 wt] rfl rfl newsF newsF_one (by unfold maxLen; omega) (by omega) (by have := hb.size; simp; omega) ?_)
        intro v' w4 hown' hgrow _
        have HX := Lib.hid (HI.out.app HU.out (by rw [HCL.out]; exact hown') hgrow)
        clear hown hown' hgrow
        go_wp2
        go_roundw
        case rel => exact ⟨k + 1, _, by omega, by go_num, HR.out, by rw [HC.out]; exact HX.out⟩
        case measure => simp [intOf]; omega
      · rw [Bool.not_eq_true] at hix
        have HN : Hid (∀ w1, Below w.heap.size w w1 → Chosen fs rd w (.returned (.tuple #[.slice none 0 0, .bool false])) w1) := fun w1 hb => ⟨.inr ⟨chok_2 (rok_bad hlt hix), rfl⟩, hb⟩
        have hd := idx_no hix
        clear hix
        generalize rd.getD k 0 = d at e0 hd
        by_cases hd1 : d < 0
        · clear hd
          go_wp2
          go_ret2
          exact HN.out _ hb
        · have hd2 : (fs.length : Int) ≤ d := by omega
          clear hd
          go_wp2
          go_ret2
          exact HN.out _ hb
    · have hkn : k = rd.length := by omega
      subst hkn
      have HN : Hid (∀ x, FV wr x (chs fs rd) → Chosen fs rd w (.returned (.tuple #[x, .bool true])) wr) := fun x hx => ⟨.inl ⟨chok_3 HVV.out HQ.out, _, rfl, hx⟩, hb⟩
      have hvw := HI.out.view
      rw [List.take_length] at hvw
      have HVW := Lib.hid hvw
      clear hvw
      go_wp2
      go_ret2
      exact HN.out _ HVW.out

theorem chosen_yes (v u : Value) (fs : List Fm) (rd : List Int) (hrd : rd.length ≤ 1048576) (hk : chok fs rd = true) (w : World) (h : FV w v fs) (k : IV w u rd) :
    Calls Try.prog 77 #[v, u] w fun e w' => ∃ x, e = .returned (.tuple #[x, .bool true]) ∧ FV w' x (chs fs rd) ∧ Below w.heap.size w w' :=
  (chosen_any v u fs rd hrd w h k).mono fun e w' hc => by
    obtain ⟨⟨_, x, he, hv⟩ | ⟨h1, _⟩, hb⟩ := hc
    · exact ⟨x, he, hv, hb⟩
    · rw [hk] at h1; cases h1
theorem chosen_no (v u : Value) (fs : List Fm) (rd : List Int) (hrd : rd.length ≤ 1048576) (hk : chok fs rd = false) (w : World) (h : FV w v fs) (k : IV w u rd) :
    Calls Try.prog 77 #[v, u] w fun e w' => e = .returned (.tuple #[.slice none 0 0, .bool false]) ∧ Below w.heap.size w w' :=
  (chosen_any v u fs rd hrd w h k).mono fun e w' hc => by
    obtain ⟨⟨h1, _⟩ | ⟨_, he⟩, hb⟩ := hc
    · rw [hk] at h1; cases h1
    · exact ⟨he, hb⟩

theorem wts_take {gs : List Fm} {k : Nat} {f : Fm} (h : gs[k]? = some f) : wts (gs.take (k + 1)) = wts (gs.take k) + f.2 := by
  rw [List.take_add_one, h]; exact wts_snoc _ _
theorem lns_take {gs : List Fm} {k : Nat} {f : Fm} (h : gs[k]? = some f) : lns (gs.take (k + 1)) = lns (gs.take k) ++ f.1 := by
  rw [List.take_add_one, h]; exact lns_snoc _ _
theorem chok_parts {fs : List Fm} {rd : List Int} (h : chok fs rd = true) : fv fs = true ∧ rok fs.length rd = true := by
  unfold chok at h; rwa [Bool.and_eq_true] at h
theorem chok_fo {fs : List Fm} {rd : List Int} (h : chok fs rd = true) : ∀ f ∈ chs fs rd, fo f = true := chs_fo (chok_parts h).1 (chok_parts h).2
theorem fwt_yes {fs : List Fm} {rd : List Int} (h : chok fs rd = true) : fwt fs rd = wts (chs fs rd) := by unfold fwt; rw [if_pos (chok_parts h)]
theorem fwt_no {fs : List Fm} {rd : List Int} (h : chok fs rd = false) : fwt fs rd = -1 := by
  unfold fwt
  rw [if_neg (fun hk => by unfold chok at h; rw [hk.1, hk.2] at h; cases h)]

theorem idx_l6 {n : Nat} {d : Int} : (decide (0 ≤ d) && decide (d ≤ (n : Int) - 1)) = idx n d := by
  unfold idx
  congr 1
  by_cases h : d < (n : Int)
  · rw [decide_eq_true h, decide_eq_true (by omega)]
  · rw [decide_eq_false h, decide_eq_false (by omega)]
end Go.Proofs.Ytjhigjbfnemdjaa
