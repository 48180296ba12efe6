/-
  GroupsCut in the model: the tones of a group.
-/
import Derived.Test.YtkjimilapgkajabDoorGc
namespace Go.Proofs.YtkjimilapgkajabDoor
open Go.RowKit
set_option maxRecDepth 100000
set_option linter.unusedVariables false

set_option maxHeartbeats 2000000 in
theorem l3Begin_any (lo hi k : Nat) (u : Value) (gs : List (Int × Bool)) (hk : k ≤ gs.length) (hg24 : gs.length ≤ 24) (ha : gs.all gok = true) (w : World) (g : GRw w lo hi u gs) :
    Calls Tryd.prog 90 #[u, .int .i64 (k : Int)] w fun e w' => e = .returned (.int .i64 (gsz (gs.take k) : Nat)) ∧ w = w' := by
  have hall : ∀ j, ((gs.take j).all gok) = true := fun j => List.all_eq_true.2 fun x hx => List.all_eq_true.1 ha x (List.mem_of_mem_take hx)
  have HB : Hid (∀ j, gsz (gs.take j) ≤ 96) := fun j => by
    have := (gall_len (hall j)).2
    have hl : (gs.take j).length ≤ 24 := by rw [List.length_take]; omega
    omega
  have HG : Hid (∀ j (h : j < gs.length), 0 ≤ (gs[j]).1 ∧ (gs[j]).1 ≤ 4 ∧ gsz (gs.take (j + 1)) = gsz (gs.take j) + (gs[j]).1.toNat) := fun j h => by
    have := gok_in (List.all_eq_true.1 ha _ (List.getElem_mem h))
    exact ⟨by omega, by omega, gsz_snoc (List.getElem?_eq_getElem h)⟩
  have h0 : gsz (gs.take 0) = 0 := by simp [gsz]
  clear hall ha
  rcases g.form with ⟨rfl, rfl⟩ | ⟨b, bo, cap, rfl, _, _, hbs, hcap, hmax, hc⟩
  · have hk0 : k = 0 := by simpa using hk
    subst hk0
    clear g HG
    go_enter Tryd.func90, Tryd.ntmps90
    go_wp2
    go_rounds 1
    go_ret
    exact ⟨by rw [h0]; rfl, rfl⟩
  have HC := Lib.hid hc
  clear hc g
  go_enter Tryd.func90, Tryd.ntmps90
  go_wp2
  go_loopw [5, 6] (fun q i wr => ∃ j : Nat, j ≤ k ∧ i = .int .i64 j ∧ q = .int .i64 (gsz (gs.take j) : Nat) ∧ w = wr) (fun _ i _ => k - (intOf i).toNat)
  case atStart => exact ⟨0, Nat.zero_le _, rfl, by rw [h0]; rfl, rfl⟩
  case round =>
    obtain ⟨j, hj, rfl, rfl, rfl⟩ := hrel
    by_cases hlt : j < k
    · have hjl : j < gs.length := by omega
      have e1 := (HC.out j _ (List.getElem?_eq_getElem hjl)).1
      obtain ⟨p0, p1, p2⟩ := HG.out j hjl
      have hB := HB.out j
      have j0 : (0 : Int) ≤ (j : Int) := by omega
      have j1 : (j : Int) < (k : Int) := by omega
      have j2 : (j : Int) < (gs.length : Int) := by omega
      generalize (gs[j]).1 = z at e1 p0 p1 p2
      generalize gsz (gs.take j) = x at p2 hB
      have HX : Hid (((gsz (gs.take (j + 1)) : Nat) : Int) = (x : Int) + z) := by show ((gsz (gs.take (j + 1)) : Nat) : Int) = _; omega
      have s1 : IntKind.i64.wrap ((x : Int) + z) = (x : Int) + z := IntWalk.i64_in _ (by omega)
      clear p2
      go_wp2
      go_roundw
      case rel => exact ⟨j + 1, by omega, by go_num, by rw [HX.out], by first | rfl | trivial⟩
      case measure => simp [intOf]; omega
    · have hje : j = k := by omega
      subst hje
      go_wp2
      go_ret
      exact ⟨rfl, rfl⟩

theorem tslice_lh (a : Option Addr) (L cap p q : Nat) (h : p ≤ q) (hq : q ≤ cap) (hp : ¬ cap = p) (W : World) : (Instr.slice 23 (.slice a L cap) (some (.int .i64 (p : Int))) (some (.int .i64 (q : Int))) none).run Tryd.prog W = .ok (.slice (a.map (·.add (p * 2))) (q - p) (cap - p)) W := by
  rw [run_slice_lh W _ a L cap elemTones .i64 .i64 _ _ (by omega) (by omega) (by omega), sizeTones]
  simp [Result.andThen, sliced, hp]
theorem tcs_cells {w : World} {A : Nat} {ys : List (Int × Bool)} : ∀ {off : Nat}, (∀ i t, ys[i]? = some t → w.cell? ⟨A, off + i * 2, none⟩ = some (.int .i64 t.1) ∧ w.cell? ⟨A, off + i * 2 + 1, none⟩ = some (.bool t.2)) →
    ∀ j z, (tcs ys)[j]? = some z → w.cell? ((⟨A, off, none⟩ : Addr).add j) = some z := by
  induction ys with
  | nil => intro off _ j z hz; simp [tcs] at hz
  | cons t r ih =>
    intro off hc j z hz
    match j, hz with
    | 0, hz =>
      have e := (hc 0 t rfl).1
      have hz1 : z = .int .i64 t.1 := by simpa [tcs] using hz.symm
      subst hz1
      rw [Go.WideShapes.add_plain]
      simpa using e
    | 1, hz =>
      have e := (hc 0 t rfl).2
      have hz1 : z = .bool t.2 := by simpa [tcs] using hz.symm
      subst hz1
      rw [Go.WideShapes.add_plain]
      simpa using e
    | j + 2, hz =>
      have e := ih (off := off + 2) (fun i t' ht => by
        have := hc (i + 1) t' (by simpa using ht)
        rw [show off + (i + 1) * 2 = off + 2 + i * 2 by omega] at this
        exact this) j z (by simpa [tcs] using hz)
      rw [Go.WideShapes.add_plain] at e ⊢
      rw [show off + (j + 2) = off + 2 + j by omega]
      exact e

set_option maxHeartbeats 8000000 in
theorem sGroupsCut_any (lo hi lo' hi' : Nat) (v u : Value) (xs gs : List (Int × Bool)) (k : Int) (hgl : gs.length ≤ 4611686018427387904) (w : World) (h : TRow w lo hi v xs) (g : GRw w lo' hi' u gs) :
    Calls Tryd.prog 43 #[v, u, .int .i64 k] w (TBuilt2 w (gcL xs gs k) (gcB xs gs k)) := by
  obtain ⟨ua, uc, hu⟩ : ∃ a c, u = .slice a gs.length c := by
    rcases g.form with ⟨rfl, rfl⟩ | ⟨b, bo, cap, rfl, _⟩
    · exact ⟨none, 0, rfl⟩
    · exact ⟨_, _, rfl⟩
  have HH := Lib.hid h
  have HK := Lib.hid g
  by_cases hv : gv xs gs = false
  · rw [(gc_no1 hv).1, (gc_no1 hv).2]
    have HE := Lib.hid (fun w1 hb => empty_built4 (w := w) (w1 := w1) (ok := false) hb)
    subst hu
    clear h g
    go_enter Tryd.func43, Tryd.ntmps43
    go_wp2_with (fail)
    (go_at_call 89; refine (sGroupsValid_any lo hi lo' hi' _ _ xs gs _ HH.out HK.out hgl).mono ?_; rintro e w1 ⟨rfl, hb1⟩)
    rw [hv]
    go_wp2
    go_ret2
    exact HE.out _ hb1
  rw [Bool.not_eq_false] at hv
  have hg24 := (gv_len hv).1
  have hx24 := (gv_len hv).2
  have hsw : IntKind.i64.wrap ((gs.length : Int) - 1) = (gs.length : Int) - 1 := IntWalk.i64_in _ (by omega)
  by_cases hk : k < 0 ∨ (gs.length : Int) ≤ k
  · rw [(gc_no2 hk).1, (gc_no2 hk).2]
    have HE := Lib.hid (fun w1 hb => empty_built4 (w := w) (w1 := w1) (ok := false) hb)
    have HF : Hid (k < 0 ∨ (gs.length : Int) - 1 < k) := by show k < 0 ∨ _; omega
    subst hu
    clear h g hk
    go_enter Tryd.func43, Tryd.ntmps43
    go_wp2_with (fail)
    (go_at_call 89; refine (sGroupsValid_any lo hi lo' hi' _ _ xs gs _ HH.out HK.out hgl).mono ?_; rintro e w1 ⟨rfl, hb1⟩)
    rw [hv]
    go_wp2_with (fail)
    (go_at_call 94; refine (in_no k 0 ((gs.length : Int) - 1) HF.out _).mono ?_; rintro e wx ⟨rfl, rfl⟩)
    go_wp2
    go_ret2
    exact HE.out _ hb1
  obtain ⟨j, rfl⟩ : ∃ j : Nat, k = j := ⟨k.toNat, by omega⟩
  have hj : j < gs.length := by omega
  obtain ⟨hmv, hall, hsz⟩ := gv_in hv
  rw [(gc_yes hv hj).1, (gc_yes hv hj).2]
  obtain ⟨i0, hi0, hq0, hq1, hq2⟩ := info_parts infoTone
  obtain ⟨p0, p1⟩ := gok_in (List.all_eq_true.1 hall _ (List.getElem_mem hj))
  have hsn := gsz_snoc (List.getElem?_eq_getElem hj)
  have hsp := gsz_split gs (j + 1)
  obtain ⟨Q, hQ⟩ : ∃ Q, Q = gsz (gs.take j) := ⟨_, rfl⟩
  obtain ⟨z, hz⟩ : ∃ z : Nat, (gs[j]).1 = z := ⟨(gs[j]).1.toNat, by omega⟩
  have hQz : Q + z ≤ xs.length := by rw [hz] at hsn; simp at hsn; omega
  have hpr : prt xs gs j = (xs.drop Q).take z := by
    unfold prt
    rw [← hQ, List.getD_eq_getElem?_getD, List.getElem?_eq_getElem hj]
    show (xs.drop Q).take (gs[j]).1.toNat = _
    rw [hz]; rfl
  have hpl : (prt xs gs j).length = z := by rw [hpr, List.length_take, List.length_drop]; omega
  rw [hz] at p0 p1
  rcases g.form with ⟨_, rfl⟩ | ⟨b, bo, gcap, rfl, _, _, hbs, hgc, hgm, hgc'⟩
  · simp at hj
  rcases h.form with ⟨_, rfl⟩ | ⟨B, cap, rfl, _, _, hBs, hcap, hmax, hc⟩
  · simp at hQz; omega
  unfold maxLen at hmax hgm
  have hgz := (hgc' j _ (List.getElem?_eq_getElem hj)).1
  rw [hz] at hgz
  have HCE : Hid (∀ i t, (prt xs gs j)[i]? = some t → w.cell? ⟨B, Q * 2 + i * 2, none⟩ = some (.int .i64 t.1) ∧ w.cell? ⟨B, Q * 2 + i * 2 + 1, none⟩ = some (.bool t.2)) := by
    intro i t ht
    rw [hpr, List.getElem?_take] at ht
    split at ht
    · rw [List.getElem?_drop] at ht
      have := hc (Q + i) t ht
      rw [show Q * 2 + i * 2 = (Q + i) * 2 by omega]
      exact this
    · cases ht
  have HLB := Lib.hid (fun W (hW : GRw W lo' hi' (.slice (some ⟨b, bo, none⟩) gs.length gcap) gs) => l3Begin_any lo' hi' j _ gs (by omega) hg24 hall W hW)
  rw [← hQ] at HLB
  have HPL := Lib.hid hpl
  generalize prt xs gs j = ps at HCE HPL ⊢
  have j0 : (0 : Int) ≤ (j : Int) := by omega
  have j1 : (j : Int) < (gs.length : Int) := by omega
  have j2 : (j : Int) ≤ (gs.length : Int) - 1 := by omega
  have m1 : IntKind.i64.wrap ((Q : Int) + (z : Int)) = ((Q + z : Nat) : Int) := by rw [show (Q : Int) + (z : Int) = ((Q + z : Nat) : Int) by omega]; exact IntWalk.i64_in _ (by omega)
  have hsl := tslice_lh (some ⟨B, 0, none⟩) xs.length cap Q (Q + z) (by omega) (by omega) (by omega)
  rw [show Q + z - Q = z by omega] at hsl
  simp only [Option.map_some, Go.WideShapes.add_plain, Nat.zero_add] at hsl
  clear h g hc hgc' hpr hpl hsn hsp hz hQ hall hsz hmv hk
  go_enter Tryd.func43, Tryd.ntmps43
  go_wp2_with (fail)
  (go_at_call 89; refine (sGroupsValid_any lo hi lo' hi' _ _ xs gs _ HH.out HK.out hgl).mono ?_; rintro e w1 ⟨rfl, hb1⟩)
  rw [hv]
  go_wp2_with (fail)
  (go_at_call 94; refine (in_yes (j : Int) 0 ((gs.length : Int) - 1) j0 j2 _).mono ?_; rintro e wx ⟨rfl, rfl⟩)
  go_wp2_with (fail)
  (go_at_call 90; refine (HLB.out _ (HK.out.below hb1 (.inr (Nat.le_refl _)))).mono ?_; rintro e wx ⟨rfl, rfl⟩)
  have ez := (hb1.cell (p := ⟨b, bo + j * 2, none⟩) hbs).trans hgz
  have hBw1 : B < w1.heap.size := Nat.lt_of_lt_of_le hBs hb1.size
  have hbw1 : b < w1.heap.size := Nat.lt_of_lt_of_le hbs hb1.size
  have HCW : Hid (∀ j z, (tcs ps)[j]? = some z → (w1.alloc (.cells #[] 50)).cell? ((⟨B, Q * 2, none⟩ : Addr).add j) = some z) := by
    have hb2 : Below w.heap.size w (w1.alloc (.cells #[] 50)) := hb1.alloc hb1.size _
    exact tcs_cells (fun i t ht => ⟨(hb2.cell (p := ⟨B, Q * 2 + i * 2, none⟩) hBs).trans (HCE.out i t ht).1, (hb2.cell (p := ⟨B, Q * 2 + i * 2 + 1, none⟩) hBs).trans (HCE.out i t ht).2⟩)
  have hown0 : (w1.alloc (.cells #[] 50)).ownsRow w.heap.size 50 2 (.slice (some ⟨w1.heap.size, 0, none⟩) 0 0) 0 [] := ⟨rfl, .inr ⟨w1.heap.size, 0, #[], rfl, hb1.size, heap_alloc_new w1 _, by simp, by simp [maxLen], by simp, by simp⟩⟩
  have hz1 : w.heap.size ≤ (w1.alloc (.cells #[] 50)).heap.size := (hb1.alloc hb1.size _).size
  go_wp2_with (at_builtin; refine wpList_append_own _ rfl _ _ 23 rfl w.heap.size 50 i0 (.agg #[.int .i64 0, .bool false]) 2 16 Tryd.underlying23 hi0 hq0 hq1 hq2 rfl (by decide) _ 0 [] rfl hown0 ⟨B, Q * 2, none⟩ (Q + z - Q) (cap - Q) (tcs ps) rfl (by rw [tcs_len, HPL.out]; omega) HCW.out (tcs_one ps) (by unfold maxLen; omega) (by omega) hz1 ?_)
  intro v' w3 hown' hgrow _
  have hown2 : w3.ownsRow w.heap.size 50 2 v' z (tcs ps) := by
    have e1 : Q + z - Q = z := by omega
    have hh := hown'
    (try rw [e1] at hh)
    (try rw [Nat.zero_add] at hh)
    (try rw [List.nil_append] at hh)
    exact hh
  have HE : Hid (TBuilt2 w ps true (.returned (.tuple #[v', .bool true])) w3) := by
    refine ⟨v', rfl, ⟨?_, fun q hq => ?_⟩, (hb1.alloc hb1.size _).grown hgrow hz1 (fun k hk => (hown0.lt k hk).1)⟩
    · rw [HPL.out]; exact hown2
    · exact (hown2.lt q hq).2
  clear hown' hgrow hown0 hown2
  go_wp2
  go_ret2
  exact HE.out
end Go.Proofs.YtkjimilapgkajabDoor
