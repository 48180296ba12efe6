/-
  The names of a melody's groups, in the program.
-/
import Derived.Test.YtkjimilapgkajabDoorGnm
import Derived.Test.YtkjimilapgkajabDoorNn
import Derived.Test.YtkjimilapgkajabDoorVbl
import Derived.Deep.RegionHeld3
import Derived.Deep.RegionWith
namespace Go.Proofs.YtkjimilapgkajabDoor
open Go.RowKit Go.Shelf
set_option maxRecDepth 100000
set_option linter.unusedVariables false

theorem by_take (s : ByteArray) (k : Nat) : s.extract 0 k = ⟨(s.data.toList.take k).toArray⟩ := by
  rw [Lib.extract_eq]; simp
theorem by_drop (s : ByteArray) (k : Nat) : s.extract k s.size = ⟨(s.data.toList.drop k).toArray⟩ := by
  rw [Lib.extract_eq]
  have : List.take (s.size - k) (List.drop k s.data.toList) = List.drop k s.data.toList := List.take_of_length_le (by rw [List.length_drop]; simp)
  rw [this]

set_option maxHeartbeats 4000000 in
theorem groupName_any (lo : Nat) (p : Option Addr) (ps : List (Int × Bool)) (b : Bool) (hv : mv ps = true) (hl : ps.length ≤ 4) (w : World) (h : Mel w lo p ps) (ht : NeuTab w) :
    Calls Tryd.prog 87 #[.agg #[.pointer p, .bool b]] w fun e w' => e = .returned (.string (gnl ps b)) ∧ Below w.heap.size w w' := by
  have hwl : (wys ps).length ≤ 100 := by have := wys_len ps; omega
  have KC := Lib.hid (fun W hm => callsIn_wide.1 (contour_in 3 (Nat.le_refl _) lo p ps hwl W hm))
  have hct : (⟨(wys ps).toArray⟩ : ByteArray) = ctO ps := by rw [ctO_wys, mvl_yes hv]
  rw [hct] at KC
  have KN := Lib.hid (fun W hW => neumeName_any (ctO ps) W hW)
  have hN := nm_ok hv hl
  have HM := Lib.hid h
  have HT := Lib.hid ht
  clear hct hwl h ht hv hl
  cases b
  · have hg : gnl ps false = nnm (ctO ps) := rfl
    rw [hg]
    clear hg hN
    generalize nnm (ctO ps) = N at KN ⊢
    generalize ctO ps = c at KC KN
    go_enter Tryd.func87, Tryd.ntmps87
    go_wp2_with (fail)
    go_at_call 72; refine (KC.out _ (HM.out.below (by (repeat' (first | (with_reducible assumption) | (with_reducible exact Below.refl _ _) | (with_reducible refine Below.alloc ?_ ?_ _) | (with_reducible refine Below.drew ?_) | (with_reducible refine Below.setCell ?_ ?_ _) | (with_reducible refine below_gb ?_ (by assumption) ?_) | (with_reducible refine bl_step ?_ (by assumption)) | go_size))))).mono ?_; rintro e w1 ⟨rfl, hb1⟩; obtain ⟨hc1, hf1, hz1⟩ := bl hb1; (try simp at hz1); (try (refine got (p := w.heap.size < w1.heap.size) ?_ ?_; (focus (go_size; done)); intro q1_w0)); (try (refine got (p := w1.cell? ⟨w.heap.size, 0, none⟩ = some (.pointer p)) ?_ ?_; (focus (refine (hc1 _ _ ?_).trans ?_; (focus (go_size; done)); go_simp; done)); intro c1_w0_0)); (try (refine got (p := w1.cell? ⟨w.heap.size, 1, none⟩ = some (.bool false)) ?_ ?_; (focus (refine (hc1 _ _ ?_).trans ?_; (focus (go_size; done)); go_simp; done)); intro c1_w0_1)); (try (refine got (p := ∀ o, w1.frozen? ⟨w.heap.size, o, none⟩ = false) ?_ ?_; (focus (intro o; refine (hf1 _ _ ?_).trans ?_; (focus (go_size; done)); go_simp; done)); intro f1_w0)); clear hc1 hf1
    go_wp2_with (fail)
    go_at_call 36; refine (KN.out _ (HT.out.below (by (repeat' (first | (with_reducible assumption) | (with_reducible exact Below.refl _ _) | (with_reducible refine Below.alloc ?_ ?_ _) | (with_reducible refine Below.drew ?_) | (with_reducible refine Below.setCell ?_ ?_ _) | (with_reducible refine below_gb ?_ (by assumption) ?_) | (with_reducible refine bl_step ?_ (by assumption)) | go_size))))).mono ?_; rintro e w2 ⟨rfl, hb2⟩; obtain ⟨hc2, hf2, hz2⟩ := bl hb2; (try simp at hz2); (try (refine got (p := w.heap.size < w2.heap.size) ?_ ?_; (focus (go_size; done)); intro q2_w0)); (try (refine got (p := w2.cell? ⟨w.heap.size, 0, none⟩ = some (.pointer p)) ?_ ?_; (focus (refine (hc2 _ _ ?_).trans ?_; (focus (go_size; done)); go_simp; done)); intro c2_w0_0)); (try (refine got (p := w2.cell? ⟨w.heap.size, 1, none⟩ = some (.bool false)) ?_ ?_; (focus (refine (hc2 _ _ ?_).trans ?_; (focus (go_size; done)); go_simp; done)); intro c2_w0_1)); (try (refine got (p := ∀ o, w2.frozen? ⟨w.heap.size, o, none⟩ = false) ?_ ?_; (focus (intro o; refine (hf2 _ _ ?_).trans ?_; (focus (go_size; done)); go_simp; done)); intro f2_w0)); clear hc2 hf2
    go_wp2
    go_ret
    exact ⟨rfl, by (repeat' (first | (with_reducible assumption) | (with_reducible exact Below.refl _ _) | (with_reducible refine Below.alloc ?_ ?_ _) | (with_reducible refine Below.drew ?_) | (with_reducible refine Below.setCell ?_ ?_ _) | (with_reducible refine below_gb ?_ (by assumption) ?_) | (with_reducible refine bl_step ?_ (by assumption)) | go_size))⟩
  · have hg : gnl ps true = ⟨(capL (nnm (ctO ps)).data.toList).toArray⟩ := rfl
    rw [hg]
    clear hg
    generalize nnm (ctO ps) = N at KN hN ⊢
    generalize ctO ps = c at KC KN
    obtain ⟨n1, n9, nas, _, _, ncap⟩ := hN
    have KU : ∀ W : World, Calls Tryd.prog 119 #[.string (N.extract 0 1)] W fun e w' => e = .returned (.string ⟨(Lib.toUpperA (N.data.toList.take 1)).toArray⟩) ∧ Below W.heap.size W w' := fun W => by
      have := Tryd.strings_ToUpper_ascii (N.extract 0 1) W (by rw [ByteArray.size_extract]; omega) (fun j b hb => by
        rw [by_take] at hb
        exact nas b (List.mem_of_mem_take (List.mem_of_getElem? hb)))
      rw [by_take] at this ⊢
      exact this
    have HU := Lib.hid KU
    have hadd : ∀ W : World, (Op.stringOp .add (⟨(Lib.toUpperA (N.data.toList.take 1)).toArray⟩ : ByteArray) (N.extract 1 N.size)).run Tryd.prog W = .ok (.string ⟨(capL N.data.toList).toArray⟩) W := fun W => by
      have e : (⟨(Lib.toUpperA (N.data.toList.take 1)).toArray⟩ : ByteArray) ++ N.extract 1 N.size = ⟨(capL N.data.toList).toArray⟩ := by
        rw [by_drop, ByteArray.mk_append_mk, ← ncap]; (try simp)
      rw [← e]
      refine run_string_add_sum W _ _ ?_
      rw [ByteArray.size_extract]
      have : (⟨(Lib.toUpperA (N.data.toList.take 1)).toArray⟩ : ByteArray).size ≤ 1 := by
        show (Lib.toUpperA (N.data.toList.take 1)).toArray.size ≤ 1
        rw [List.size_toArray]; unfold Lib.toUpperA; rw [List.length_map, List.length_take]; omega
      omega
    clear KU ncap nas
    generalize (⟨(Lib.toUpperA (N.data.toList.take 1)).toArray⟩ : ByteArray) = U at HU hadd
    generalize (⟨(capL N.data.toList).toArray⟩ : ByteArray) = C at hadd ⊢
    have k1 : (1 : Int) ≤ (N.size : Int) := by omega
    go_enter Tryd.func87, Tryd.ntmps87
    go_wp2_with (fail)
    go_at_call 72; refine (KC.out _ (HM.out.below (by (repeat' (first | (with_reducible assumption) | (with_reducible exact Below.refl _ _) | (with_reducible refine Below.alloc ?_ ?_ _) | (with_reducible refine Below.drew ?_) | (with_reducible refine Below.setCell ?_ ?_ _) | (with_reducible refine below_gb ?_ (by assumption) ?_) | (with_reducible refine bl_step ?_ (by assumption)) | go_size))))).mono ?_; rintro e w1 ⟨rfl, hb1⟩; obtain ⟨hc1, hf1, hz1⟩ := bl hb1; (try simp at hz1); (try (refine got (p := w.heap.size < w1.heap.size) ?_ ?_; (focus (go_size; done)); intro q1_w0)); (try (refine got (p := w1.cell? ⟨w.heap.size, 0, none⟩ = some (.pointer p)) ?_ ?_; (focus (refine (hc1 _ _ ?_).trans ?_; (focus (go_size; done)); go_simp; done)); intro c1_w0_0)); (try (refine got (p := w1.cell? ⟨w.heap.size, 1, none⟩ = some (.bool true)) ?_ ?_; (focus (refine (hc1 _ _ ?_).trans ?_; (focus (go_size; done)); go_simp; done)); intro c1_w0_1)); (try (refine got (p := ∀ o, w1.frozen? ⟨w.heap.size, o, none⟩ = false) ?_ ?_; (focus (intro o; refine (hf1 _ _ ?_).trans ?_; (focus (go_size; done)); go_simp; done)); intro f1_w0)); clear hc1 hf1
    go_wp2_with (fail)
    go_at_call 36; refine (KN.out _ (HT.out.below (by (repeat' (first | (with_reducible assumption) | (with_reducible exact Below.refl _ _) | (with_reducible refine Below.alloc ?_ ?_ _) | (with_reducible refine Below.drew ?_) | (with_reducible refine Below.setCell ?_ ?_ _) | (with_reducible refine below_gb ?_ (by assumption) ?_) | (with_reducible refine bl_step ?_ (by assumption)) | go_size))))).mono ?_; rintro e w2 ⟨rfl, hb2⟩; obtain ⟨hc2, hf2, hz2⟩ := bl hb2; (try simp at hz2); (try (refine got (p := w.heap.size < w2.heap.size) ?_ ?_; (focus (go_size; done)); intro q2_w0)); (try (refine got (p := w2.cell? ⟨w.heap.size, 0, none⟩ = some (.pointer p)) ?_ ?_; (focus (refine (hc2 _ _ ?_).trans ?_; (focus (go_size; done)); go_simp; done)); intro c2_w0_0)); (try (refine got (p := w2.cell? ⟨w.heap.size, 1, none⟩ = some (.bool true)) ?_ ?_; (focus (refine (hc2 _ _ ?_).trans ?_; (focus (go_size; done)); go_simp; done)); intro c2_w0_1)); (try (refine got (p := ∀ o, w2.frozen? ⟨w.heap.size, o, none⟩ = false) ?_ ?_; (focus (intro o; refine (hf2 _ _ ?_).trans ?_; (focus (go_size; done)); go_simp; done)); intro f2_w0)); clear hc2 hf2
    go_wp2
    have hbw : Below w.heap.size w w2 := by (repeat' (first | (with_reducible assumption) | (with_reducible exact Below.refl _ _) | (with_reducible refine Below.alloc ?_ ?_ _) | (with_reducible refine Below.drew ?_) | (with_reducible refine Below.setCell ?_ ?_ _) | (with_reducible refine below_gb ?_ (by assumption) ?_) | (with_reducible refine bl_step ?_ (by assumption)) | go_size))
    go_region_with (go_at_call 119; refine (HU.out _).mono ?_; rintro e w3 ⟨rfl, hb3⟩)
    all_goals
      go_wp2
      go_ret
      exact ⟨rfl, by (repeat' (first | (with_reducible assumption) | (with_reducible exact Below.refl _ _) | (with_reducible refine Below.alloc ?_ ?_ _) | (with_reducible refine Below.drew ?_) | (with_reducible refine bl_drewN ?_ _) | (with_reducible refine Below.setCell ?_ ?_ _) | (with_reducible refine bl_step ?_ (by assumption)) | go_size))⟩

theorem NgInv.app2 {w w2 w3 : World} {r v : Value} {xs gs : List (Int × Bool)} {ps : List (Option Addr × Bool)} {n : Nat} {zs : List Value} {o : Obj} (h : NgInv w w2 r xs gs ps) (hown : w2.ownsRow w.heap.size 9 1 v n zs)
    (hg : (w2.alloc o).grownBy w3 v.ownBlock) (hB : Below w.heap.size w w3) : NgInv w w3 r xs gs ps := by
  refine ⟨?_, h.made.keep fun p ys hm => hm.app (by decide) hown hg, hB⟩
  obtain ⟨hl, h0 | ⟨g, cap, cur, hr, hgb, hh, rest⟩⟩ := h.own
  · exact ⟨hl, .inl h0⟩
  · exact ⟨hl, .inr ⟨g, cap, cur, hr, hgb, app_blk (by decide) hh hown hg, rest⟩⟩
def GnInv (w wr : World) (v : Value) (ws : List ByteArray) : Prop := JRow wr w.heap.size v ws ∧ Below w.heap.size w wr

set_option maxRecDepth 100000 in
set_option maxHeartbeats 8000000 in
theorem groupsNames_any (lo hi lo' hi' : Nat) (v u : Value) (xs gs : List (Int × Bool)) (w : World) (h : TRow w lo hi v xs) (g : GRw w lo' hi' u gs) (ht : NeuTab w) :
    Calls Tryd.prog 37 #[v, u] w fun e w' => e = .returned (.string (gnm xs gs)) ∧ Below w.heap.size w w' := by
  obtain ⟨i0, hi0, hq0, hq1, hq2⟩ := info_parts infoStrJ
  by_cases hv : gv xs gs = false
  · rw [gnm_no hv]
    go_enter Tryd.func37, Tryd.ntmps37
    go_wp2_with (fail)
    (go_at_call 86; refine (newGroups_any lo hi lo' hi' v u xs gs _ h g).mono ?_; rintro e w1 ⟨r, rfl, hb1, h1, h2⟩)
    have hr := h2 hv
    subst hr
    rw [hv]
    have HJ := Lib.hid (JRow.start w w1 hb1)
    have HB0 := Lib.hid (hb1.alloc hb1.size (.cells #[] 9))
    have HJO := Lib.hid (HJ.out.join (by simp [jnw, Lib.join_nil]) (by simp))
    clear h1 h2 h g hb1
    go_wp2
    refine wp_loop_rounds 1 ?_
    repeat any_goals (rw [rounds_succ]; go_wp2_with (fail))
    (go_at_call 68; refine (HJO.out).mono ?_; rintro e w2 ⟨rfl, hb2⟩)
    go_wp2
    go_ret
    exact ⟨rfl, bl_step HB0.out hb2⟩
  rw [Bool.not_eq_false] at hv
  have HV := Lib.hid hv
  have HT := Lib.hid ht
  have HG := Lib.hid (gnm_yes hv)
  obtain ⟨L, hL⟩ : ∃ L, gs.length = L := ⟨_, rfl⟩
  have hL24 : L ≤ 24 := by rw [← hL]; exact (gv_len hv).1
  have KN := Lib.hid (fun lo p j b (hj : j < gs.length) W hW hT => groupName_any lo p (prt xs gs j) b (gp_ok hv hj).1 (gp_ok hv hj).2.1 W hW hT)
  go_enter Tryd.func37, Tryd.ntmps37
  go_wp2_with (fail)
  (go_at_call 86; refine (newGroups_any lo hi lo' hi' v u xs gs _ h g).mono ?_; rintro e w1 ⟨r, rfl, hb1, h1, h2⟩)
  obtain ⟨ps, hl, hI⟩ := h1 hv
  rw [hv]
  have hI1 : NgInv w (w1.alloc (.cells #[] 9)) r xs gs ps := hI.below ((Below.refl _ _).alloc (Nat.le_refl _) _)
  have HI := Lib.hid hI1
  obtain ⟨ra, rc, hra, hrc⟩ : ∃ a c, r = .slice a L c ∧ (0 < L → ∃ g', a = some ⟨g', 0, none⟩ ∧ w.heap.size ≤ g' ∧ g' < w1.heap.size) := by
    have hown := hI.own
    rw [hl, hL] at hown
    rcases hown.2 with ⟨rfl, h0⟩ | ⟨g', cap, cur, rfl, hg', hh, _⟩
    · rw [h0]; exact ⟨none, 0, rfl, fun h => by omega⟩
    · refine ⟨_, _, rfl, fun _ => ⟨g', rfl, hg', ?_⟩⟩
      rcases Nat.lt_or_ge g' w1.heap.size with h | h
      · exact h
      · rw [Array.getElem?_eq_none h] at hh; cases hh
  subst hra
  have HJ := Lib.hid (JRow.start w w1 hb1)
  have HB0 := Lib.hid (hb1.alloc hb1.size (.cells #[] 9))
  have HPL := Lib.hid (hl.trans hL)
  have HRC := Lib.hid hrc
  have HL := Lib.hid hL
  clear h1 h2 h g ht hI hI1 hv hrc hl hL
  go_wp2
  go_loopw [7, 19] (fun o i wr => ∃ j : Nat, j ≤ L ∧ i = .int .i64 j ∧ JRow wr w.heap.size o (gnw xs gs j) ∧ NgInv w wr (.slice ra L rc) xs gs ps ∧ Below w.heap.size w wr) (fun _ i _ => L - (intOf i).toNat)
  case atStart => exact ⟨0, Nat.zero_le _, rfl, HJ.out, HI.out, HB0.out⟩
  case round =>
    obtain ⟨j, hj, rfl, hJ, hN, hb⟩ := hrel
    clear HI HJ HB0 hb1
    by_cases hlt : j < L
    · have hjg : j < gs.length := by rw [HL.out]; exact hlt
      obtain ⟨p, b, hp, hbb, hM⟩ := hN.made j (by rw [HPL.out]; exact hlt)
      obtain ⟨c1, c2⟩ := pcs_get hp
      obtain ⟨g', rfl, hg1, hg2⟩ := HRC.out (by omega)
      have e1 := hN.own.cells (g := g') rfl _ _ c1
      have e2 := hN.own.cells (g := g') rfl _ _ c2
      simp only [Go.WideShapes.add_plain, Nat.zero_add] at e1 e2
      have hgr := (hN.own.lt g' rfl).2
      have hmj := (gp_ok HV.out hjg).1
      rw [mvl_yes hmj] at hM
      have HX := Lib.hid (gnw_succ xs gs j)
      rw [← hbb] at HX
      have hln := gnw_len xs gs j
      have KNj := Lib.hid (fun W hW hT => KN.out w.heap.size p j b hjg W hW hT)
      generalize gnl (prt xs gs j) b = nm at HX KNj
      generalize hws : gnw xs gs j = ws at hJ hln HX
      have HNg := Lib.hid hN
      have HM := Lib.hid hM
      have HJh := Lib.hid hJ
      have j0 : (0 : Int) ≤ (j : Int) := by omega
      have j1 : (j : Int) < (L : Int) := by omega
      have zr := hb.size
      clear hws hp hbb c1 c2 hmj hN hM hJ hjg
      go_wp2_with (fail)
      (go_at_call 87; refine (KNj.out _ (HM.out.below (by (repeat' (first | (with_reducible assumption) | (with_reducible exact Below.refl _ _) | (with_reducible refine Below.alloc ?_ ?_ _) | (with_reducible refine Below.drew ?_) | (with_reducible refine Below.setCell ?_ ?_ _) | (with_reducible refine below_gb ?_ (by assumption) ?_) | (with_reducible refine bl_step ?_ (by assumption)) | go_size)))) (HT.out.below (by (repeat' (first | (with_reducible assumption) | (with_reducible exact Below.refl _ _) | (with_reducible refine Below.alloc ?_ ?_ _) | (with_reducible refine Below.drew ?_) | (with_reducible refine Below.setCell ?_ ?_ _) | (with_reducible refine below_gb ?_ (by assumption) ?_) | (with_reducible refine bl_step ?_ (by assumption)) | go_size))))).mono ?_; rintro e w2 ⟨rfl, hb2⟩)
      have hbr2 : Below wr.heap.size wr w2 := ((Below.refl _ _).alloc (Nat.le_refl _) _).trans (hb2.mono (by simp))
      have hJ2 := HJh.out.below hbr2
      have hN2 := Lib.hid (HNg.out.below hbr2)
      have hB2 := Lib.hid (bl_step hb hbr2)
      have zz := hB2.out.size
      have hown := hJ2
      unfold JRow at hown
      clear hb2 e1 e2
      go_wp2_with (at_builtin; refine wpList_append_own _ rfl _ _ 102 rfl w.heap.size 9 i0 (.string ⟨#[]⟩) 1 16 Tryd.underlying102 hi0 hq0 hq1 hq2 rfl (by decide) _ _ _ rfl (hown.alloc _) ⟨w2.heap.size, 0, none⟩ 1 1 [.string nm] rfl rfl jnews jnews_one (by unfold maxLen; omega) (by omega) (by simp; omega) ?_)
      intro v' w3 hown' hgrow _
      have HJ3 : Hid (JRow w3 w.heap.size v' (gnw xs gs (j + 1))) := by
        show JRow _ _ _ _
        rw [HX.out]
        refine JRow.app (x := nm) ?_
        first | exact hown' | (rw [hln]; exact hown')
      have HB3 : Hid (Below w.heap.size w w3) := (hB2.out.alloc zz _).grown hgrow (by simp; omega) (fun k hk => (hown.lt k hk).1)
      have HN3 : Hid (NgInv w w3 (.slice (some ⟨g', 0, none⟩) L rc) xs gs ps) := hN2.out.app2 hown hgrow HB3.out
      clear hown hown' hgrow hJ2
      go_wp2
      go_roundw
      case rel => exact ⟨j + 1, by omega, by go_num, HJ3.out, HN3.out, HB3.out⟩
      case measure => simp [intOf]; omega
    · have hje : j = L := by omega
      subst hje
      have HJO := Lib.hid (hJ.join (by have := gnw_size HV.out (k := j) (by rw [HL.out]; exact Nat.le_refl _); omega) (by rw [gnw_len]; omega))
      clear hN hJ
      go_wp2_with (fail)
      (go_at_call 68; refine (HJO.out).mono ?_; rintro e w2 ⟨rfl, hb2⟩)
      go_wp2
      go_ret
      exact ⟨by rw [HG.out, HL.out]; rfl, bl_step hb hb2⟩
end Go.Proofs.YtkjimilapgkajabDoor
