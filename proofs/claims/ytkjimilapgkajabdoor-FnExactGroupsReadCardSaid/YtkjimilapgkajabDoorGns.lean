/-
  The names of a melody's groups, in the model.
-/
import Derived.Test.YtkjimilapgkajabDoorGnm
import Derived.Test.YtkjimilapgkajabDoorGc2
import Derived.Test.YtkjimilapgkajabDoorGn
import Derived.Test.YtkjimilapgkajabDoorTxt
namespace Go.Proofs.YtkjimilapgkajabDoor
open Go.RowKit
set_option maxRecDepth 100000
set_option linter.unusedVariables false

set_option maxHeartbeats 4000000 in
theorem l3Contour_at (a : Option Addr) (c : Nat) (xs : List (Int × Bool)) (w : World) (h : ArgT w a xs) (hm : mv xs = true) :
    Calls Tryd.prog 73 #[.slice a xs.length c] w fun e w' => e = .returned (.string (ctO xs)) ∧ Below w.heap.size w w' := by
  rw [ctO_yes hm]
  have hlx : xs.length ≤ 24 := by simp [mv] at hm; exact hm.1
  clear hm
  rcases h with rfl | ⟨g, off, rfl, hgs, hc⟩
  · go_enter Tryd.func73, Tryd.ntmps73
    go_wp2
    go_rounds 1
    go_ret
    exact ⟨rfl, Below.refl _ _⟩
  have HC := Lib.hid hc
  clear hc
  obtain ⟨L, hL⟩ : ∃ L, xs.length = L := ⟨_, rfl⟩
  rw [hL] at hlx ⊢
  have HL := Lib.hid hL
  clear hL
  by_cases hL0 : L = 0
  · subst hL0
    go_enter Tryd.func73, Tryd.ntmps73
    go_wp2
    go_rounds 1
    go_ret
    exact ⟨rfl, Below.refl _ _⟩
  go_enter Tryd.func73, Tryd.ntmps73
  go_wp2
  go_loopw [3, 4] (fun o i wr => ∃ k : Nat, k ≤ L - 1 ∧ i = .int .i64 ((k : Int) + 1) ∧ o = .string ⟨(ctw xs k).toArray⟩ ∧ Below w.heap.size w wr) (fun _ i _ => L - (intOf i).toNat)
  case atStart => exact ⟨0, Nat.zero_le _, rfl, rfl, Below.refl _ _⟩
  case round =>
    obtain ⟨k, hk, rfl, rfl, hb⟩ := hrel
    by_cases hlt : k + 1 < L
    · have hk0 : k < xs.length := by rw [HL.out]; omega
      have hk1 : k + 1 < xs.length := by rw [HL.out]; omega
      have e1 := (hb.cell (p := ⟨g, off + k * 2, none⟩) hgs).trans (HC.out k _ (List.getElem?_eq_getElem hk0)).1
      have e2 := (hb.cell (p := ⟨g, off + (k + 1) * 2, none⟩) hgs).trans (HC.out (k + 1) _ (List.getElem?_eq_getElem hk1)).1
      have d1 : xs.getD k (0, false) = xs[k] := by rw [List.getD_eq_getElem?_getD, List.getElem?_eq_getElem hk0]; rfl
      have d2 : xs.getD (k + 1) (0, false) = xs[k + 1] := by rw [List.getD_eq_getElem?_getD, List.getElem?_eq_getElem hk1]; rfl
      rw [← d1] at e1
      rw [← d2] at e2
      have HX := Lib.hid (ctw_succ xs k)
      have hsz : (⟨(ctw xs k).toArray⟩ : ByteArray).size = k := by show (ctw xs k).toArray.size = k; rw [List.size_toArray, ctw_len]
      clear d1 d2
      generalize (xs.getD k (0, false)).1 = x at e1 HX
      generalize (xs.getD (k + 1) (0, false)).1 = y at e2 HX
      generalize (⟨(ctw xs k).toArray⟩ : ByteArray) = o at HX hsz ⊢
      have hadd : ∀ W : World, (Op.stringOp .add o ⟨#[wyc x y]⟩).run Tryd.prog W = .ok (.string (o ++ ⟨#[wyc x y]⟩)) W := fun W => run_string_add_sum W _ _ (by show o.size + 1 ≤ 9223372036854775807; omega)
      have k0 : (0 : Int) ≤ (k : Int) := by omega
      have k1 : (k : Int) < (L : Int) := by omega
      have k2 : (0 : Int) ≤ (k : Int) + 1 := by omega
      have k3 : (k : Int) + 1 < (L : Int) := by omega
      have k4 : IntKind.i64.wrap ((k : Int) + 1 - 1) = (k : Int) := by rw [show (k : Int) + 1 - 1 = (k : Int) by omega]; exact IntWalk.i64_in _ (by omega)
      have k5 : IntKind.i64.wrap (k : Int) = (k : Int) := IntWalk.i64_in _ (by omega)
      have k6 : ((k : Int) + 1).toNat = k + 1 := by omega
      have hsz2 := hb.size
      have KW := Lib.hid (fun W => l3Way_any x y W)
      go_wp2
      go_region_held3 (fun wx => wx.cell? ⟨g, off + k * 2, none⟩ = some (.int .i64 x) ∧ wx.cell? ⟨g, off + (k + 1) * 2, none⟩ = some (.int .i64 y)) (go_keep)
        (first | (go_at_call 114; refine (KW.out _).mono ?_; rintro e w2 ⟨rfl, hb2⟩; have f1 := (hb2.cell (p := ⟨g, off + k * 2, none⟩) (Nat.lt_of_lt_of_le hgs hsz2)).trans e1; have f2 := (hb2.cell (p := ⟨g, off + (k + 1) * 2, none⟩) (Nat.lt_of_lt_of_le hgs hsz2)).trans e2))
      all_goals
        go_wp2
        go_roundw
        case rel => exact ⟨k + 1, by omega, by go_num, by first | rw [HX.out] | (rw [← HX.out]), bl_step hb.drew hb2⟩
        case measure => simp [intOf]; omega
    · have hke : k = L - 1 := by omega
      have k3 : ¬ (k : Int) + 1 < (L : Int) := by omega
      have k3' : (L : Int) ≤ (k : Int) + 1 := by omega
      subst hke
      go_wp2
      go_ret
      exact ⟨rfl, hb⟩


theorem conv_drew (c : UInt8) (w : World) :
    (convert 22 9 (.slice (some ⟨w.heap.size, 0, none⟩) 1 1)).run Tryd.prog (w.alloc (.cells #[.int .u8 (c.toNat : Int)] 5)).drew = .ok (.string ⟨#[c]⟩) (w.alloc (.cells #[.int .u8 (c.toNat : Int)] 5)).drew := by
  have h := run_convert_bytes_back (P := Tryd.prog) (w.alloc (.cells #[.int .u8 (c.toNat : Int)] 5)).drew 22 9 5 ⟨w.heap.size, 0, none⟩ 1 [c] Tryd.underlying22 Tryd.underlying5 Tryd.underlying9 (fun j hj => by
    have : j = 0 := by simpa using hj
    subst this
    simp [Addr.add])
  exact h
set_option maxHeartbeats 8000000 in
theorem l3Name_at (a : Option Addr) (c : Nat) (ps : List (Int × Bool)) (b : Bool) (hv : mv ps = true) (hl : ps.length ≤ 4) (w : World) (h : ArgT w a ps) :
    Calls Tryd.prog 91 #[.slice a ps.length c, .bool b] w fun e w' => e = .returned (.string (gnl ps b)) ∧ Below w.heap.size w w' := by
  have KC := Lib.hid (fun W hW => l3Contour_at a c ps W hW hv)
  have hcs : (ctO ps).size ≤ 4611686018427387904 := by
    have := (isn_in (cto_isn hv hl)).2; omega
  have KN := Lib.hid (fun W => sNeumeName_any (ctO ps) hcs W)
  have hN := nm_ok hv hl
  have HA := Lib.hid h
  clear hcs h hv hl
  obtain ⟨L, hL⟩ : ∃ L, ps.length = L := ⟨_, rfl⟩
  rw [hL] at KC ⊢
  clear hL
  cases b
  · have hg : gnl ps false = nnm (ctO ps) := rfl
    rw [hg]
    clear hg hN
    generalize nnm (ctO ps) = N at KN ⊢
    generalize ctO ps = c' at KC KN
    go_enter Tryd.func91, Tryd.ntmps91
    go_wp2_with (fail)
    (go_at_call 73; refine (KC.out _ HA.out).mono ?_; rintro e w1 ⟨rfl, hb1⟩)
    go_wp2_with (fail)
    (go_at_call 80; refine (KN.out _).mono ?_; rintro e w2 ⟨rfl, hb2⟩)
    go_wp2
    go_ret
    exact ⟨rfl, bl_step hb1 hb2⟩
  · have hg : gnl ps true = ⟨(capL (nnm (ctO ps)).data.toList).toArray⟩ := rfl
    rw [hg]
    clear hg
    generalize nnm (ctO ps) = N at KN hN ⊢
    generalize ctO ps = c' at KC KN
    obtain ⟨n1, n9, _, nlo, nhi, _⟩ := hN
    obtain ⟨c0, r, hNl⟩ : ∃ c0 r, N.data.toList = c0 :: r := by
      cases hh : N.data.toList with
      | nil =>
        have e : N.data.toList.length = N.size := by simp
        rw [hh] at e
        have e : 0 = N.size := e
        omega
      | cons c0 r => exact ⟨c0, r, rfl⟩
    have h0 : N[0] = c0 := by
      have e1 : N.data.toList[0]? = some N[0] := by
        rw [List.getElem?_eq_getElem (by simp; omega)]; rfl
      rw [hNl] at e1
      simpa using e1.symm
    have hlo : 97 ≤ c0.toNat ∧ c0.toNat ≤ 122 := by
      rw [hNl] at nlo nhi
      exact ⟨nlo, nhi⟩
    have hsub : ((c0 - 32).toNat : Int) = (c0.toNat : Int) - 32 := by
      have : (c0 - 32).toNat = c0.toNat - 32 := by
        rw [UInt8.toNat_sub_of_le _ _ (by rw [UInt8.le_iff_toNat_le]; show 32 ≤ _; omega)]; rfl
      omega
    have hcv := fun W => conv_drew (c0 - 32) W
    rw [hsub] at hcv
    have hadd : ∀ W : World, (Op.stringOp .add (⟨#[c0 - 32]⟩ : ByteArray) (N.extract 1 N.size)).run Tryd.prog W = .ok (.string ⟨(capL N.data.toList).toArray⟩) W := fun W => by
      have e : (⟨#[c0 - 32]⟩ : ByteArray) ++ N.extract 1 N.size = ⟨(capL N.data.toList).toArray⟩ := by
        rw [by_drop, hNl, ByteArray.mk_append_mk]
        simp [capL]
      rw [← e]
      refine run_string_add_sum W _ _ ?_
      have e2 : (N.extract 1 N.size).size ≤ N.size := by rw [ByteArray.size_extract]; omega
      have e1 : (⟨#[c0 - 32]⟩ : ByteArray).size = 1 := rfl
      omega
    have hw8 : IntKind.u8.wrap ((c0.toNat : Int) - 32) = (c0.toNat : Int) - 32 := by
      exact IntWalk.u8_in _ (by omega)
    have k1 : (1 : Int) ≤ (N.size : Int) := by omega
    have k2 : (0 : Int) < (N.size : Int) := by omega
    have k3 : 0 < N.size := by omega
    clear hNl nlo nhi hsub
    generalize (⟨(capL N.data.toList).toArray⟩ : ByteArray) = C at hadd ⊢
    go_enter Tryd.func91, Tryd.ntmps91
    go_wp2_with (fail)
    (go_at_call 73; refine (KC.out _ HA.out).mono ?_; rintro e w1 ⟨rfl, hb1⟩)
    go_wp2_with (fail)
    (go_at_call 80; refine (KN.out _).mono ?_; rintro e w2 ⟨rfl, hb2⟩)
    have hbw := bl_step hb1 hb2
    have hzw := hbw.size
    go_wp2
    go_region
    all_goals
      go_wp2
      go_ret
      exact ⟨rfl, by (repeat' (first | (with_reducible assumption) | (with_reducible exact Below.refl _ _) | (with_reducible refine Below.alloc ?_ ?_ _) | (with_reducible refine Below.drew ?_) | (with_reducible refine bl_drewN ?_ _) | (with_reducible refine Below.setCell ?_ ?_ _) | (with_reducible refine bl_step ?_ (by assumption)) | go_size))⟩

set_option maxRecDepth 100000 in
set_option maxHeartbeats 16000000 in
theorem sGroupsNames_any (lo hi lo' hi' : Nat) (v u : Value) (xs gs : List (Int × Bool)) (w : World) (h : TRow w lo hi v xs) (g : GRow w lo' hi' u gs) (hgl : gs.length ≤ 4611686018427387904) :
    Calls Tryd.prog 39 #[v, u] w fun e w' => e = .returned (.string (gnm xs gs)) ∧ Below w.heap.size w w' := by
  obtain ⟨ua, uc, hu⟩ : ∃ a c, u = .slice a gs.length c := by
    rcases g.form with ⟨rfl, rfl⟩ | ⟨b, cap, rfl, _⟩
    · exact ⟨none, 0, rfl⟩
    · exact ⟨_, _, rfl⟩
  by_cases hg0 : gs.length = 0
  · have hge : gs = [] := List.eq_nil_of_length_eq_zero hg0
    subst hge
    rw [gnm_nil]
    subst hu
    clear h g hgl hg0
    go_enter Tryd.func39, Tryd.ntmps39
    go_wp2
    go_rounds 1
    go_ret
    exact ⟨rfl, Below.refl _ _⟩
  have HH := Lib.hid h
  have HK := Lib.hid g
  have KV := Lib.hid (fun W h g => sGroupsValid_any lo hi lo' hi' v u xs gs W h g hgl)
  by_cases hv : gv xs gs = false
  · rw [gnm_no hv]
    rw [hv] at KV
    subst hu
    have hp : (0 : Int) < (gs.length : Int) := by omega
    clear h g hv
    go_enter Tryd.func39, Tryd.ntmps39
    go_wp2
    refine wp_loop_rounds 1 ?_
    repeat any_goals (rw [rounds_succ]; go_wp2_with (fail))
    (go_at_call 89; refine (KV.out _ HH.out HK.out).mono ?_; rintro e w1 ⟨rfl, hb1⟩)
    go_wp2
    go_ret
    exact ⟨rfl, hb1⟩
  rw [Bool.not_eq_false] at hv
  rw [hv] at KV
  have HV := Lib.hid hv
  have HG := Lib.hid (gnm_yes hv)
  obtain ⟨hmv, hall, hsz⟩ := gv_in hv
  have hg24 := (gv_len hv).1
  have hx24 := (gv_len hv).2
  rcases g.form with ⟨_, rfl⟩ | ⟨b, gcap, rfl, _, _, hbs, hgc, hgm, hgc'⟩
  · simp at hg0
  obtain ⟨L, hL⟩ : ∃ L, gs.length = L := ⟨_, rfl⟩
  rcases h.form with ⟨_, rfl⟩ | ⟨B, cap, rfl, _, _, hBs, hcap, hmax, hc⟩
  · exfalso
    have := (gp_ok hv (j := 0) (by omega)).2.2
    unfold prt at this
    simp at this
  unfold maxLen at hmax hgm
  obtain ⟨X, hX⟩ : ∃ X, xs.length = X := ⟨_, rfl⟩
  have HX := Lib.hid hX
  have HL := Lib.hid hL
  have HGC := Lib.hid hgc'
  have HC := Lib.hid hc
  have HALL := Lib.hid hall
  rw [hX] at hcap hx24 HH
  rw [hL] at hgc hg24 hg0 HK
  simp only [hX, hL] at KV ⊢
  clear h g hc hgc' hv hall hsz hmv hX hL hu hgl
  go_enter Tryd.func39, Tryd.ntmps39
  go_wp2
  go_loopw [5, 6] (fun o i wr => ∃ j : Nat, j ≤ L ∧ i = .int .i64 j ∧ o = .string (jns (gnw xs gs j)) ∧ Below w.heap.size w wr) (fun _ i _ => L - (intOf i).toNat)
  case atStart => exact ⟨0, Nat.zero_le _, rfl, rfl, Below.refl _ _⟩
  case round =>
    obtain ⟨j, hj, rfl, rfl, hb⟩ := hrel
    by_cases hlt : j < L
    · have hjg : j < gs.length := by rw [HL.out]; exact hlt
      obtain ⟨q1, q2, q3⟩ := gp_ok HV.out hjg
      have hsn := gsz_snoc (List.getElem?_eq_getElem hjg)
      have hsp := gsz_split gs (j + 1)
      have hsz := (gv_in HV.out).2.2
      obtain ⟨p0, p1⟩ := gok_in (List.all_eq_true.1 HALL.out _ (List.getElem_mem hjg))
      obtain ⟨Q, hQ⟩ : ∃ Q, Q = gsz (gs.take j) := ⟨_, rfl⟩
      obtain ⟨z, hz⟩ : ∃ z : Nat, (gs[j]).1 = z := ⟨(gs[j]).1.toNat, by omega⟩
      have hQz : Q + z ≤ X := by rw [hz] at hsn; simp at hsn; have := HX.out; omega
      have hd : gs.getD j (0, false) = gs[j] := by rw [List.getD_eq_getElem?_getD, List.getElem?_eq_getElem hjg]; rfl
      have hpr : prt xs gs j = (xs.drop Q).take z := by
        unfold prt
        rw [← hQ, hd, hz]; rfl
      have hpl : (prt xs gs j).length = z := by rw [hpr, List.length_take, List.length_drop]; have := HX.out; omega
      obtain ⟨z1, z2⟩ := HGC.out j _ (List.getElem?_eq_getElem hjg)
      rw [hz] at z1 p0 p1
      obtain ⟨bb, hbb⟩ : ∃ bb, (gs[j]).2 = bb := ⟨_, rfl⟩
      rw [hbb] at z2
      have HX1 := Lib.hid (gnw_succ xs gs j)
      rw [hd, hbb] at HX1
      have hgnl := gnl_size q1 q2 bb
      have hjw := gnw_size HV.out (k := j) (by omega)
      have hln := gnw_len xs gs j
      have hcA : ∀ i t, (prt xs gs j)[i]? = some t → w.cell? ⟨B, Q * 2 + i * 2, none⟩ = some (.int .i64 t.1) ∧ w.cell? ⟨B, Q * 2 + i * 2 + 1, none⟩ = some (.bool t.2) := by
        intro i t ht
        rw [hpr, List.getElem?_take] at ht
        split at ht
        · rw [List.getElem?_drop] at ht
          have := HC.out (Q + i) t ht
          rw [show Q * 2 + i * 2 = (Q + i) * 2 by omega]
          exact this
        · cases ht
      have HA : Hid (ArgT w (some ⟨B, Q * 2, none⟩) (prt xs gs j)) := .inr ⟨B, Q * 2, rfl, hBs, hcA⟩
      have KN := Lib.hid (fun W hW => l3Name_at (some ⟨B, Q * 2, none⟩) (cap - Q) (prt xs gs j) bb q1 q2 W hW)
      rw [hpl] at KN
      have HLB := Lib.hid (fun W (hW : GRow W lo' hi' (.slice (some ⟨b, 0, none⟩) L gcap) gs) => l3Begin_any lo' hi' j _ gs (by omega) (by have := HL.out; omega) HALL.out W hW)
      rw [← hQ] at HLB
      generalize gnl (prt xs gs j) bb = nm at KN HX1 hgnl
      generalize prt xs gs j = ps at HA KN
      have hsl := tslice_lh (some ⟨B, 0, none⟩) X cap Q (Q + z) (by omega) (by omega) (by omega)
      rw [show Q + z - Q = z by omega] at hsl
      simp only [Option.map_some, Go.WideShapes.add_plain, Nat.zero_add] at hsl
      have m1 : IntKind.i64.wrap ((Q : Int) + (z : Int)) = ((Q + z : Nat) : Int) := by rw [show (Q : Int) + (z : Int) = ((Q + z : Nat) : Int) by omega]; exact IntWalk.i64_in _ (by omega)
      have j0 : (0 : Int) ≤ (j : Int) := by omega
      have j1 : (j : Int) < (L : Int) := by omega
      have hz1 := hb.size
      clear hsn hsp hsz hQ hz hd hpr hpl hbb q1 q2 q3 hjg hcA
      by_cases hj0 : j = 0
      · subst hj0
        have HO : Hid (jns (gnw xs gs (0 + 1)) = nm) := by
          show _ = _
          rw [HX1.out]
          exact jns_one _
        have hoe : jns (gnw xs gs 0) = ⟨#[]⟩ := rfl
        rw [hoe]
        have hadd : ∀ W : World, (Op.stringOp .add ⟨#[]⟩ nm).run Tryd.prog W = .ok (.string nm) W := fun W => by
          have e : (⟨#[]⟩ : ByteArray) ++ nm = nm := by obtain ⟨⟨d⟩⟩ := nm; rw [ByteArray.mk_append_mk]; simp
          have := run_string_add_sum (P := Tryd.prog) W ⟨#[]⟩ nm (by show 0 + nm.size ≤ 9223372036854775807; omega)
          rwa [e] at this
        clear hoe HX1 hjw hln
        go_wp2_with (fail)
        (go_at_call 89; refine (KV.out _ (HH.out.below hb (.inr (Nat.le_refl _))) (HK.out.below hb (.inr (Nat.le_refl _)))).mono ?_; rintro e w1 ⟨rfl, hb1⟩)
        have hbw := bl_step hb hb1
        have hbw1 : b < w1.heap.size := Nat.lt_of_lt_of_le hbs hbw.size
        have hzw := hbw.size
        have y1 := (hbw.cell (p := ⟨b, 0 * 2, none⟩) hbs).trans z1
        have y2 := (hbw.cell (p := ⟨b, 0 * 2 + 1, none⟩) hbs).trans z2
        go_wp2_with (fail)
        (go_at_call 90; refine (HLB.out _ (HK.out.below hbw (.inr (Nat.le_refl _)))).mono ?_; rintro e wx ⟨rfl, rfl⟩)
        go_wp2
        go_region_with (go_at_call 91; refine (KN.out _ (HA.out.below (by (repeat' (first | (with_reducible assumption) | (with_reducible exact Below.refl _ _) | (with_reducible refine Below.alloc ?_ ?_ _) | (with_reducible refine Below.drew ?_) | (with_reducible refine bl_drewN ?_ _) | (with_reducible refine Below.setCell ?_ ?_ _) | (with_reducible refine bl_step ?_ (by assumption)) | go_size))))).mono ?_; rintro e w2 ⟨rfl, hb2⟩; obtain ⟨hc2, hf2, hz2⟩ := bl hb2; (try simp at hz2); have f1 : w2.cell? ⟨b, 0 * 2, none⟩ = some (.int .i64 (z : Int)) := (hc2 _ _ (by go_size)).trans (by go_simp); have f2 : w2.cell? ⟨b, 0 * 2 + 1, none⟩ = some (.bool bb) := (hc2 _ _ (by go_size)).trans (by go_simp); clear hc2 hf2)
        all_goals
          (try simp only [Act.put, List.getElem_toArray, List.getElem_cons_succ, List.getElem_cons_zero, List.setIfInBounds_toArray, List.set_cons_zero, List.set_cons_succ])
          go_wp2
          go_roundw
          case rel => exact ⟨0 + 1, by omega, by go_num, by rw [HO.out], by (repeat' (first | (with_reducible assumption) | (with_reducible exact Below.refl _ _) | (with_reducible refine Below.alloc ?_ ?_ _) | (with_reducible refine Below.drew ?_) | (with_reducible refine bl_drewN ?_ _) | (with_reducible refine Below.setCell ?_ ?_ _) | (with_reducible refine bl_step ?_ (by assumption)) | go_size))⟩
          case measure => simp [intOf]; omega
      · have HO : Hid (jns (gnw xs gs j) ++ ⟨#[32]⟩ ++ nm = jns (gnw xs gs (j + 1))) := by
          show _ = _
          rw [HX1.out]
          exact jns_more (fun e => hj0 (by have := congrArg List.length e; rw [hln] at this; exact this)) _
        have gj : (0 : Int) < (j : Int) := by omega
        have gj' : 0 < j := by omega
        have hos : (jns (gnw xs gs j)).size ≤ 240 := by show (jnw _).toArray.size ≤ 240; rw [List.size_toArray]; omega
        generalize jns (gnw xs gs j) = o at HO hos ⊢
        have hadd1 : ∀ W : World, (Op.stringOp .add o ⟨#[32]⟩).run Tryd.prog W = .ok (.string (o ++ ⟨#[32]⟩)) W := fun W => run_string_add_sum W _ _ (by show o.size + 1 ≤ 9223372036854775807; omega)
        have hos2 : (o ++ (⟨#[32]⟩ : ByteArray)).size ≤ 241 := by rw [ByteArray.size_append]; show o.size + 1 ≤ 241; omega
        have hadd2 : ∀ W : World, (Op.stringOp .add (o ++ ⟨#[32]⟩) nm).run Tryd.prog W = .ok (.string (jns (gnw xs gs (j + 1)))) W := fun W => by
          rw [← HO.out]
          exact run_string_add_sum W _ _ (by show (o ++ (⟨#[32]⟩ : ByteArray)).size + nm.size ≤ 9223372036854775807; omega)
        obtain ⟨o2, ho2⟩ : ∃ o2, jns (gnw xs gs (j + 1)) = o2 := ⟨_, rfl⟩
        rw [ho2] at hadd2
        have HO2 := Lib.hid ho2
        clear ho2 HO
        generalize o ++ (⟨#[32]⟩ : ByteArray) = o1 at hadd1 hadd2 hos2
        clear HX1 hjw hln hj0
        go_wp2_with (fail)
        (go_at_call 89; refine (KV.out _ (HH.out.below hb (.inr (Nat.le_refl _))) (HK.out.below hb (.inr (Nat.le_refl _)))).mono ?_; rintro e w1 ⟨rfl, hb1⟩)
        have hbw := bl_step hb hb1
        have hbw1 : b < w1.heap.size := Nat.lt_of_lt_of_le hbs hbw.size
        have hzw := hbw.size
        have y1 := (hbw.cell (p := ⟨b, j * 2, none⟩) hbs).trans z1
        have y2 := (hbw.cell (p := ⟨b, j * 2 + 1, none⟩) hbs).trans z2
        go_wp2_with (fail)
        (go_at_call 90; refine (HLB.out _ (HK.out.below hbw (.inr (Nat.le_refl _)))).mono ?_; rintro e wx ⟨rfl, rfl⟩)
        go_wp2
        go_region_with (go_at_call 91; refine (KN.out _ (HA.out.below (by (repeat' (first | (with_reducible assumption) | (with_reducible exact Below.refl _ _) | (with_reducible refine Below.alloc ?_ ?_ _) | (with_reducible refine Below.drew ?_) | (with_reducible refine bl_drewN ?_ _) | (with_reducible refine Below.setCell ?_ ?_ _) | (with_reducible refine bl_step ?_ (by assumption)) | go_size))))).mono ?_; rintro e w2 ⟨rfl, hb2⟩; obtain ⟨hc2, hf2, hz2⟩ := bl hb2; (try simp at hz2); have f1 : w2.cell? ⟨b, j * 2, none⟩ = some (.int .i64 (z : Int)) := (hc2 _ _ (by go_size)).trans (by go_simp); have f2 : w2.cell? ⟨b, j * 2 + 1, none⟩ = some (.bool bb) := (hc2 _ _ (by go_size)).trans (by go_simp); clear hc2 hf2)
        all_goals
          (try simp only [Act.put, List.getElem_toArray, List.getElem_cons_succ, List.getElem_cons_zero, List.setIfInBounds_toArray, List.set_cons_zero, List.set_cons_succ])
          go_wp2
          go_roundw
          case rel => exact ⟨j + 1, by omega, by go_num, by rw [HO2.out], by (repeat' (first | (with_reducible assumption) | (with_reducible exact Below.refl _ _) | (with_reducible refine Below.alloc ?_ ?_ _) | (with_reducible refine Below.drew ?_) | (with_reducible refine bl_drewN ?_ _) | (with_reducible refine Below.setCell ?_ ?_ _) | (with_reducible refine bl_step ?_ (by assumption)) | go_size))⟩
          case measure => simp [intOf]; omega
    · have hje : j = L := by omega
      subst hje
      go_wp2
      go_ret
      exact ⟨by rw [HG.out, HL.out]; rfl, hb⟩
end Go.Proofs.YtkjimilapgkajabDoor
