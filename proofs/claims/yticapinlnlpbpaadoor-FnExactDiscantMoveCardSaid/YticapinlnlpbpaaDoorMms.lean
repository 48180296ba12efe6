/-
  MelodyMove in the model.
-/
import Derived.Test.YticapinlnlpbpaaDoorMmi
import Derived.Deep.RegionHeld3
namespace Go.Proofs.YticapinlnlpbpaaDoor
open Go.RowKit
set_option maxRecDepth 100000
set_option linter.unusedVariables false

theorem abv_in {s k : Int} {b c : Bool} (hv : vd s b = true) (h0 : -20 ≤ k) (h1 : k ≤ 20) : abv s b k c = vd (s + k) c := by simp [abv, hv, h0, h1]
/-- the tones that have been moved -/
def MdInv (w wr : World) (v : Value) (ys : List (Int × Bool)) : Prop :=
  wr.ownsRow w.heap.size 41 2 v ys.length (tcs ys) ∧ Below w.heap.size w wr
theorem MdInv.app {w wr w2 : World} {v v' : Value} {ys : List (Int × Bool)} {t : Int × Bool} {o : Obj} (h : MdInv w wr v ys)
    (hown : w2.ownsRow w.heap.size 41 2 v' (ys.length + 1) (tcs ys ++ [.int .i64 t.1, .bool t.2])) (hg : (wr.alloc o).grownBy w2 v.ownBlock) : MdInv w w2 v' (ys ++ [t]) := by
  refine ⟨?_, (h.2.alloc h.2.size o).grown hg (by have := h.2.size; simp; omega) (fun k hk => (h.1.lt k hk).1)⟩
  rw [tcs_app]
  simpa [tcs] using hown
theorem MdInv.below {w wr w1 : World} {v : Value} {ys : List (Int × Bool)} (h : MdInv w wr v ys) (hb : Below wr.heap.size wr w1) : MdInv w w1 v ys := ⟨tbelow h.1 hb, bl_step h.2 hb⟩
theorem MdInv.drew {w wr : World} {v : Value} {ys : List (Int × Bool)} (h : MdInv w wr v ys) : MdInv w wr.drew v ys := ⟨h.1.drew, h.2.drew⟩
theorem MdInv.start (w : World) : MdInv w (w.alloc (.cells #[] 41)) (.slice (some ⟨w.heap.size, 0, none⟩) 0 0) [] :=
  ⟨⟨rfl, .inr ⟨w.heap.size, 0, #[], rfl, Nat.le_refl _, heap_alloc_new w _, by simp, by simp [maxLen], by simp, by simp [tcs]⟩⟩, (Below.refl _ _).alloc (Nat.le_refl _) _⟩
theorem MdInv.built {w wr : World} {v : Value} {ys : List (Int × Bool)} (h : MdInv w wr v ys) : TBuilt2 w ys true (.returned (.tuple #[v, .bool true])) wr :=
  ⟨v, rfl, ⟨h.1, fun g hg => (h.1.lt g hg).2⟩, h.2⟩
theorem take_all {f : Int × Bool → Bool} {xs : List (Int × Bool)} {j : Nat} {t : Int × Bool} (hx : xs[j]? = some t) (h : (xs.take j).all f = true) (ht : f t = true) : (xs.take (j + 1)).all f = true := by
  rw [List.take_add_one, hx, List.all_append, h]; simp [ht]
theorem take_map {f : Int × Bool → Int × Bool} {xs : List (Int × Bool)} {j : Nat} {t : Int × Bool} (hx : xs[j]? = some t) : (xs.take (j + 1)).map f = (xs.take j).map f ++ [f t] := by
  rw [List.take_add_one, hx]; simp
theorem all_miss {f : Int × Bool → Bool} {xs : List (Int × Bool)} {j : Nat} {t : Int × Bool} (hx : xs[j]? = some t) (ht : f t = false) : xs.all f = false := by
  rw [List.all_eq_false]; exact ⟨t, List.mem_of_getElem? hx, by simp [ht]⟩
/-- the state of the inner loop -/
def MiInv (w wr : World) (v : Value) (ys : List (Int × Bool)) (k z : Int) (t : Int × Bool) (c : Int) (fd : Bool) : Prop :=
  (c = 0 ∧ fd = false ∧ MdInv w wr v ys) ∨ (c = 1 ∧ fd = false ∧ cnd k z false t = false ∧ MdInv w wr v ys) ∨ (c = 2 ∧ fd = false ∧ cnd k z false t = false ∧ cnd k z true t = false ∧ MdInv w wr v ys) ∨
    ((c = 1 ∨ c = 2) ∧ fd = true ∧ tmo k z t = true ∧ MdInv w wr v (ys ++ [tmv k z t]))
theorem tmv_hit {k z : Int} {c : Bool} {t : Int × Bool} (h : tmr k z t = (t.1 + k, c)) (h' : tmo k z t = true) : tmv k z t = (t.1 + k, c) := by
  unfold tmr at h; rw [if_pos h'] at h; exact h

/-- the moved list, none if some tone has none -/
def moL (k z : Int) (xs : List (Int × Bool)) : List (Int × Bool) := if xs.all (tmo k z) then xs.map (tmv k z) else []
theorem moL_yes {k z : Int} {xs : List (Int × Bool)} (h : xs.all (tmo k z) = true) : moL k z xs = xs.map (tmv k z) := by unfold moL; rw [h]; rfl
theorem moL_no {k z : Int} {xs : List (Int × Bool)} (h : xs.all (tmo k z) = false) : moL k z xs = [] := by unfold moL; rw [h]; rfl

set_option maxHeartbeats 16000000 in
theorem sMoved_any (lo hi : Nat) (v : Value) (xs : List (Int × Bool)) (k z : Int) (hk0 : -20 ≤ k) (hk1 : k ≤ 20) (hx : xs.all (fun t => vd t.1 t.2) = true) (hn : xs.length ≤ 24) (w : World) (h : TRow w lo hi v xs) :
    Calls Tryd.prog 87 #[v, .int .i64 k, .int .i64 z] w (TBuilt2 w (moL k z xs) (xs.all (tmo k z))) := by
  obtain ⟨i0, hi, hq0, hq1, hq2⟩ := info_parts infoTone
  have HS := Lib.hid (MdInv.start w)
  rcases h.form with ⟨rfl, rfl⟩ | ⟨g, cap, rfl, hg, hg2, hgs, hcap, hmax, hc⟩
  · have HE : Hid (TBuilt2 w (moL k z []) (([] : List (Int × Bool)).all (tmo k z)) (.returned (.tuple #[.slice (some ⟨w.heap.size, 0, none⟩) 0 0, .bool true])) (w.alloc (.cells #[] 41))) := HS.out.built
    clear h hx
    go_enter Tryd.func87, Tryd.ntmps87
    go_wp2
    go_rounds 1
    go_ret2
    exact HE.out
  have HC := Lib.hid hc
  have HV := Lib.hid hx
  have HY : Hid (xs.all (tmo k z) = true → ∀ wr v, MdInv w wr v (xs.map (tmv k z)) → TBuilt2 w (moL k z xs) (xs.all (tmo k z)) (.returned (.tuple #[v, .bool true])) wr) := by
    intro ha wr v hI
    rw [moL_yes ha, ha]
    exact hI.built
  have HN : Hid (xs.all (tmo k z) = false → ∀ w1, Below w.heap.size w w1 → TBuilt2 w (moL k z xs) (xs.all (tmo k z)) (.returned (.tuple #[.slice (some ⟨w1.heap.size, 0, none⟩) 0 0, .bool false])) (w1.alloc (.cells #[] 41))) := by
    intro ha w1 hb
    rw [moL_no ha, ha]
    exact empty_built2 hb
  clear h hc hx hmax
  go_enter Tryd.func87, Tryd.ntmps87
  go_wp2
  go_loopw [8, 9] (fun v i wr => ∃ j : Nat, j ≤ xs.length ∧ i = .int .i64 j ∧ (xs.take j).all (tmo k z) = true ∧ MdInv w wr v ((xs.take j).map (tmv k z))) (fun _ i _ => xs.length - (intOf i).toNat)
  case atStart => exact ⟨0, Nat.zero_le _, rfl, rfl, HS.out⟩
  case round =>
    obtain ⟨j, hj, rfl, ha, hI⟩ := hrel
    clear HS
    by_cases hlt : j < xs.length
    · have ht : xs[j]? = some xs[j] := List.getElem?_eq_getElem hlt
      have hvt := List.all_eq_true.1 HV.out _ (List.mem_of_getElem? ht)
      obtain ⟨a1, a2⟩ := HC.out j _ ht
      have HAA := Lib.hid (fun hh => take_all ht ha hh)
      have HMM := Lib.hid (take_map (f := tmv k z) ht)
      have HMI := Lib.hid (fun hh => all_miss (f := tmo k z) ht hh)
      have hln : ((xs.take j).map (tmv k z)).length ≤ 24 := by rw [List.length_map, List.length_take]; omega
      have hj0 : (0 : Int) ≤ (j : Int) := by omega
      have hj1 : (j : Int) < (xs.length : Int) := by omega
      have HI := Lib.hid hI
      clear ht ha hI
      generalize xs[j] = t at hvt a1 a2 HAA HMM HMI
      generalize (xs.take j).map (tmv k z) = ys at HMM hln HI
      obtain ⟨s, b⟩ := t
      have hvt : vd s b = true := hvt
      obtain ⟨v0, v1⟩ := vd_in hvt
      obtain ⟨g0, g1⟩ := hgt_bd (b := b) v0 v1
      have hab : ∀ c, abv s b k c = vd (s + k) c := fun c => abv_in hvt hk0 hk1
      have HAB := Lib.hid hab
      have sk : IntKind.i64.wrap (s + k) = s + k := IntWalk.i64_in _ (by omega)
      clear hab hvt
      go_wp2
      go_loopw [8, 10, 11] (fun v f c wr' => ∃ (ci : Int) (fd : Bool), c = .int .i64 ci ∧ f = .bool fd ∧ MiInv w wr' v ys k z (s, b) ci fd) (fun _ _ c _ => 2 - (intOf c).toNat)
      case atStart => exact ⟨0, false, rfl, rfl, .inl ⟨rfl, rfl, HI.out⟩⟩
      case round =>
        obtain ⟨ci, fd, rfl, rfl, hm⟩ := hrel
        rcases hm with ⟨rfl, rfl, hM⟩ | ⟨rfl, rfl, hm0, hM⟩ | ⟨rfl, rfl, hm0, hm1, hM⟩ | ⟨hcc, rfl, hto, hM⟩
        · by_cases hA : vd (s + k) false = false
          · have HA := Lib.hid hA
            have HM := Lib.hid hM
            have e1 := (hM.2.cell (p := ⟨g, j * 2, none⟩) hgs).trans a1
            have e2 := (hM.2.cell (p := ⟨g, j * 2 + 1, none⟩) hgs).trans a2
            have hgs1 : g < wr.heap.size := Nat.lt_of_lt_of_le hgs hM.2.size
            clear hM a1 a2
            go_wp2
            obtain ⟨W, hW⟩ : ∃ W, W = wr.alloc (.cells #[.int .i64 (s + k), .bool false] 41) := ⟨_, rfl⟩
            have f0 : W.cell? ⟨wr.heap.size, 0, none⟩ = some (.int .i64 (s + k)) := by rw [hW]; go_simp
            have f1 : W.cell? ⟨wr.heap.size, 1, none⟩ = some (.bool false) := by rw [hW]; go_simp
            have f2 : W.cell? ⟨g, j * 2, none⟩ = some (.int .i64 s) := by rw [hW, World.cell?_alloc_lt _ _ _ hgs1]; exact e1
            have f3 : W.cell? ⟨g, j * 2 + 1, none⟩ = some (.bool b) := by rw [hW, World.cell?_alloc_lt _ _ _ hgs1]; exact e2
            have HMW : Hid (MdInv w W u8 ys) := by rw [hW]; exact HM.out.below ((Below.refl _ _).alloc (Nat.le_refl _) _)
            have fz : wr.heap.size < W.heap.size := two_lt f0
            have fg : g < W.heap.size := World.block_lt_of_cell? W _ f2
            rw [← hW]
            clear hW e1 e2
            refine wp_region_held_drew (S := fun _ => True) (by kernel_rfl) trivial (fun hHeld => ?_)
            refine wpAnyH_ready (rs := [0]) (by kernel_rfl) (by simp) ?_
            refine AllReadyH.cons rfl (fun K hK => ?_) AllReadyH.nil
            go_simp
            refine hK.out _ _ trivial (fun hHeld => ?_)
            clear hK K
            try simp only [Act.put, List.getElem_toArray, List.getElem_cons_succ, List.getElem_cons_zero, List.setIfInBounds_toArray, List.set_cons_zero, List.set_cons_succ]
            refine wpAnyH_ready (rs := [1]) (by kernel_rfl) (by simp) ?_
            refine AllReadyH.cons rfl (fun K hK => ?_) AllReadyH.nil
            go_simp
            (go_at_call 84; refine (sToneValid_any _ _ _).mono ?_; rintro e w3 ⟨rfl, hb3⟩)
            have HM3 := Lib.hid (MdInv.below HMW.out.drew hb3)
            refine hK.out _ _ trivial (fun hHeld => ?_)
            clear hK K
            try simp only [Act.put, List.getElem_toArray, List.getElem_cons_succ, List.getElem_cons_zero, List.setIfInBounds_toArray, List.set_cons_zero, List.set_cons_succ]
            refine wpAnyH_take (i := 2) (v := .bool false) rfl (by kernel_rfl) (by kernel_rfl) (by kernel_rfl) (fun _ _ _ h => h) (Or.inl ⟨by kernel_rfl, fun w _ => ?y2⟩) trivial ?_
            case y2 => go_simp
            try simp only [Act.put, List.getElem_toArray, List.getElem_cons_succ, List.getElem_cons_zero, List.setIfInBounds_toArray, List.set_cons_zero, List.set_cons_succ]
            refine wpAnyH_take (i := 3) (v := undef) rfl (by kernel_rfl) (by kernel_rfl) (by kernel_rfl) (fun _ _ _ h => h) (Or.inr ⟨by kernel_rfl, rfl⟩) trivial ?_
            try simp only [Act.put, List.getElem_toArray, List.getElem_cons_succ, List.getElem_cons_zero, List.setIfInBounds_toArray, List.set_cons_zero, List.set_cons_succ]
            refine wpAnyH_take (i := 4) (v := undef) rfl (by kernel_rfl) (by kernel_rfl) (by kernel_rfl) (fun _ _ _ h => h) (Or.inr ⟨by kernel_rfl, rfl⟩) trivial ?_
            try simp only [Act.put, List.getElem_toArray, List.getElem_cons_succ, List.getElem_cons_zero, List.setIfInBounds_toArray, List.set_cons_zero, List.set_cons_succ]
            refine wpAnyH_take (i := 5) (v := undef) rfl (by kernel_rfl) (by kernel_rfl) (by kernel_rfl) (fun _ _ _ h => h) (Or.inr ⟨by kernel_rfl, rfl⟩) trivial ?_
            try simp only [Act.put, List.getElem_toArray, List.getElem_cons_succ, List.getElem_cons_zero, List.setIfInBounds_toArray, List.set_cons_zero, List.set_cons_succ]
            refine wpAnyH_take (i := 6) (v := undef) rfl (by kernel_rfl) (by kernel_rfl) (by kernel_rfl) (fun _ _ _ h => h) (Or.inr ⟨by kernel_rfl, rfl⟩) trivial ?_
            try simp only [Act.put, List.getElem_toArray, List.getElem_cons_succ, List.getElem_cons_zero, List.setIfInBounds_toArray, List.set_cons_zero, List.set_cons_succ]
            refine wpAnyH_take (i := 7) (v := undef) rfl (by kernel_rfl) (by kernel_rfl) (by kernel_rfl) (fun _ _ _ h => h) (Or.inr ⟨by kernel_rfl, rfl⟩) trivial ?_
            try simp only [Act.put, List.getElem_toArray, List.getElem_cons_succ, List.getElem_cons_zero, List.setIfInBounds_toArray, List.set_cons_zero, List.set_cons_succ]
            refine wpAnyH_take (i := 8) (v := undef) rfl (by kernel_rfl) (by kernel_rfl) (by kernel_rfl) (fun _ _ _ h => h) (Or.inr ⟨by kernel_rfl, rfl⟩) trivial ?_
            try simp only [Act.put, List.getElem_toArray, List.getElem_cons_succ, List.getElem_cons_zero, List.setIfInBounds_toArray, List.set_cons_zero, List.set_cons_succ]
            refine wpAnyH_take (i := 9) (v := undef) rfl (by kernel_rfl) (by kernel_rfl) (by kernel_rfl) (fun _ _ _ h => h) (Or.inr ⟨by kernel_rfl, rfl⟩) trivial ?_
            try simp only [Act.put, List.getElem_toArray, List.getElem_cons_succ, List.getElem_cons_zero, List.setIfInBounds_toArray, List.set_cons_zero, List.set_cons_succ]
            refine wpAnyH_take (i := 10) (v := undef) rfl (by kernel_rfl) (by kernel_rfl) (by kernel_rfl) (fun _ _ _ h => h) (Or.inr ⟨by kernel_rfl, rfl⟩) trivial ?_
            try simp only [Act.put, List.getElem_toArray, List.getElem_cons_succ, List.getElem_cons_zero, List.setIfInBounds_toArray, List.set_cons_zero, List.set_cons_succ]
            refine wpAnyH_take (i := 11) (v := undef) rfl (by kernel_rfl) (by kernel_rfl) (by kernel_rfl) (fun _ _ _ h => h) (Or.inr ⟨by kernel_rfl, rfl⟩) trivial ?_
            try simp only [Act.put, List.getElem_toArray, List.getElem_cons_succ, List.getElem_cons_zero, List.setIfInBounds_toArray, List.set_cons_zero, List.set_cons_succ]
            refine wpAnyH_take (i := 12) (v := undef) rfl (by kernel_rfl) (by kernel_rfl) (by kernel_rfl) (fun _ _ _ h => h) (Or.inr ⟨by kernel_rfl, rfl⟩) trivial ?_
            try simp only [Act.put, List.getElem_toArray, List.getElem_cons_succ, List.getElem_cons_zero, List.setIfInBounds_toArray, List.set_cons_zero, List.set_cons_succ]
            refine wpAnyH_take (i := 13) (v := .bool false) rfl (by kernel_rfl) (by kernel_rfl) (by kernel_rfl) (fun _ _ _ h => h) (Or.inl ⟨by kernel_rfl, fun w _ => ?y13⟩) trivial ?_
            case y13 => go_simp
            try simp only [Act.put, List.getElem_toArray, List.getElem_cons_succ, List.getElem_cons_zero, List.setIfInBounds_toArray, List.set_cons_zero, List.set_cons_succ]
            refine wpAnyH_done (by kernel_rfl) ?_ _
            clear f0 f1 f2 f3 hHeld
            go_wp2
            go_roundw
            case rel => exact ⟨1, false, rfl, rfl, .inr (.inl ⟨rfl, rfl, cnd_no1 (t := (s, b)) ((HAB.out false).trans HA.out), HM3.out⟩)⟩
            case measure => simp [intOf]
          rw [Bool.not_eq_false] at hA
          obtain ⟨u0, u1⟩ := vd_in hA
          obtain ⟨g2, g3⟩ := hgt_bd (b := false) u0 u1
          have sw : IntKind.i64.wrap (hgt (s + k) false - hgt s b) = hgt (s + k) false - hgt s b := IntWalk.i64_in _ (by omega)
          by_cases hG : (hgt (s + k) false - hgt s b == z) = true
          · have HH := Lib.hid (tmo_hit0 (cnd_yes (t := (s, b)) ((HAB.out false).trans hA) hG))
            have HM := Lib.hid hM
            have e1 := (hM.2.cell (p := ⟨g, j * 2, none⟩) hgs).trans a1
            have e2 := (hM.2.cell (p := ⟨g, j * 2 + 1, none⟩) hgs).trans a2
            have hgs1 : g < wr.heap.size := Nat.lt_of_lt_of_le hgs hM.2.size
            clear hM a1 a2
            go_wp2
            obtain ⟨W, hW⟩ : ∃ W, W = wr.alloc (.cells #[.int .i64 (s + k), .bool false] 41) := ⟨_, rfl⟩
            have f0 : W.cell? ⟨wr.heap.size, 0, none⟩ = some (.int .i64 (s + k)) := by rw [hW]; go_simp
            have f1 : W.cell? ⟨wr.heap.size, 1, none⟩ = some (.bool false) := by rw [hW]; go_simp
            have f2 : W.cell? ⟨g, j * 2, none⟩ = some (.int .i64 s) := by rw [hW, World.cell?_alloc_lt _ _ _ hgs1]; exact e1
            have f3 : W.cell? ⟨g, j * 2 + 1, none⟩ = some (.bool b) := by rw [hW, World.cell?_alloc_lt _ _ _ hgs1]; exact e2
            have HMW : Hid (MdInv w W u8 ys) := by rw [hW]; exact HM.out.below ((Below.refl _ _).alloc (Nat.le_refl _) _)
            have fz : wr.heap.size < W.heap.size := two_lt f0
            have fg : g < W.heap.size := World.block_lt_of_cell? W _ f2
            rw [← hW]
            clear hW e1 e2
            go_region_held3 (fun wx => wx.cell? ⟨wr.heap.size, 0, none⟩ = some (.int .i64 (s + k)) ∧ wx.cell? ⟨wr.heap.size, 1, none⟩ = some (.bool false) ∧ wx.cell? ⟨g, j * 2, none⟩ = some (.int .i64 s) ∧ wx.cell? ⟨g, j * 2 + 1, none⟩ = some (.bool b)) (go_keep)
              (first | (go_at_call 84; refine (sToneValid_any _ _ _).mono ?_; rintro e w3 ⟨rfl, hb3⟩; have c3a := (hb3.cell (p := ⟨wr.heap.size, 0, none⟩) fz).trans f0; have c3b := (hb3.cell (p := ⟨wr.heap.size, 1, none⟩) fz).trans f1; have c3c := (hb3.cell (p := ⟨g, j * 2, none⟩) fg).trans f2; have c3d := (hb3.cell (p := ⟨g, j * 2 + 1, none⟩) fg).trans f3; have fz3 := Nat.lt_of_lt_of_le fz hb3.size; have fg3 := Nat.lt_of_lt_of_le fg hb3.size; have HM3 := Lib.hid (MdInv.below HMW.out.drew hb3)) | (go_at_call_of 88 (Value.agg #[Value.int .i64 (s + k), Value.bool false]); refine (l1Height_any _ _ u0 u1 _).mono ?_; rintro e w4 ⟨rfl, hb4⟩; have c4a := (hb4.cell (p := ⟨wr.heap.size, 0, none⟩) fz3).trans c3a; have c4b := (hb4.cell (p := ⟨wr.heap.size, 1, none⟩) fz3).trans c3b; have c4c := (hb4.cell (p := ⟨g, j * 2, none⟩) fg3).trans c3c; have c4d := (hb4.cell (p := ⟨g, j * 2 + 1, none⟩) fg3).trans c3d; have fz4 := Nat.lt_of_lt_of_le fz3 hb4.size; have fg4 := Nat.lt_of_lt_of_le fg3 hb4.size; have HM4 := Lib.hid (HM3.out.below hb4)) | (go_at_call 88; refine (l1Height_any _ _ v0 v1 _).mono ?_; rintro e w5 ⟨rfl, hb5⟩; have c5a := (hb5.cell (p := ⟨wr.heap.size, 0, none⟩) fz4).trans c4a; have c5b := (hb5.cell (p := ⟨wr.heap.size, 1, none⟩) fz4).trans c4b; have c5c := (hb5.cell (p := ⟨g, j * 2, none⟩) fg4).trans c4c; have c5d := (hb5.cell (p := ⟨g, j * 2 + 1, none⟩) fg4).trans c4d; have fz5 := Nat.lt_of_lt_of_le fz4 hb5.size; have fg5 := Nat.lt_of_lt_of_le fg4 hb5.size; have HM5 := Lib.hid (HM4.out.below hb5)))
            have hown := HM5.out.1
            have hsz := HM5.out.2.size
            go_wp2_with (at_builtin; refine wpList_append_own _ rfl _ _ 52 rfl w.heap.size 41 i0 (.agg #[.int .i64 0, .bool false]) 2 16 Tryd.underlying52 hi hq0 hq1 hq2 rfl (by decide) _ _ _ rfl (hown.alloc _) ⟨w5.heap.size, 0, none⟩ 1 1 [.int .i64 (s + k), .bool false] rfl rfl news2 news2_one (by unfold maxLen; omega) (by omega) (by simp; omega) ?_)
            intro v' w6 hown' hgrow _
            have HN6 : Hid (MdInv w w6 v' (ys ++ [tmv k z (s, b)])) := by
              rw [tmv_hit HH.out.2 HH.out.1]
              exact HM5.out.app (t := (s + k, false)) hown' hgrow
            clear hown hown' hgrow f0 f1 f2 f3 c3a c3b c3c c3d c4a c4b c4c c4d c5a c5b c5c c5d
            go_wp2
            go_roundw
            case rel => exact ⟨1, true, rfl, rfl, .inr (.inr (.inr ⟨.inl rfl, rfl, HH.out.1, HN6.out⟩))⟩
            case measure => simp [intOf]
          · rw [Bool.not_eq_true] at hG
            have HG := Lib.hid hG
            have HM := Lib.hid hM
            have e1 := (hM.2.cell (p := ⟨g, j * 2, none⟩) hgs).trans a1
            have e2 := (hM.2.cell (p := ⟨g, j * 2 + 1, none⟩) hgs).trans a2
            have hgs1 : g < wr.heap.size := Nat.lt_of_lt_of_le hgs hM.2.size
            clear hM a1 a2
            go_wp2
            obtain ⟨W, hW⟩ : ∃ W, W = wr.alloc (.cells #[.int .i64 (s + k), .bool false] 41) := ⟨_, rfl⟩
            have f0 : W.cell? ⟨wr.heap.size, 0, none⟩ = some (.int .i64 (s + k)) := by rw [hW]; go_simp
            have f1 : W.cell? ⟨wr.heap.size, 1, none⟩ = some (.bool false) := by rw [hW]; go_simp
            have f2 : W.cell? ⟨g, j * 2, none⟩ = some (.int .i64 s) := by rw [hW, World.cell?_alloc_lt _ _ _ hgs1]; exact e1
            have f3 : W.cell? ⟨g, j * 2 + 1, none⟩ = some (.bool b) := by rw [hW, World.cell?_alloc_lt _ _ _ hgs1]; exact e2
            have HMW : Hid (MdInv w W u8 ys) := by rw [hW]; exact HM.out.below ((Below.refl _ _).alloc (Nat.le_refl _) _)
            have fz : wr.heap.size < W.heap.size := two_lt f0
            have fg : g < W.heap.size := World.block_lt_of_cell? W _ f2
            rw [← hW]
            clear hW e1 e2
            go_region_held3 (fun wx => wx.cell? ⟨wr.heap.size, 0, none⟩ = some (.int .i64 (s + k)) ∧ wx.cell? ⟨wr.heap.size, 1, none⟩ = some (.bool false) ∧ wx.cell? ⟨g, j * 2, none⟩ = some (.int .i64 s) ∧ wx.cell? ⟨g, j * 2 + 1, none⟩ = some (.bool b)) (go_keep)
              (first | (go_at_call 84; refine (sToneValid_any _ _ _).mono ?_; rintro e w3 ⟨rfl, hb3⟩; have c3a := (hb3.cell (p := ⟨wr.heap.size, 0, none⟩) fz).trans f0; have c3b := (hb3.cell (p := ⟨wr.heap.size, 1, none⟩) fz).trans f1; have c3c := (hb3.cell (p := ⟨g, j * 2, none⟩) fg).trans f2; have c3d := (hb3.cell (p := ⟨g, j * 2 + 1, none⟩) fg).trans f3; have fz3 := Nat.lt_of_lt_of_le fz hb3.size; have fg3 := Nat.lt_of_lt_of_le fg hb3.size; have HM3 := Lib.hid (MdInv.below HMW.out.drew hb3)) | (go_at_call_of 88 (Value.agg #[Value.int .i64 (s + k), Value.bool false]); refine (l1Height_any _ _ u0 u1 _).mono ?_; rintro e w4 ⟨rfl, hb4⟩; have c4a := (hb4.cell (p := ⟨wr.heap.size, 0, none⟩) fz3).trans c3a; have c4b := (hb4.cell (p := ⟨wr.heap.size, 1, none⟩) fz3).trans c3b; have c4c := (hb4.cell (p := ⟨g, j * 2, none⟩) fg3).trans c3c; have c4d := (hb4.cell (p := ⟨g, j * 2 + 1, none⟩) fg3).trans c3d; have fz4 := Nat.lt_of_lt_of_le fz3 hb4.size; have fg4 := Nat.lt_of_lt_of_le fg3 hb4.size; have HM4 := Lib.hid (HM3.out.below hb4)) | (go_at_call 88; refine (l1Height_any _ _ v0 v1 _).mono ?_; rintro e w5 ⟨rfl, hb5⟩; have c5a := (hb5.cell (p := ⟨wr.heap.size, 0, none⟩) fz4).trans c4a; have c5b := (hb5.cell (p := ⟨wr.heap.size, 1, none⟩) fz4).trans c4b; have c5c := (hb5.cell (p := ⟨g, j * 2, none⟩) fg4).trans c4c; have c5d := (hb5.cell (p := ⟨g, j * 2 + 1, none⟩) fg4).trans c4d; have fz5 := Nat.lt_of_lt_of_le fz4 hb5.size; have fg5 := Nat.lt_of_lt_of_le fg4 hb5.size; have HM5 := Lib.hid (HM4.out.below hb5)))
            clear f0 f1 f2 f3 c3a c3b c3c c3d c4a c4b c4c c4d c5a c5b c5c c5d
            go_wp2
            go_roundw
            case rel => exact ⟨1, false, rfl, rfl, .inr (.inl ⟨rfl, rfl, cnd_no2 (t := (s, b)) HG.out, HM5.out⟩)⟩
            case measure => simp [intOf]
        · have HM0 := Lib.hid hm0
          clear hm0
          by_cases hA : vd (s + k) true = false
          · have HA := Lib.hid hA
            have HM := Lib.hid hM
            have e1 := (hM.2.cell (p := ⟨g, j * 2, none⟩) hgs).trans a1
            have e2 := (hM.2.cell (p := ⟨g, j * 2 + 1, none⟩) hgs).trans a2
            have hgs1 : g < wr.heap.size := Nat.lt_of_lt_of_le hgs hM.2.size
            clear hM a1 a2
            go_wp2
            obtain ⟨W, hW⟩ : ∃ W, W = wr.alloc (.cells #[.int .i64 (s + k), .bool true] 41) := ⟨_, rfl⟩
            have f0 : W.cell? ⟨wr.heap.size, 0, none⟩ = some (.int .i64 (s + k)) := by rw [hW]; go_simp
            have f1 : W.cell? ⟨wr.heap.size, 1, none⟩ = some (.bool true) := by rw [hW]; go_simp
            have f2 : W.cell? ⟨g, j * 2, none⟩ = some (.int .i64 s) := by rw [hW, World.cell?_alloc_lt _ _ _ hgs1]; exact e1
            have f3 : W.cell? ⟨g, j * 2 + 1, none⟩ = some (.bool b) := by rw [hW, World.cell?_alloc_lt _ _ _ hgs1]; exact e2
            have HMW : Hid (MdInv w W u8 ys) := by rw [hW]; exact HM.out.below ((Below.refl _ _).alloc (Nat.le_refl _) _)
            have fz : wr.heap.size < W.heap.size := two_lt f0
            have fg : g < W.heap.size := World.block_lt_of_cell? W _ f2
            rw [← hW]
            clear hW e1 e2
            refine wp_region_held_drew (S := fun _ => True) (by kernel_rfl) trivial (fun hHeld => ?_)
            refine wpAnyH_ready (rs := [0]) (by kernel_rfl) (by simp) ?_
            refine AllReadyH.cons rfl (fun K hK => ?_) AllReadyH.nil
            go_simp
            refine hK.out _ _ trivial (fun hHeld => ?_)
            clear hK K
            try simp only [Act.put, List.getElem_toArray, List.getElem_cons_succ, List.getElem_cons_zero, List.setIfInBounds_toArray, List.set_cons_zero, List.set_cons_succ]
            refine wpAnyH_ready (rs := [1]) (by kernel_rfl) (by simp) ?_
            refine AllReadyH.cons rfl (fun K hK => ?_) AllReadyH.nil
            go_simp
            (go_at_call 84; refine (sToneValid_any _ _ _).mono ?_; rintro e w3 ⟨rfl, hb3⟩)
            have HM3 := Lib.hid (MdInv.below HMW.out.drew hb3)
            refine hK.out _ _ trivial (fun hHeld => ?_)
            clear hK K
            try simp only [Act.put, List.getElem_toArray, List.getElem_cons_succ, List.getElem_cons_zero, List.setIfInBounds_toArray, List.set_cons_zero, List.set_cons_succ]
            refine wpAnyH_take (i := 2) (v := .bool false) rfl (by kernel_rfl) (by kernel_rfl) (by kernel_rfl) (fun _ _ _ h => h) (Or.inl ⟨by kernel_rfl, fun w _ => ?y2⟩) trivial ?_
            case y2 => go_simp
            try simp only [Act.put, List.getElem_toArray, List.getElem_cons_succ, List.getElem_cons_zero, List.setIfInBounds_toArray, List.set_cons_zero, List.set_cons_succ]
            refine wpAnyH_take (i := 3) (v := undef) rfl (by kernel_rfl) (by kernel_rfl) (by kernel_rfl) (fun _ _ _ h => h) (Or.inr ⟨by kernel_rfl, rfl⟩) trivial ?_
            try simp only [Act.put, List.getElem_toArray, List.getElem_cons_succ, List.getElem_cons_zero, List.setIfInBounds_toArray, List.set_cons_zero, List.set_cons_succ]
            refine wpAnyH_take (i := 4) (v := undef) rfl (by kernel_rfl) (by kernel_rfl) (by kernel_rfl) (fun _ _ _ h => h) (Or.inr ⟨by kernel_rfl, rfl⟩) trivial ?_
            try simp only [Act.put, List.getElem_toArray, List.getElem_cons_succ, List.getElem_cons_zero, List.setIfInBounds_toArray, List.set_cons_zero, List.set_cons_succ]
            refine wpAnyH_take (i := 5) (v := undef) rfl (by kernel_rfl) (by kernel_rfl) (by kernel_rfl) (fun _ _ _ h => h) (Or.inr ⟨by kernel_rfl, rfl⟩) trivial ?_
            try simp only [Act.put, List.getElem_toArray, List.getElem_cons_succ, List.getElem_cons_zero, List.setIfInBounds_toArray, List.set_cons_zero, List.set_cons_succ]
            refine wpAnyH_take (i := 6) (v := undef) rfl (by kernel_rfl) (by kernel_rfl) (by kernel_rfl) (fun _ _ _ h => h) (Or.inr ⟨by kernel_rfl, rfl⟩) trivial ?_
            try simp only [Act.put, List.getElem_toArray, List.getElem_cons_succ, List.getElem_cons_zero, List.setIfInBounds_toArray, List.set_cons_zero, List.set_cons_succ]
            refine wpAnyH_take (i := 7) (v := undef) rfl (by kernel_rfl) (by kernel_rfl) (by kernel_rfl) (fun _ _ _ h => h) (Or.inr ⟨by kernel_rfl, rfl⟩) trivial ?_
            try simp only [Act.put, List.getElem_toArray, List.getElem_cons_succ, List.getElem_cons_zero, List.setIfInBounds_toArray, List.set_cons_zero, List.set_cons_succ]
            refine wpAnyH_take (i := 8) (v := undef) rfl (by kernel_rfl) (by kernel_rfl) (by kernel_rfl) (fun _ _ _ h => h) (Or.inr ⟨by kernel_rfl, rfl⟩) trivial ?_
            try simp only [Act.put, List.getElem_toArray, List.getElem_cons_succ, List.getElem_cons_zero, List.setIfInBounds_toArray, List.set_cons_zero, List.set_cons_succ]
            refine wpAnyH_take (i := 9) (v := undef) rfl (by kernel_rfl) (by kernel_rfl) (by kernel_rfl) (fun _ _ _ h => h) (Or.inr ⟨by kernel_rfl, rfl⟩) trivial ?_
            try simp only [Act.put, List.getElem_toArray, List.getElem_cons_succ, List.getElem_cons_zero, List.setIfInBounds_toArray, List.set_cons_zero, List.set_cons_succ]
            refine wpAnyH_take (i := 10) (v := undef) rfl (by kernel_rfl) (by kernel_rfl) (by kernel_rfl) (fun _ _ _ h => h) (Or.inr ⟨by kernel_rfl, rfl⟩) trivial ?_
            try simp only [Act.put, List.getElem_toArray, List.getElem_cons_succ, List.getElem_cons_zero, List.setIfInBounds_toArray, List.set_cons_zero, List.set_cons_succ]
            refine wpAnyH_take (i := 11) (v := undef) rfl (by kernel_rfl) (by kernel_rfl) (by kernel_rfl) (fun _ _ _ h => h) (Or.inr ⟨by kernel_rfl, rfl⟩) trivial ?_
            try simp only [Act.put, List.getElem_toArray, List.getElem_cons_succ, List.getElem_cons_zero, List.setIfInBounds_toArray, List.set_cons_zero, List.set_cons_succ]
            refine wpAnyH_take (i := 12) (v := undef) rfl (by kernel_rfl) (by kernel_rfl) (by kernel_rfl) (fun _ _ _ h => h) (Or.inr ⟨by kernel_rfl, rfl⟩) trivial ?_
            try simp only [Act.put, List.getElem_toArray, List.getElem_cons_succ, List.getElem_cons_zero, List.setIfInBounds_toArray, List.set_cons_zero, List.set_cons_succ]
            refine wpAnyH_take (i := 13) (v := .bool false) rfl (by kernel_rfl) (by kernel_rfl) (by kernel_rfl) (fun _ _ _ h => h) (Or.inl ⟨by kernel_rfl, fun w _ => ?y13⟩) trivial ?_
            case y13 => go_simp
            try simp only [Act.put, List.getElem_toArray, List.getElem_cons_succ, List.getElem_cons_zero, List.setIfInBounds_toArray, List.set_cons_zero, List.set_cons_succ]
            refine wpAnyH_done (by kernel_rfl) ?_ _
            clear f0 f1 f2 f3 hHeld
            go_wp2
            go_roundw
            case rel => exact ⟨2, false, rfl, rfl, .inr (.inr (.inl ⟨rfl, rfl, HM0.out, cnd_no1 (t := (s, b)) ((HAB.out true).trans HA.out), HM3.out⟩))⟩
            case measure => simp [intOf]
          rw [Bool.not_eq_false] at hA
          obtain ⟨u0, u1⟩ := vd_in hA
          obtain ⟨g2, g3⟩ := hgt_bd (b := true) u0 u1
          have sw : IntKind.i64.wrap (hgt (s + k) true - hgt s b) = hgt (s + k) true - hgt s b := IntWalk.i64_in _ (by omega)
          by_cases hG : (hgt (s + k) true - hgt s b == z) = true
          · have HH := Lib.hid (tmo_hit1 HM0.out (cnd_yes (t := (s, b)) ((HAB.out true).trans hA) hG))
            have HM := Lib.hid hM
            have e1 := (hM.2.cell (p := ⟨g, j * 2, none⟩) hgs).trans a1
            have e2 := (hM.2.cell (p := ⟨g, j * 2 + 1, none⟩) hgs).trans a2
            have hgs1 : g < wr.heap.size := Nat.lt_of_lt_of_le hgs hM.2.size
            clear hM a1 a2
            go_wp2
            obtain ⟨W, hW⟩ : ∃ W, W = wr.alloc (.cells #[.int .i64 (s + k), .bool true] 41) := ⟨_, rfl⟩
            have f0 : W.cell? ⟨wr.heap.size, 0, none⟩ = some (.int .i64 (s + k)) := by rw [hW]; go_simp
            have f1 : W.cell? ⟨wr.heap.size, 1, none⟩ = some (.bool true) := by rw [hW]; go_simp
            have f2 : W.cell? ⟨g, j * 2, none⟩ = some (.int .i64 s) := by rw [hW, World.cell?_alloc_lt _ _ _ hgs1]; exact e1
            have f3 : W.cell? ⟨g, j * 2 + 1, none⟩ = some (.bool b) := by rw [hW, World.cell?_alloc_lt _ _ _ hgs1]; exact e2
            have HMW : Hid (MdInv w W u8 ys) := by rw [hW]; exact HM.out.below ((Below.refl _ _).alloc (Nat.le_refl _) _)
            have fz : wr.heap.size < W.heap.size := two_lt f0
            have fg : g < W.heap.size := World.block_lt_of_cell? W _ f2
            rw [← hW]
            clear hW e1 e2
            go_region_held3 (fun wx => wx.cell? ⟨wr.heap.size, 0, none⟩ = some (.int .i64 (s + k)) ∧ wx.cell? ⟨wr.heap.size, 1, none⟩ = some (.bool true) ∧ wx.cell? ⟨g, j * 2, none⟩ = some (.int .i64 s) ∧ wx.cell? ⟨g, j * 2 + 1, none⟩ = some (.bool b)) (go_keep)
              (first | (go_at_call 84; refine (sToneValid_any _ _ _).mono ?_; rintro e w3 ⟨rfl, hb3⟩; have c3a := (hb3.cell (p := ⟨wr.heap.size, 0, none⟩) fz).trans f0; have c3b := (hb3.cell (p := ⟨wr.heap.size, 1, none⟩) fz).trans f1; have c3c := (hb3.cell (p := ⟨g, j * 2, none⟩) fg).trans f2; have c3d := (hb3.cell (p := ⟨g, j * 2 + 1, none⟩) fg).trans f3; have fz3 := Nat.lt_of_lt_of_le fz hb3.size; have fg3 := Nat.lt_of_lt_of_le fg hb3.size; have HM3 := Lib.hid (MdInv.below HMW.out.drew hb3)) | (go_at_call_of 88 (Value.agg #[Value.int .i64 (s + k), Value.bool true]); refine (l1Height_any _ _ u0 u1 _).mono ?_; rintro e w4 ⟨rfl, hb4⟩; have c4a := (hb4.cell (p := ⟨wr.heap.size, 0, none⟩) fz3).trans c3a; have c4b := (hb4.cell (p := ⟨wr.heap.size, 1, none⟩) fz3).trans c3b; have c4c := (hb4.cell (p := ⟨g, j * 2, none⟩) fg3).trans c3c; have c4d := (hb4.cell (p := ⟨g, j * 2 + 1, none⟩) fg3).trans c3d; have fz4 := Nat.lt_of_lt_of_le fz3 hb4.size; have fg4 := Nat.lt_of_lt_of_le fg3 hb4.size; have HM4 := Lib.hid (HM3.out.below hb4)) | (go_at_call 88; refine (l1Height_any _ _ v0 v1 _).mono ?_; rintro e w5 ⟨rfl, hb5⟩; have c5a := (hb5.cell (p := ⟨wr.heap.size, 0, none⟩) fz4).trans c4a; have c5b := (hb5.cell (p := ⟨wr.heap.size, 1, none⟩) fz4).trans c4b; have c5c := (hb5.cell (p := ⟨g, j * 2, none⟩) fg4).trans c4c; have c5d := (hb5.cell (p := ⟨g, j * 2 + 1, none⟩) fg4).trans c4d; have fz5 := Nat.lt_of_lt_of_le fz4 hb5.size; have fg5 := Nat.lt_of_lt_of_le fg4 hb5.size; have HM5 := Lib.hid (HM4.out.below hb5)))
            have hown := HM5.out.1
            have hsz := HM5.out.2.size
            go_wp2_with (at_builtin; refine wpList_append_own _ rfl _ _ 52 rfl w.heap.size 41 i0 (.agg #[.int .i64 0, .bool false]) 2 16 Tryd.underlying52 hi hq0 hq1 hq2 rfl (by decide) _ _ _ rfl (hown.alloc _) ⟨w5.heap.size, 0, none⟩ 1 1 [.int .i64 (s + k), .bool true] rfl rfl news2 news2_one (by unfold maxLen; omega) (by omega) (by simp; omega) ?_)
            intro v' w6 hown' hgrow _
            have HN6 : Hid (MdInv w w6 v' (ys ++ [tmv k z (s, b)])) := by
              rw [tmv_hit HH.out.2 HH.out.1]
              exact HM5.out.app (t := (s + k, true)) hown' hgrow
            clear hown hown' hgrow f0 f1 f2 f3 c3a c3b c3c c3d c4a c4b c4c c4d c5a c5b c5c c5d
            go_wp2
            go_roundw
            case rel => exact ⟨2, true, rfl, rfl, .inr (.inr (.inr ⟨.inr rfl, rfl, HH.out.1, HN6.out⟩))⟩
            case measure => simp [intOf]
          · rw [Bool.not_eq_true] at hG
            have HG := Lib.hid hG
            have HM := Lib.hid hM
            have e1 := (hM.2.cell (p := ⟨g, j * 2, none⟩) hgs).trans a1
            have e2 := (hM.2.cell (p := ⟨g, j * 2 + 1, none⟩) hgs).trans a2
            have hgs1 : g < wr.heap.size := Nat.lt_of_lt_of_le hgs hM.2.size
            clear hM a1 a2
            go_wp2
            obtain ⟨W, hW⟩ : ∃ W, W = wr.alloc (.cells #[.int .i64 (s + k), .bool true] 41) := ⟨_, rfl⟩
            have f0 : W.cell? ⟨wr.heap.size, 0, none⟩ = some (.int .i64 (s + k)) := by rw [hW]; go_simp
            have f1 : W.cell? ⟨wr.heap.size, 1, none⟩ = some (.bool true) := by rw [hW]; go_simp
            have f2 : W.cell? ⟨g, j * 2, none⟩ = some (.int .i64 s) := by rw [hW, World.cell?_alloc_lt _ _ _ hgs1]; exact e1
            have f3 : W.cell? ⟨g, j * 2 + 1, none⟩ = some (.bool b) := by rw [hW, World.cell?_alloc_lt _ _ _ hgs1]; exact e2
            have HMW : Hid (MdInv w W u8 ys) := by rw [hW]; exact HM.out.below ((Below.refl _ _).alloc (Nat.le_refl _) _)
            have fz : wr.heap.size < W.heap.size := two_lt f0
            have fg : g < W.heap.size := World.block_lt_of_cell? W _ f2
            rw [← hW]
            clear hW e1 e2
            go_region_held3 (fun wx => wx.cell? ⟨wr.heap.size, 0, none⟩ = some (.int .i64 (s + k)) ∧ wx.cell? ⟨wr.heap.size, 1, none⟩ = some (.bool true) ∧ wx.cell? ⟨g, j * 2, none⟩ = some (.int .i64 s) ∧ wx.cell? ⟨g, j * 2 + 1, none⟩ = some (.bool b)) (go_keep)
              (first | (go_at_call 84; refine (sToneValid_any _ _ _).mono ?_; rintro e w3 ⟨rfl, hb3⟩; have c3a := (hb3.cell (p := ⟨wr.heap.size, 0, none⟩) fz).trans f0; have c3b := (hb3.cell (p := ⟨wr.heap.size, 1, none⟩) fz).trans f1; have c3c := (hb3.cell (p := ⟨g, j * 2, none⟩) fg).trans f2; have c3d := (hb3.cell (p := ⟨g, j * 2 + 1, none⟩) fg).trans f3; have fz3 := Nat.lt_of_lt_of_le fz hb3.size; have fg3 := Nat.lt_of_lt_of_le fg hb3.size; have HM3 := Lib.hid (MdInv.below HMW.out.drew hb3)) | (go_at_call_of 88 (Value.agg #[Value.int .i64 (s + k), Value.bool true]); refine (l1Height_any _ _ u0 u1 _).mono ?_; rintro e w4 ⟨rfl, hb4⟩; have c4a := (hb4.cell (p := ⟨wr.heap.size, 0, none⟩) fz3).trans c3a; have c4b := (hb4.cell (p := ⟨wr.heap.size, 1, none⟩) fz3).trans c3b; have c4c := (hb4.cell (p := ⟨g, j * 2, none⟩) fg3).trans c3c; have c4d := (hb4.cell (p := ⟨g, j * 2 + 1, none⟩) fg3).trans c3d; have fz4 := Nat.lt_of_lt_of_le fz3 hb4.size; have fg4 := Nat.lt_of_lt_of_le fg3 hb4.size; have HM4 := Lib.hid (HM3.out.below hb4)) | (go_at_call 88; refine (l1Height_any _ _ v0 v1 _).mono ?_; rintro e w5 ⟨rfl, hb5⟩; have c5a := (hb5.cell (p := ⟨wr.heap.size, 0, none⟩) fz4).trans c4a; have c5b := (hb5.cell (p := ⟨wr.heap.size, 1, none⟩) fz4).trans c4b; have c5c := (hb5.cell (p := ⟨g, j * 2, none⟩) fg4).trans c4c; have c5d := (hb5.cell (p := ⟨g, j * 2 + 1, none⟩) fg4).trans c4d; have fz5 := Nat.lt_of_lt_of_le fz4 hb5.size; have fg5 := Nat.lt_of_lt_of_le fg4 hb5.size; have HM5 := Lib.hid (HM4.out.below hb5)))
            clear f0 f1 f2 f3 c3a c3b c3c c3d c4a c4b c4c c4d c5a c5b c5c c5d
            go_wp2
            go_roundw
            case rel => exact ⟨2, false, rfl, rfl, .inr (.inr (.inl ⟨rfl, rfl, HM0.out, cnd_no2 (t := (s, b)) HG.out, HM5.out⟩))⟩
            case measure => simp [intOf]
        · have HF := Lib.hid (HN.out (HMI.out (tmo_miss hm0 hm1).1))
          have HM := Lib.hid hM.2
          clear hm0 hm1 hM a1 a2
          go_wp2
          go_ret2
          exact HF.out _ HM.out
        · have HM := Lib.hid hM
          have HT := Lib.hid (HAA.out hto)
          clear hto hM a1 a2
          rcases hcc with rfl | rfl
          all_goals
            go_wp2
            go_roundw
            case rel => exact ⟨j + 1, by omega, by go_num, HT.out, by rw [HMM.out]; exact HM.out⟩
            case measure => simp [intOf]; omega
    · have hje : j = xs.length := by omega
      subst hje
      rw [List.take_length] at ha hI
      have HF := Lib.hid (HY.out ha _ _ hI)
      clear ha hI
      go_wp2
      go_ret2
      exact HF.out
end Go.Proofs.YticapinlnlpbpaaDoor
