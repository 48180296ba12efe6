/-
  The command 'ordo', in the program.
-/
import Derived.Test.YtaelkgpebhdlhaaGreatDoorExe
import Derived.Test.YtaelkgpebhdlhaaGreatDoorExn
import Derived.Test.YtaelkgpebhdlhaaGreatDoorSv
import Derived.Test.YtaelkgpebhdlhaaGreatDoorRo
import Derived.Deep.RegionHeld3
namespace Go.Proofs.YtaelkgpebhdlhaaGreatDoor
open Go.RowKit
set_option maxRecDepth 100000
set_option linter.unusedVariables false

/-- what 'ordo' prints -/
def ordT (a b : Int) : ByteArray := wnb ⟨#[111, 114, 100, 111]⟩ (oLst a b) ++ ⟨#[32, 114, 101, 115, 116, 32]⟩ ++ itb (oRst a b)

set_option maxHeartbeats 4000000 in
theorem ordo_any (D : Addr) (u : Value) (x y : ByteArray) (w : World) (h : SV w u [x, y]) :
    Calls Tryz.prog 154 #[.pointer (some D), u] w fun e w' => e = .returned (.tuple #[.string (ordT (num x.data.toList) (num y.data.toList)), .bool (oOk (num x.data.toList) (num y.data.toList))]) ∧ Below w.heap.size w w' := by
  obtain ⟨a, c, rfl, ha, hc1, hc2⟩ := h
  unfold maxLen at hc2
  rcases ha with h0 | ⟨A, off, rfl, hA, hcz⟩
  · cases h0
  have d0 := hcz 0 x rfl
  have d1 := hcz 1 y rfl
  rw [Nat.add_zero] at d0
  have HX := Lib.hid (numberOf_any x)
  have HY := Lib.hid (numberOf_any y)
  generalize num x.data.toList = p at HX ⊢
  generalize num y.data.toList = q at HY ⊢
  have HR := Lib.hid (rhythmOrdo_any p q)
  unfold Ordo2 at HR
  have hbd := oRst_in (m := p) (n := q)
  have hll := oLst_len (m := p) (n := q)
  have hbz := fun z hz => oLst_in (m := p) (n := q) (z := z) hz
  have HT : Hid (ordT p q = wnb ⟨#[111, 114, 100, 111]⟩ (oLst p q) ++ ⟨#[32, 114, 101, 115, 116, 32]⟩ ++ itb (oRst p q)) := rfl
  generalize ordT p q = tt at HT ⊢
  generalize oLst p q = zs at HR HT hll hbz
  generalize oRst p q = rr at HR HT hbd
  generalize oOk p q = ok at HR ⊢
  obtain ⟨r, rfl⟩ : ∃ r : Nat, rr = (r : Int) := ⟨rr.toNat, by omega⟩
  have hsz : ∀ z ∈ zs, (itb z).size ≤ 30 := fun z hz => by
    obtain ⟨k, rfl⟩ : ∃ k : Nat, z = (k : Int) := ⟨z.toNat, by have := hbz z hz; omega⟩
    have := itb_small (i := k) (by have := hbz _ hz; omega)
    omega
  have HIT : Hid (∀ z ∈ zs, ∀ W, Calls Tryz.prog 86 #[.int .i64 z] W fun e w' => e = .returned (.string (itb z)) ∧ Below W.heap.size W w') := fun z hz W => by
    obtain ⟨k, rfl⟩ : ∃ k : Nat, z = (k : Int) := ⟨z.toNat, by have := hbz z hz; omega⟩
    exact (itoaS k (by have := hbz _ hz; omega) W).mono fun e w' ⟨h1, h2⟩ => ⟨h1, by rw [h2]; exact Below.refl _ _⟩
  have HRI := Lib.hid (itoaS r (by omega))
  have hsr := itb_small (i := r) (by omega)
  have hsw := wnb_size (t := ⟨#[111, 114, 100, 111]⟩) hsz zs.length
  rw [List.take_length] at hsw
  have HSZ := Lib.hid hsz
  have hs4 : (⟨#[111, 114, 100, 111]⟩ : ByteArray).size = 4 := rfl
  rw [hs4] at hsw
  generalize hwn : wnb ⟨#[111, 114, 100, 111]⟩ zs = wn at HT hsw
  have HWN := Lib.hid hwn
  have a1 : ∀ W : World, (Op.stringOp .add wn ⟨#[32, 114, 101, 115, 116, 32]⟩).run Tryz.prog W = .ok (.string (wn ++ ⟨#[32, 114, 101, 115, 116, 32]⟩)) W := fun W => run_string_add_sum W _ _ (by show wn.size + 6 ≤ _; omega)
  have z1 : (wn ++ (⟨#[32, 114, 101, 115, 116, 32]⟩ : ByteArray)).size ≤ 1000 := by rw [ByteArray.size_append]; show wn.size + 6 ≤ _; omega
  generalize wn ++ (⟨#[32, 114, 101, 115, 116, 32]⟩ : ByteArray) = p1 at a1 z1 HT
  have a2 : ∀ W : World, (Op.stringOp .add p1 (itb (r : Int))).run Tryz.prog W = .ok (.string (p1 ++ itb (r : Int))) W := fun W => run_string_add_sum W _ _ (by omega)
  clear hcz hbz hsz hwn z1 hsr hsw hs4
  go_enter Tryz.func154, Tryz.ntmps154
  go_wp2
  go_region_held3 (fun wx => wx.cell? ⟨A, off, none⟩ = some (.string x) ∧ wx.cell? ⟨A, off + 1, none⟩ = some (.string y)) (go_keep)
    (first | (go_at_call_of 176 (Value.string x); refine (HX.out _).mono ?_; rintro e wx ⟨rfl, rfl⟩) | (go_at_call 176; refine (HY.out _).mono ?_; rintro e wy ⟨rfl, rfl⟩) | (go_at_call 34; refine (HR.out _).mono ?_; rintro e w1 ⟨v, rfl, hv, hb1⟩; have f0 := (hb1.cell (p := ⟨A, off, none⟩) hA).trans d0; have f1 := (hb1.cell (p := ⟨A, off + 1, none⟩) hA).trans d1))
  have HB1 := Lib.hid (bl_step (Below.refl _ _).drew hb1)
  have hwnc := withNumbers_any ⟨#[111, 114, 100, 111]⟩ v zs w1 hv.view (by show 4 + zs.length * 40 ≤ _; omega) HSZ.out (fun z hz W _ => HIT.out z hz W)
  rw [HWN.out] at hwnc
  have HWC := Lib.hid hwnc
  clear hv hb1 f0 f1 d0 d1 hwnc
  go_wp2_with (fail)
  (go_at_call 177; refine (HWC.out).mono ?_; rintro e w2 ⟨rfl, hb2⟩)
  have HB2 := Lib.hid (bl_step HB1.out hb2)
  clear hb2
  go_wp2_with (fail)
  (go_at_call 86; refine (HRI.out _).mono ?_; rintro e w3 ⟨rfl, rfl⟩)
  go_wp2
  go_ret2
  exact ⟨by rw [HT.out]; rfl, HB2.out⟩
end Go.Proofs.YtaelkgpebhdlhaaGreatDoor
