/-
  The draw of beats that are often those of an ordo.
-/
import Derived.Test.YthmkjdmjhngpjaaDrh
import Derived.Test.YthmkjdmjhngpjaaRo
namespace Go.Proofs.Ythmkjdmjhngpjaa
open Go.RowKit
set_option maxRecDepth 100000
set_option linter.unusedVariables false

/-- a row of integers with one of them turned -/
theorem irow_put {w : World} {lo hi : Nat} {v : Value} {xs : List Int} (h : IRow w lo hi v xs) {j : Nat} (hj : j < xs.length) :
    ∃ g cap, v = .slice (some ⟨g, 0, none⟩) xs.length cap ∧ lo ≤ g ∧ g < hi ∧ g < w.heap.size ∧ xs.length ≤ cap ∧ cap ≤ maxLen ∧ w.cell? ⟨g, j, none⟩ = some (.int .i64 (xs.getD j 0)) ∧ (∀ o, w.frozen? ⟨g, o, none⟩ = false) ∧
      ∀ (W : World) (z : Int), IRow W lo hi v xs → IRow (W.setCell ⟨g, j, none⟩ (.int .i64 z)) lo hi v (xs.set j z) := by
  rcases h.form with ⟨rfl, rfl⟩ | ⟨g, cap, cur, rfl, hg, hg2, hgs, hcap, hmax, hh, hsz, htk, hc, hfz⟩
  · simp at hj
  · refine ⟨g, cap, rfl, hg, hg2, hgs, hcap, hmax, hc j hj, hfz, fun W z hW => ?_⟩
    obtain ⟨⟨hl, h0 | ⟨g', cap', cur', hv, hg', hh', hn', hm', hs', ht'⟩⟩, hlt⟩ := hW
    · omega
    · injection hv with hv1 _ hv3
      injection hv1 with hv1
      injection hv1 with hv1
      subst hv1 hv3
      refine ⟨⟨by simp, .inr ⟨g, cap, cur'.setIfInBounds j (.int .i64 z), by simp, hg, by simp [World.setCell, Array.getElem?_modify, hh'], by simpa using hn', hm', by simpa using hs', ?_⟩⟩, hlt⟩
      rw [Nat.mul_one] at ht' ⊢
      rw [List.length_set, Array.toList_setIfInBounds, List.take_set, ht', List.map_set]

/-- a list of beats of a draw -/
def DrewBts (w : World) (e : Ending) (w' : World) : Prop :=
  ∃ (v : Value) (zs : List Int), e = .returned v ∧ IV w' v zs ∧ zs.length ≤ 12 ∧ Below w.heap.size w w'
set_option maxHeartbeats 4000000 in
theorem drawRhythmModes_any (a : Option Addr) (n cap : Nat) (w : World) (h : CodeAt w a n) (hc : n ≤ cap) (hcap : cap ≤ maxLen) :
    Calls Try.prog 18 #[.slice a n cap] w (DrewBts w) := by
  go_enter Try.func18, Try.ntmps18
  go_wp2_with (fail)
  (go_at_call 36; refine (open_any a n cap _ h hc hcap).mono ?_; rintro e w1 ⟨A, rfl, hr1, hb1, hs1⟩)
  go_wp2_with (fail)
  (go_at_call 37; refine (l92Foot_any w.heap.size A 0 (by omega) _ hr1).mono ?_; rintro e w2 ⟨k, rfl, h0, h9, hr2, hb2⟩)
  go_wp2_with (fail)
  (go_at_call 38; refine (pick_any 6 w.heap.size A 2 (by omega) (by omega) (by omega) _ hr2).mono ?_; rintro e w3 ⟨k2, rfl, h20, h21, hr3, hb3⟩)
  have hE := below_gb (below_gb hb1 hb2 (Nat.le_refl _)) hb3 (Nat.le_refl _)
  have HE := Lib.hid hE
  have HS3 := Lib.hid (hb3.size)
  have w62 : IntKind.i64.wrap (1 + k2) = 1 + k2 := IntWalk.i64_in _ (by omega)
  have HO := Lib.hid (fun w => sRhythmOrdo_any k (1 + k2) w)
  unfold Ordo2 at HO
  have hl12 := oLst_len (m := k) (n := 1 + k2)
  clear hr1 hb1 hr2 hb2 hb3 hE
  generalize oRst k (1 + k2) = R at HO
  generalize oOk k (1 + k2) = ok at HO
  generalize oLst k (1 + k2) = zs at HO hl12
  go_wp2_with (fail)
  (go_at_call 12; refine (HO.out _).mono ?_; rintro e w4 ⟨vo, rfl, ho, hb4⟩)
  have hB3 := hr3.lt
  have hA3 := hr3.ltA
  have hr4 : Rd w4 w.heap.size A 3 := hr3.below hb4
  have HE4 := Lib.hid (bl_step HE.out hb4)
  have HRW := Lib.hid ho
  obtain ⟨nn, hnn⟩ : ∃ q, zs.length = q := ⟨_, rfl⟩
  obtain ⟨ao, co, rfl⟩ := ho.sl hnn
  have HNN := Lib.hid hnn
  have hz4 := hb4.size
  have hz3 := HS3.out
  have hlo : w.heap.size < w3.heap.size := hB3
  rw [hnn] at hl12
  clear ho hb4 hnn hr3
  by_cases h0n : nn = 0
  · subst h0n
    have HV := Lib.hid HRW.out.view
    clear hr4
    go_wp2
    go_ret
    exact ⟨_, zs, rfl, HV.out, by have := HNN.out; omega, HE4.out⟩
  have g1 : decide (0 < nn) = true := decide_eq_true (by omega)
  have g2 : decide ((0 : Int) < (nn : Int)) = true := decide_eq_true (by omega)
  have g3 : 0 < nn := by omega
  have keepR : ∀ {W W' : World}, IRow W w3.heap.size w4.heap.size (.slice ao nn co) zs → W.grownBy W' (some w.heap.size) → IRow W' w3.heap.size w4.heap.size (.slice ao nn co) zs := fun {W W'} hR hg => hR.keep fun k h1 h2 h3 => hg.block k h1 (fun e => by injection e; omega)
  go_wp2_with (fail)
  (go_at_call 38; refine (pick_any 5 w.heap.size A 3 (by omega) (by omega) (by omega) _ hr4).mono ?_; rintro e w5 ⟨k5, rfl, h50, h51, hr5, hb5⟩)
  have HR5 := Lib.hid (keepR HRW.out hb5)
  have HE5 := Lib.hid (below_gb HE4.out hb5 (Nat.le_refl _))
  have hz5 := hb5.size
  clear hb5 hr4
  by_cases hk5 : k5 = 0
  case neg =>
    have e1 : (k5 == 0) = false := by simpa using hk5
    have HV := Lib.hid HR5.out.view
    clear hk5
    go_wp2
    go_ret
    exact ⟨_, zs, rfl, HV.out, by have := HNN.out; omega, HE5.out⟩
  subst hk5
  go_wp2_with (fail)
  (go_at_call 38; refine (pick_any (nn : Int) w.heap.size A 4 (by omega) (by omega) (by omega) _ hr5).mono ?_; rintro e w6 ⟨k6, rfl, h60, h61, hr6, hb6⟩)
  have HR6 := Lib.hid (keepR HR5.out hb6)
  have HE6 := Lib.hid (below_gb HE5.out hb6 (Nat.le_refl _))
  have hz6 := hb6.size
  clear hb6 hr5
  go_wp2_with (fail)
  (go_at_call 38; refine (pick_any 3 w.heap.size A 5 (by omega) (by omega) (by omega) _ hr6).mono ?_; rintro e w7 ⟨k7, rfl, h70, h71, hr7, hb7⟩)
  have HR7 := Lib.hid (keepR HR6.out hb7)
  have HE7 := Lib.hid (below_gb HE6.out hb7 (Nat.le_refl _))
  clear hb7 hr6 hr7
  obtain ⟨j, rfl⟩ : ∃ q : Nat, k6 = (q : Int) := ⟨k6.toNat, by omega⟩
  have hj : j < nn := by omega
  obtain ⟨g, cap2, hv, hg, hg2, hgs, hcp, hmx, hcell, hfz, hset⟩ := irow_put HR7.out (j := j) (by have := HNN.out; omega)
  injection hv with hv1 hv2 hv3
  subst hv1 hv3
  clear hv2
  have HX := Lib.hid (hset w7 (1 + k7) HR7.out)
  have hgw : w.heap.size ≤ g := by omega
  have HF := Lib.hid (HE7.out.setCell (p := ⟨g, j, none⟩) hgw (.int .i64 (1 + k7)))
  have wk7 : IntKind.i64.wrap (1 + k7) = 1 + k7 := IntWalk.i64_in _ (by omega)
  have hj0 : (0 : Int) ≤ (j : Int) := by omega
  have hj1 : (j : Int) < (nn : Int) := by omega
  clear hset h60 h61
  generalize zs.getD j 0 = zz at hcell
  go_wp2
  go_ret
  exact ⟨_, zs.set j (1 + k7), rfl, HX.out.view, by have := HNN.out; simp; omega, HF.out⟩
end Go.Proofs.Ythmkjdmjhngpjaa
