/-
  The law FnMelodyText: for every code, a melody is read back out of its text.
-/
import Derived.Test.YtjodcaeohkjlnaaDoorMfx
import Derived.Test.YtjodcaeohkjlnaaDoorMtx2
import Derived.Test.YtjodcaeohkjlnaaDoorFlat
import Derived.Test.YtjodcaeohkjlnaaDoorImf
import Derived.Test.YtjodcaeohkjlnaaDoorMelB
import Derived.Test.YtjodcaeohkjlnaaDoorSmT
import Derived.Test.YtjodcaeohkjlnaaDoorCode
import Derived.Test.YtjodcaeohkjlnaaDoorCards
import Derived.Test.YtjodcaeohkjlnaaDoorTie
import Derived.Deep.DeepHandedRow
import Derived.Deep.RegionWith
import Derived.OpenVars
namespace Go.Proofs.YtjodcaeohkjlnaaDoor
open Go.RowKit Go.ChangeShapes Go.WideShapes Go.ChangeAt
set_option maxRecDepth 100000
set_option linter.unusedVariables false

theorem mv_rev' {xs : List (Int × Bool)} (h : mv xs = true) : mv xs.reverse = true := by
  simp [mv, allv] at h ⊢; exact h

set_option maxHeartbeats 8000000 in
theorem fnMelodyText_walk (a : Option Addr) (n cap : Nat) (w : World) (h : CodeAt w a n) (hc : n ≤ cap) (hcap : cap ≤ maxLen) (hm : ∃ m : Int, w.cell? ⟨3, 0, none⟩ = some (.int .i64 m)) :
    Calls Tryd.prog 11 #[.slice a n cap] w fun e w' => e = .returned (.bool true) ∧ Below w.heap.size w w' := by
  obtain ⟨m, hm⟩ := hm
  have HM : Hid (∀ W, Below w.heap.size w W → W.cell? ⟨3, 0, none⟩ = some (.int .i64 m)) := fun W hb => (hb.cell (p := ⟨3, 0, none⟩) (World.block_lt_of_cell? w _ hm)).trans hm
  clear hm
  by_cases hn : 1048576 < n
  · have g : (1048576 : Int) < (n : Int) := by omega
    go_enter Tryd.func11, Tryd.ntmps11
    go_wp2
    go_ret
    exact ⟨rfl, Below.refl _ _⟩
  have g : decide ((1048576 : Int) < (n : Int)) = false := by simp; omega
  go_enter Tryd.func11, Tryd.ntmps11
  go_wp2_with (fail)
  (go_at_call 54; refine (drawMelodyText_any a n cap _ h hc hcap).mono ?_; rintro e w1 ⟨v, xs, rfl, hr1, hx9, hb1⟩)
  clear h hc hcap g hn
  have KT := Lib.hid (fun lo hi v W h => melodyText_any lo hi v xs W h)
  have KS := Lib.hid (fun lo hi v W h => sMelodyText_any lo hi v xs W h)
  go_wp2_with (fail)
  (go_at_call 52; refine (KT.out _ _ v _ hr1).mono ?_; rintro e w2 ⟨rfl, hb2⟩)
  go_wp2_with (fail)
  (go_at_call 55; refine (KS.out _ _ v _ (hr1.below hb2 (.inl (Nat.le_refl _)))).mono ?_; rintro e w3 ⟨rfl, hb3⟩)
  have c3 := bl_step hb2 hb3
  have bw3 := bl_step hb1 c3
  by_cases hm : mv xs = false ∨ xs = []
  · have he : mts (mvl xs) = ⟨#[]⟩ := by
      rcases hm with hm | hm
      · rw [mvl_no hm]; rfl
      · subst hm; rfl
    rw [he]
    clear he hm hr1
    go_wp2
    go_ret
    exact ⟨rfl, bw3⟩
  have hm1 : mv xs = true := by
    cases hh : mv xs
    · exact absurd (.inl hh) hm
    · rfl
  have hx0 : xs ≠ [] := fun e => hm (.inr e)
  obtain ⟨hB, hL⟩ := mf_mts hm1 hx0
  have hN := nmc_mts hx0
  have hR := mts_rev hx0
  have hsz : (mts xs).size ≤ 1000 := by have := mts_size xs; omega
  have KF := Lib.hid (fun W h => melodyFrom_any (mts xs) (by omega) m W h)
  rw [hB, hL] at KF
  have KN := Lib.hid (fun W => names_any (mts xs) (by omega) W)
  rw [hN] at KN
  have KB := Lib.hid (fun lo hi v W h => melodyBack_any lo hi v xs W h)
  rw [mvl_yes hm1, hm1] at KB
  have KR := Lib.hid (fun lo hi v W h => melodyText_any lo hi v xs.reverse W h)
  rw [mvl_yes (mv_rev' hm1)] at KR
  rw [mvl_yes hm1]
  have ne0 : (mts xs).data.toList ≠ [] := by show (mtx xs).toArray.toList ≠ []; simpa using mtx_ne hx0
  have n0 : ((mts xs).toList == []) = false := by rw [ByteArray.toList_eq]; simpa using ne0
  have n1 : ((mts xs).toList != (mts xs).toList) = false := by simp
  have n2 : ¬ (mts xs).toList = [] := by rw [ByteArray.toList_eq]; exact ne0
  have n3 : (mts xs).toList.isEmpty = false := by rw [ByteArray.toList_eq]; simpa using ne0
  have hR1 : (((mts xs.reverse).size : Int) == ((mts xs).size : Int)) = true := by simp; omega
  obtain ⟨va, vc, rfl, _⟩ := hr1.flat (rfl : xs.length = xs.length)
  clear hm hm1 hx0 hB hL hN hsz ne0 KT KS
  have HR1 := Lib.hid hr1
  generalize mts xs.reverse = t2 at KR hR hR1
  generalize mts xs = t1 at KF KN n0 n1 n2 n3 hR hR1 ⊢
  go_wp2_with (fail)
  (go_at_call 56; refine (KF.out _ (HM.out _ bw3)).mono ?_; rintro e w4 ⟨x, rfl, hx4, hb4⟩)
  have c4 := bl_step c3 hb4
  go_wp2_with (fail)
  (go_at_call 57; refine (KB.out _ _ _ _ (HR1.out.below c4 (.inl (Nat.le_refl _)))).mono ?_; rintro e w5 ⟨y, rfl, hy5, hb5⟩)
  have c5 := bl_step c4 hb5
  have HX := Lib.hid (fun W h1 h2 => sameTones_yes w3.heap.size w4.heap.size w.heap.size w1.heap.size x (.slice va xs.length vc) xs W h1 h2)
  have HX4 := Lib.hid hx4
  have HY5 := Lib.hid hy5
  have C5 := Lib.hid c5
  have BW := Lib.hid (bl_step hb1 c5)
  have HB5 := Lib.hid hb5
  clear hr1 hx4 hy5 hb1 hb2 hb3 hb4 c3 c4 c5 bw3
  go_wp2_with (fail)
  (go_at_call 44; refine (HX.out _ (HX4.out.below HB5.out (.inl (Nat.le_refl _))) (HR1.out.below C5.out (.inl (Nat.le_refl _)))).mono ?_; rintro e w6 ⟨rfl, hb6⟩)
  go_wp2_with (fail)
  (go_at_call 39; refine (KN.out _).mono ?_; rintro e w7 ⟨rfl, hb7⟩)
  go_wp2_with (fail)
  (go_at_call 52; refine (KR.out _ _ _ _ (HY5.out.below (bl_step hb6 hb7) (.inl (Nat.le_refl _)))).mono ?_; rintro e w8 ⟨rfl, hb8⟩)
  go_wp2
  go_ret
  exact ⟨by first | rfl | (simp; done) | (simp [hR]; done), bl_step (bl_step (bl_step BW.out hb6) hb7) hb8⟩

noncomputable def fnMelodyText_world (os : Os) : World := { World.holding Tryd.prog os ⟨#[], #[], []⟩ with heap := ((((((World.holding Tryd.prog os ⟨#[], #[], []⟩).heap.modify 7 fun | .cells _ t frozen => .cells #[.int .u8 0, .int .u8 1, .int .u8 28, .int .u8 2, .int .u8 29, .int .u8 14, .int .u8 24, .int .u8 3, .int .u8 30, .int .u8 22, .int .u8 20, .int .u8 15, .int .u8 25, .int .u8 17, .int .u8 4, .int .u8 8, .int .u8 31, .int .u8 27, .int .u8 13, .int .u8 23, .int .u8 21, .int .u8 19, .int .u8 16, .int .u8 7, .int .u8 26, .int .u8 12, .int .u8 18, .int .u8 6, .int .u8 11, .int .u8 5, .int .u8 10, .int .u8 9] t frozen | o => o).modify 8 fun | .cells _ t frozen => .cells #[.int .u8 0, .int .u8 1, .int .u8 56, .int .u8 2, .int .u8 57, .int .u8 49, .int .u8 28, .int .u8 3, .int .u8 61, .int .u8 58, .int .u8 42, .int .u8 50, .int .u8 38, .int .u8 29, .int .u8 17, .int .u8 4, .int .u8 62, .int .u8 47, .int .u8 59, .int .u8 36, .int .u8 45, .int .u8 43, .int .u8 51, .int .u8 22, .int .u8 53, .int .u8 39, .int .u8 33, .int .u8 30, .int .u8 24, .int .u8 18, .int .u8 12, .int .u8 5, .int .u8 63, .int .u8 55, .int .u8 48, .int .u8 27, .int .u8 60, .int .u8 41, .int .u8 37, .int .u8 16, .int .u8 46, .int .u8 35, .int .u8 44, .int .u8 21, .int .u8 52, .int .u8 32, .int .u8 23, .int .u8 11, .int .u8 54, .int .u8 26, .int .u8 40, .int .u8 15, .int .u8 34, .int .u8 20, .int .u8 31, .int .u8 10, .int .u8 25, .int .u8 14, .int .u8 19, .int .u8 9, .int .u8 13, .int .u8 8, .int .u8 7, .int .u8 6] t frozen | o => o).modify 4 fun | .cells _ t frozen => .cells #[.int .u64 1, .int .u64 10, .int .u64 100, .int .u64 1000, .int .u64 10000, .int .u64 100000, .int .u64 1000000, .int .u64 10000000, .int .u64 100000000, .int .u64 1000000000, .int .u64 10000000000, .int .u64 100000000000, .int .u64 1000000000000, .int .u64 10000000000000, .int .u64 100000000000000, .int .u64 1000000000000000, .int .u64 10000000000000000, .int .u64 100000000000000000, .int .u64 1000000000000000000, .int .u64 10000000000000000000] t frozen | o => o).modify 6 fun | .cells _ t frozen => .cells #[.int .u8 128, .int .u8 191, .int .u8 160, .int .u8 191, .int .u8 128, .int .u8 159, .int .u8 144, .int .u8 191, .int .u8 128, .int .u8 143, .int .u8 0, .int .u8 0, .int .u8 0, .int .u8 0, .int .u8 0, .int .u8 0, .int .u8 0, .int .u8 0, .int .u8 0, .int .u8 0, .int .u8 0, .int .u8 0, .int .u8 0, .int .u8 0, .int .u8 0, .int .u8 0, .int .u8 0, .int .u8 0, .int .u8 0, .int .u8 0, .int .u8 0, .int .u8 0] t frozen | o => o).modify 5 fun | .cells _ t frozen => .cells ((Go.Pinned.utf8FirstZ.map fun (n : Nat) => Value.int .u8 (n : Int)).toArray) t frozen | o => o) }
theorem fnMelodyText_met (os : Os) : laidMet Tryd.prog Rows.fnMelodyTextRow.laid ((fnMelodyText_world os).forCall (fun _ _ => 0) ⟨#[], #[.slice none 0 0], []⟩).memory :=
  laidMet_of_run' 8 (by kernel_rfl) (by kernel_rfl)
theorem fnMelodyText_reads (os : Os) {H : Type} (enc : TypeId × Value → H) : ∃ places, DataW.whole enc Tryd.prog ((fnMelodyText_world os).forCall (fun _ _ => 0) ⟨#[], #[.slice none 0 0], []⟩).memory Tryd.f11.params.toList Rows.fnMelodyTextSpec.vars false (#[.slice none 0 0] : Array Value).toList 8 = some ([.nil], [], places) :=
  ⟨((DataW.whole enc Tryd.prog ((fnMelodyText_world os).forCall (fun _ _ => 0) ⟨#[], #[.slice none 0 0], []⟩).memory Tryd.f11.params.toList Rows.fnMelodyTextSpec.vars false (#[.slice none 0 0] : Array Value).toList 8).getD ([], [], [])).2.2, by kernel_rfl⟩
set_option maxRecDepth 100000 in
theorem fnMelodyText_lifted (os : Os) (started : os.Started) (H : Type) (enc : TypeId × Value → H) (F : Stop.Interp) :
    ReturnsInHanded {} Tryd.checked os 11 .any ((OpenSpec.ofChange Rows.fnMelodyTextSpec).preRow enc Tryd.prog Tryd.f11 Rows.fnMelodyTextRow.domain false Rows.fnMelodyTextRow.laid) (((OpenSpec.ofChange Rows.fnMelodyTextSpec).at F).post enc Tryd.prog Tryd.f11 false true false false) := by
  obtain ⟨places, hx⟩ := fnMelodyText_reads os enc
  refine returnsInHanded_of_row (C := Tryd.checked) (s := OpenSpec.ofChange Rows.fnMelodyTextSpec) own started (by kernel_rfl) Tryd.func11
    (witness_row_at (enc := enc) (C := Tryd.checked) false (fnMelodyText_world os) #[.slice none 0 0] rfl (by kernel_rfl) (by kernel_rfl) (by kernel_rfl)
      (OpenSpec.preRow_of_cond 8 hx (by kernel_rfl) (fun k hk => by cases hk) (by kernel_rfl) (fnMelodyText_met os))) ?_
  intro W base args ds gs before hval0 hW _ _ _ hL hSh _
  have hval : ∀ (j : Nat) t v, Tryd.f11.params[j]? = some t → args[j]? = some v → Value.okWide Tryd.prog W .any base t v := hval0
  have hW' := hW
  obtain ⟨p, q, hA0, hV, rfl, _, _⟩ := hW
  have hA : DataW.TrodAll enc Tryd.prog W 0 (fun _ => true) true Tryd.f11.params.toList args.toList ds p := hA0
  rw [Tryd.params11] at hA hval
  obtain ⟨v0, vs0, d0, ds0, p0, q0, hargs, rfl, rfl, h0, r0⟩ := trodAll_cons hA
  obtain ⟨rfl, rfl, rfl⟩ := trodAll_nil r0
  obtain rfl : args = #[v0] := by cases args; simp_all
  obtain ⟨rfl, rfl⟩ := trodVars_none hV
  obtain ⟨a0, n0, c0, rfl⟩ := okWide_slice Tryd.underlying22 (hval 0 22 v0 rfl rfl)
  have k0 := h0
  have lt0 : ∀ x ∈ p0, x.block < W.heap.size := by obtain ⟨m, hm⟩ := k0; exact DataW.trod_lt m _ _ _ hm
  have y0 := code_in h0
  clear hA0 hval0
  refine (fnMelodyText_walk a0 n0 c0 W y0.1 y0.2.1 y0.2.2 (Tryd.laysM146.s1_3 W hSh)).mono fun e W' ⟨he, hb⟩ => ?_
  subst he
  exact ⟨_, rfl, _, _, _, [], _, [], hW', trodAll_cons_mk (shut_bool Tryd.underlying4 _) trodAll_mk0, trodAll_cons_mk (Below.trod laidOut (by kernel_rfl) (of_decide_eq_true (by kernel_rfl)) k0 hb lt0) (trodAll_mk0), rfl, hb.frame _, fun h => by cases h⟩


end Go.Proofs.YtjodcaeohkjlnaaDoor
