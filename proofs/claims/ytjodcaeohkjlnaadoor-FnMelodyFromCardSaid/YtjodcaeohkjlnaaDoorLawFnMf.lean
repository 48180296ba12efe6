/-
  The law FnMelodyFrom: for every code, what is read out of a text is a melody, its text is the text, and a text with a space behind it is none.
-/
import Derived.Test.YtjodcaeohkjlnaaDoorDrawMf
import Derived.Test.YtjodcaeohkjlnaaDoorMfx
import Derived.Test.YtjodcaeohkjlnaaDoorMtx2
import Derived.Test.YtjodcaeohkjlnaaDoorImf
import Derived.Test.YtjodcaeohkjlnaaDoorMelV
import Derived.Test.YtjodcaeohkjlnaaDoorCode
import Derived.Test.YtjodcaeohkjlnaaDoorCards
import Derived.Test.YtjodcaeohkjlnaaDoorTie
import Derived.Deep.DeepHandedRow
import Derived.Laws.Concat
import Derived.OpenVars
namespace Go.Proofs.YtjodcaeohkjlnaaDoor
open Go.RowKit Go.ChangeShapes Go.WideShapes Go.ChangeAt
set_option maxRecDepth 100000
set_option linter.unusedVariables false

theorem mf_space (s : ByteArray) : mfB (s ++ ⟨#[32]⟩) = false ∧ mfL (s ++ ⟨#[32]⟩) = [] := by
  have e : (s ++ ⟨#[32]⟩ : ByteArray).data.toList = s.data.toList ++ [32] := by simp
  have h0 : (s ++ ⟨#[32]⟩ : ByteArray).data.toList ≠ [] := by rw [e]; simp
  have hw : wds (s ++ ⟨#[32]⟩) = wds s ++ [⟨#[]⟩] := by
    unfold wds
    rw [e, cutW_snoc_sp, List.map_append]
    rfl
  refine mf_bad (k := (wds s).length) (x := ⟨#[]⟩) h0 ?_ (by decide +kernel)
  rw [hw]
  simp

theorem mv_mfL (s : ByteArray) : mv (mfL s) = true := by
  unfold mv allv
  rw [Bool.and_eq_true, List.all_eq_true]
  exact ⟨decide_eq_true (mfL_len s), fun t ht => mfL_vd ht⟩

theorem wts_txl {ws : List ByteArray} (h : wok ws = true) : (wts ws).map txl = ws.map (·.data.toList) := by
  unfold wts
  rw [List.map_map]
  apply List.map_congr_left
  intro x hx
  obtain ⟨h1, h2⟩ := tfr_ok (List.all_eq_true.1 h x hx)
  rw [ttx_yes h1] at h2
  exact h2

theorem join_txl (xs : List (Int × Bool)) : Lib.join (xs.map txl) [32] = mtx xs := by
  have h := join_mtx xs
  rw [List.map_map] at h
  exact h

theorem mts_mfL {s : ByteArray} (h : mfB s = true) : mts (mfL s) = s := by
  by_cases he : s.data.toList = []
  · rw [(mf_nil he).2]
    obtain ⟨⟨d⟩⟩ := s
    simp at he
    subst he
    rfl
  · have e : s.data.toList.isEmpty = false := by simpa using he
    have hb : decide ((wds s).length ≤ 24) = true ∧ wok (wds s) = true := by
      unfold mfB at h
      rw [e, Bool.false_or, Bool.and_eq_true] at h
      exact h
    have hl := (mf_yes he (of_decide_eq_true hb.1) hb.2).2
    rw [hl]
    have hj : mtx (wts (wds s)) = s.data.toList := by
      rw [← join_txl, wts_txl hb.2]
      unfold wds
      rw [List.map_map]
      show Lib.join ((cutW s.data.toList).map (fun x => x.toArray.toList)) [32] = _
      simp only [List.map_id']
      exact join_cut _
    unfold mts
    rw [hj]

set_option maxHeartbeats 8000000 in
theorem fnMelodyFrom_walk (a : Option Addr) (n cap : Nat) (w : World) (h : CodeAt w a n) (hc : n ≤ cap) (hcap : cap ≤ maxLen) (hm : ∃ m : Int, w.cell? ⟨3, 0, none⟩ = some (.int .i64 m)) :
    Calls Tryd.prog 12 #[.slice a n cap] w fun e w' => e = .returned (.bool true) ∧ Below w.heap.size w w' := by
  obtain ⟨m, hm⟩ := hm
  have HM : Hid (∀ W, Below w.heap.size w W → W.cell? ⟨3, 0, none⟩ = some (.int .i64 m)) := fun W hb => (hb.cell (p := ⟨3, 0, none⟩) (World.block_lt_of_cell? w _ hm)).trans hm
  clear hm
  by_cases hn : 1048576 < n
  · have g : (1048576 : Int) < (n : Int) := by omega
    go_enter Tryd.func12, Tryd.ntmps12
    go_wp2
    go_ret
    exact ⟨rfl, Below.refl _ _⟩
  have g : decide ((1048576 : Int) < (n : Int)) = false := by simp; omega
  go_enter Tryd.func12, Tryd.ntmps12
  go_wp2_with (fail)
  (go_at_call 58; refine (drawMelodyFrom_any a n cap _ h hc hcap).mono ?_; rintro e w1 ⟨⟨s, rfl, hs⟩, hb1⟩)
  clear h hc hcap g hn
  have KF := Lib.hid (fun W h => melodyFrom_any s (by omega) m W h)
  have KS := Lib.hid (fun W => sMelodyFrom_any s (by omega) W)
  have KP := Lib.hid (fun W h => melodyFrom_any (s ++ ⟨#[32]⟩) (by rw [ByteArray.size_append]; show s.size + 1 ≤ _; omega) m W h)
  rw [(mf_space s).1, (mf_space s).2] at KP
  have KV := Lib.hid (fun lo hi v W h => melodyValid_any lo hi v (mfL s) W h)
  rw [mv_mfL s] at KV
  have KT := Lib.hid (fun lo hi v W h => melodyText_any lo hi v (mfL s) W h)
  rw [mvl_yes (mv_mfL s)] at KT
  have hadd : ∀ W : World, (Op.stringOp .add s ⟨#[32]⟩).run Tryd.prog W = .ok (.string (s ++ ⟨#[32]⟩)) W := fun W => run_string_add_sum W _ _ (by show s.size + 1 ≤ 9223372036854775807; omega)
  have HMT : Hid (mfB s = true → mts (mfL s) = s) := mts_mfL
  generalize mfL s = xs at KF KS KV KT HMT
  generalize mfB s = ok at KF KS HMT
  generalize s ++ (⟨#[32]⟩ : ByteArray) = s2 at KP hadd
  go_wp2_with (fail)
  (go_at_call 56; refine (KF.out _ (HM.out _ hb1)).mono ?_; rintro e w2 ⟨v, rfl, hv2, hb2⟩)
  go_wp2_with (fail)
  (go_at_call 59; refine (KS.out _).mono ?_; rintro e w3 ⟨u, rfl, hu3, hb3⟩)
  have bw3 := bl_step (bl_step hb1 hb2) hb3
  have HV3 := Lib.hid (hv2.below hb3 (.inl (Nat.le_refl _)))
  have HU3 := Lib.hid hu3
  have BW := Lib.hid bw3
  clear hv2 hu3 hb1 hb2 hb3 bw3
  cases ok
  · go_wp2_with (fail)
    (go_at_call 44; refine (sameTones_yes _ _ _ _ v u xs _ HV3.out HU3.out).mono ?_; rintro e w4 ⟨rfl, hb4⟩)
    go_wp2_with (fail)
    (go_at_call 44; refine (sameTones_yes _ _ _ _ v u xs _ (HV3.out.below hb4 (.inr (Nat.le_refl _))) (HU3.out.below hb4 (.inr (Nat.le_refl _)))).mono ?_; rintro e w5 ⟨rfl, hb5⟩)
    go_wp2
    go_ret
    exact ⟨by first | rfl | (simp; done), bl_step (bl_step BW.out hb4) hb5⟩
  · have hmt := HMT.out rfl
    rw [hmt] at KT
    have hse : (s.toList == s.toList) = true := by simp
    clear hmt
    go_wp2_with (fail)
    (go_at_call 44; refine (sameTones_yes _ _ _ _ v u xs _ HV3.out HU3.out).mono ?_; rintro e w4 ⟨rfl, hb4⟩)
    have HV4 := Lib.hid (HV3.out.below hb4 (.inr (Nat.le_refl _)))
    have BW4 := Lib.hid (bl_step BW.out hb4)
    clear hb4
    go_wp2_with (fail)
    (go_at_call 56; refine (KP.out _ (HM.out _ BW4.out)).mono ?_; rintro e w5 ⟨x, rfl, hx5, hb5⟩)
    have HV5 := Lib.hid (HV4.out.below hb5 (.inr (Nat.le_refl _)))
    have BW5 := Lib.hid (bl_step BW4.out hb5)
    clear hb5 hx5
    go_wp2_with (fail)
    (go_at_call 60; refine (KV.out _ _ v _ HV5.out).mono ?_; rintro e w6 ⟨rfl, hb6⟩)
    have HV6 := Lib.hid (HV5.out.below hb6 (.inr (Nat.le_refl _)))
    have BW6 := Lib.hid (bl_step BW5.out hb6)
    clear hb6
    go_wp2_with (fail)
    (go_at_call 52; refine (KT.out _ _ v _ HV6.out).mono ?_; rintro e w7 ⟨rfl, hb7⟩)
    go_wp2
    go_ret
    exact ⟨by first | rfl | (simp; done), bl_step BW6.out hb7⟩

noncomputable def fnMelodyFrom_world (os : Os) : World := { World.holding Tryd.prog os ⟨#[], #[], []⟩ with heap := ((((((World.holding Tryd.prog os ⟨#[], #[], []⟩).heap.modify 7 fun | .cells _ t frozen => .cells #[.int .u8 0, .int .u8 1, .int .u8 28, .int .u8 2, .int .u8 29, .int .u8 14, .int .u8 24, .int .u8 3, .int .u8 30, .int .u8 22, .int .u8 20, .int .u8 15, .int .u8 25, .int .u8 17, .int .u8 4, .int .u8 8, .int .u8 31, .int .u8 27, .int .u8 13, .int .u8 23, .int .u8 21, .int .u8 19, .int .u8 16, .int .u8 7, .int .u8 26, .int .u8 12, .int .u8 18, .int .u8 6, .int .u8 11, .int .u8 5, .int .u8 10, .int .u8 9] t frozen | o => o).modify 8 fun | .cells _ t frozen => .cells #[.int .u8 0, .int .u8 1, .int .u8 56, .int .u8 2, .int .u8 57, .int .u8 49, .int .u8 28, .int .u8 3, .int .u8 61, .int .u8 58, .int .u8 42, .int .u8 50, .int .u8 38, .int .u8 29, .int .u8 17, .int .u8 4, .int .u8 62, .int .u8 47, .int .u8 59, .int .u8 36, .int .u8 45, .int .u8 43, .int .u8 51, .int .u8 22, .int .u8 53, .int .u8 39, .int .u8 33, .int .u8 30, .int .u8 24, .int .u8 18, .int .u8 12, .int .u8 5, .int .u8 63, .int .u8 55, .int .u8 48, .int .u8 27, .int .u8 60, .int .u8 41, .int .u8 37, .int .u8 16, .int .u8 46, .int .u8 35, .int .u8 44, .int .u8 21, .int .u8 52, .int .u8 32, .int .u8 23, .int .u8 11, .int .u8 54, .int .u8 26, .int .u8 40, .int .u8 15, .int .u8 34, .int .u8 20, .int .u8 31, .int .u8 10, .int .u8 25, .int .u8 14, .int .u8 19, .int .u8 9, .int .u8 13, .int .u8 8, .int .u8 7, .int .u8 6] t frozen | o => o).modify 4 fun | .cells _ t frozen => .cells #[.int .u64 1, .int .u64 10, .int .u64 100, .int .u64 1000, .int .u64 10000, .int .u64 100000, .int .u64 1000000, .int .u64 10000000, .int .u64 100000000, .int .u64 1000000000, .int .u64 10000000000, .int .u64 100000000000, .int .u64 1000000000000, .int .u64 10000000000000, .int .u64 100000000000000, .int .u64 1000000000000000, .int .u64 10000000000000000, .int .u64 100000000000000000, .int .u64 1000000000000000000, .int .u64 10000000000000000000] t frozen | o => o).modify 6 fun | .cells _ t frozen => .cells #[.int .u8 128, .int .u8 191, .int .u8 160, .int .u8 191, .int .u8 128, .int .u8 159, .int .u8 144, .int .u8 191, .int .u8 128, .int .u8 143, .int .u8 0, .int .u8 0, .int .u8 0, .int .u8 0, .int .u8 0, .int .u8 0, .int .u8 0, .int .u8 0, .int .u8 0, .int .u8 0, .int .u8 0, .int .u8 0, .int .u8 0, .int .u8 0, .int .u8 0, .int .u8 0, .int .u8 0, .int .u8 0, .int .u8 0, .int .u8 0, .int .u8 0, .int .u8 0] t frozen | o => o).modify 5 fun | .cells _ t frozen => .cells ((Go.Pinned.utf8FirstZ.map fun (n : Nat) => Value.int .u8 (n : Int)).toArray) t frozen | o => o) }
theorem fnMelodyFrom_met (os : Os) : laidMet Tryd.prog Rows.fnMelodyFromRow.laid ((fnMelodyFrom_world os).forCall (fun _ _ => 0) ⟨#[], #[.slice none 0 0], []⟩).memory :=
  laidMet_of_run' 8 (by kernel_rfl) (by kernel_rfl)
theorem fnMelodyFrom_reads (os : Os) {H : Type} (enc : TypeId × Value → H) : ∃ places, DataW.whole enc Tryd.prog ((fnMelodyFrom_world os).forCall (fun _ _ => 0) ⟨#[], #[.slice none 0 0], []⟩).memory Tryd.f12.params.toList Rows.fnMelodyFromSpec.vars false (#[.slice none 0 0] : Array Value).toList 8 = some ([.nil], [], places) :=
  ⟨((DataW.whole enc Tryd.prog ((fnMelodyFrom_world os).forCall (fun _ _ => 0) ⟨#[], #[.slice none 0 0], []⟩).memory Tryd.f12.params.toList Rows.fnMelodyFromSpec.vars false (#[.slice none 0 0] : Array Value).toList 8).getD ([], [], [])).2.2, by kernel_rfl⟩
set_option maxRecDepth 100000 in
theorem fnMelodyFrom_lifted (os : Os) (started : os.Started) (H : Type) (enc : TypeId × Value → H) (F : Stop.Interp) :
    ReturnsInHanded {} Tryd.checked os 12 .any ((OpenSpec.ofChange Rows.fnMelodyFromSpec).preRow enc Tryd.prog Tryd.f12 Rows.fnMelodyFromRow.domain false Rows.fnMelodyFromRow.laid) (((OpenSpec.ofChange Rows.fnMelodyFromSpec).at F).post enc Tryd.prog Tryd.f12 false true false false) := by
  obtain ⟨places, hx⟩ := fnMelodyFrom_reads os enc
  refine returnsInHanded_of_row (C := Tryd.checked) (s := OpenSpec.ofChange Rows.fnMelodyFromSpec) own started (by kernel_rfl) Tryd.func12
    (witness_row_at (enc := enc) (C := Tryd.checked) false (fnMelodyFrom_world os) #[.slice none 0 0] rfl (by kernel_rfl) (by kernel_rfl) (by kernel_rfl)
      (OpenSpec.preRow_of_cond 8 hx (by kernel_rfl) (fun k hk => by cases hk) (by kernel_rfl) (fnMelodyFrom_met os))) ?_
  intro W base args ds gs before hval0 hW _ _ _ hL hSh _
  have hval : ∀ (j : Nat) t v, Tryd.f12.params[j]? = some t → args[j]? = some v → Value.okWide Tryd.prog W .any base t v := hval0
  have hW' := hW
  obtain ⟨p, q, hA0, hV, rfl, _, _⟩ := hW
  have hA : DataW.TrodAll enc Tryd.prog W 0 (fun _ => true) true Tryd.f12.params.toList args.toList ds p := hA0
  rw [Tryd.params12] at hA hval
  obtain ⟨v0, vs0, d0, ds0, p0, q0, hargs, rfl, rfl, h0, r0⟩ := trodAll_cons hA
  obtain ⟨rfl, rfl, rfl⟩ := trodAll_nil r0
  obtain rfl : args = #[v0] := by cases args; simp_all
  obtain ⟨rfl, rfl⟩ := trodVars_none hV
  obtain ⟨a0, n0, c0, rfl⟩ := okWide_slice Tryd.underlying22 (hval 0 22 v0 rfl rfl)
  have k0 := h0
  have lt0 : ∀ x ∈ p0, x.block < W.heap.size := by obtain ⟨m, hm⟩ := k0; exact DataW.trod_lt m _ _ _ hm
  have y0 := code_in h0
  clear hA0 hval0
  refine (fnMelodyFrom_walk a0 n0 c0 W y0.1 y0.2.1 y0.2.2 (Tryd.laysM146.s1_3 W hSh)).mono fun e W' ⟨he, hb⟩ => ?_
  subst he
  exact ⟨_, rfl, _, _, _, [], _, [], hW', trodAll_cons_mk (shut_bool Tryd.underlying4 _) trodAll_mk0, trodAll_cons_mk (Below.trod laidOut (by kernel_rfl) (of_decide_eq_true (by kernel_rfl)) k0 hb lt0) (trodAll_mk0), rfl, hb.frame _, fun h => by cases h⟩


end Go.Proofs.YtjodcaeohkjlnaaDoor
