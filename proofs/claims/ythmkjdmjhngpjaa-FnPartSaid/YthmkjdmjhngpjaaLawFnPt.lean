/-
  The law FnPart: for every code, a part sounds its tones.
-/
import Derived.Test.YthmkjdmjhngpjaaSv8
import Derived.Test.YthmkjdmjhngpjaaSm8
import Derived.Test.YthmkjdmjhngpjaaDpm
import Derived.Test.YthmkjdmjhngpjaaOpen
namespace Go.Proofs.Ythmkjdmjhngpjaa
open Go.RowKit Go.ChangeShapes Go.WideShapes Go.ChangeAt
set_option maxRecDepth 100000
set_option linter.unusedVariables false

theorem tnA_right (ps qs : List (Int × Bool)) (j : Nat) : tnA (ps ++ qs) (ps.length + j) = tnA qs j := by
  unfold tnA
  rw [List.getD_eq_getElem?_getD, List.getElem?_append_right (by omega), List.getD_eq_getElem?_getD, Nat.add_sub_cancel_left]
/-- a voice sounds from its first beat to its last one -/
theorem pat_in {xs : List Vc} (hp : pval xs = true) {i : Nat} {x : Vc} (hx : xs[i]? = some x) {j : Int} (h0 : 0 ≤ j) (hj : j < x.2) : patOk xs (bsm (xs.take i) + j) = true ∧ patT xs (bsm (xs.take i) + j) = x.1 := by
  obtain ⟨hall, hl, h24⟩ := pval_in hp
  have ht := all_take hall i
  have hb := bsm_in ht
  have hle := bsm_in (xs := xs.drop (i + 1)) (by rw [List.all_eq_true] at hall ⊢; exact fun y hy => hall y (List.mem_of_mem_drop hy))
  have hd := drop_get hx
  have hs : bsm xs = bsm (xs.take i) + (x.2 + bsm (xs.drop (i + 1))) := by
    rw [← bsm_cons, ← hd, ← bsm_app, List.take_append_drop]
  have hok := patOk_yes hp (k := bsm (xs.take i) + j) (by omega) (by omega)
  refine ⟨hok, ?_⟩
  rw [patT_yes hok]
  have hsn : snd8 xs = snd8 (xs.take i) ++ snd8 (x :: xs.drop (i + 1)) := by rw [← snd_app, ← hd, List.take_append_drop]
  have hl2 := snd_len ht
  rw [hsn, show (bsm (xs.take i) + j).toNat = (snd8 (xs.take i)).length + j.toNat by omega, tnA_right, tnA_cons (by omega)]
theorem zip_get {ts : List (Int × Bool)} {zs : List Int} {i : Nat} {t : Int × Bool} {z : Int} (ht : ts[i]? = some t) (hz : zs[i]? = some z) : (ts.zip zs)[i]? = some (t, z) := by
  rw [List.getElem?_zip_eq_some]
  exact ⟨ht, hz⟩
theorem bl_q8p {w W W' : World} (h : Below w.heap.size w W) (k : ∃ m, W' = W.drewN m) : Below w.heap.size w W' := by
  obtain ⟨m, rfl⟩ := k
  exact ⟨h.os, h.tape, h.output, h.size, h.block⟩
theorem box2_pt {W : World} {g : Nat} {x y : Value} {T : TypeId} (h : W.heap[g]? = some (.cells #[x, y] T (0, 0))) : W.cell? ⟨g, 0, none⟩ = some x ∧ W.cell? ⟨g, 1, none⟩ = some y := by
  constructor <;> simp [World.cell?, h]

set_option maxHeartbeats 8000000 in
theorem fnPart_walk (a : Option Addr) (n cap : Nat) (w : World) (h : CodeAt w a n) (hc : n ≤ cap) (hcap : cap ≤ maxLen) :
    Calls Try.prog 5 #[.slice a n cap] w fun e w' => e = .returned (.bool true) ∧ Below w.heap.size w w' := by
  by_cases hn : 1048576 < n
  · have g : (1048576 : Int) < (n : Int) := by omega
    go_enter Try.func5, Try.ntmps5
    go_wp2
    go_ret
    exact ⟨rfl, Below.refl _ _⟩
  have g : decide ((1048576 : Int) < (n : Int)) = false := by simp; omega
  have gn : decide (1048576 < n) = false := decide_eq_false hn
  go_enter Try.func5, Try.ntmps5
  go_wp2_with (fail)
  (go_at_call 20; refine (drawPartMake_any a n cap _ h hc hcap).mono ?_; rintro e w1 ⟨v, u, ms, zs, lo, hi, rfl, hv, hu, hml, hzl, hb1⟩)
  clear h hc hcap g hn gn
  have HT1 := Lib.hid hv
  have HU1 := Lib.hid hu
  obtain ⟨av, cv, rfl⟩ := trow_len8 hv
  have HW1 := Lib.hid hb1
  have HI := Lib.hid (fun w h k8 => partMake_any lo hi (.slice av ms.length cv) u ms zs w h k8)
  have HS := Lib.hid (fun w h k8 => sPartMake_any lo hi (.slice av ms.length cv) u ms zs w h k8)
  unfold VBuilt2 at HI HS
  have HY := Lib.hid (fun v u w h k8 => sameVoicesV_yes v u (pmL ms zs) w h k8)
  have HLN := Lib.hid (fun e => pm_len (ts := ms) (zs := zs) e)
  have HPY := Lib.hid (fun e => pm_yes (ts := ms) (zs := zs) e)
  have HPM : Hid (pmOk ms zs = true → ms.length = zs.length ∧ pval (ms.zip zs) = true) := fun e => by simp [pmOk] at e; exact ⟨e.2.1, e.2.2⟩
  clear hv hu hb1
  generalize pmL ms zs = xs at HI HS HY HLN HPY
  generalize pmOk ms zs = ok at HI HS HLN HPY HPM
  go_wp2_with (fail)
  (go_at_call 21; refine (HI.out _ HT1.out HU1.out).mono ?_; rintro e w2 ⟨vi, rfl, ri, hb2⟩)
  have HT2 := Lib.hid (HT1.out.below hb2 (.inr (Nat.le_refl _)))
  have HU2 := Lib.hid (HU1.out.below hb2)
  have HW2 := Lib.hid (bl_step HW1.out hb2)
  have HR2 := Lib.hid ri
  clear hb2 ri
  go_wp2_with (fail)
  (go_at_call 22; refine (HS.out _ HT2.out HU2.out).mono ?_; rintro e w3 ⟨vs, rfl, rs, hb3⟩)
  have HT3 := Lib.hid (HT2.out.below hb3 (.inr (Nat.le_refl _)))
  have HU3 := Lib.hid (HU2.out.below hb3)
  have HVI3 := Lib.hid (HR2.out.view.below hb3)
  have HVS3 := Lib.hid rs.view
  have HW3 := Lib.hid (bl_step HW2.out hb3)
  clear hb3 rs HR2 HU2 HT1 HU1
  go_wp2_with (fail)
  (go_at_call 23; refine (HY.out _ _ _ HVI3.out HVS3.out).mono ?_; rintro e w4 ⟨rfl, hb4⟩)
  have HT4 := Lib.hid (HT3.out.below hb4 (.inr (Nat.le_refl _)))
  have HU4 := Lib.hid (HU3.out.below hb4)
  have HVI4 := Lib.hid (HVI3.out.below hb4)
  have HVS4 := Lib.hid (HVS3.out.below hb4)
  have HW4 := Lib.hid (bl_step HW3.out hb4)
  clear hb4 HT3 HU3
  cases ok with
  | false =>
    go_wp2_with (fail)
    (go_at_call 23; refine (HY.out _ _ _ HVI4.out HVS4.out).mono ?_; rintro e w5 ⟨rfl, hb5⟩)
    have HW5 := Lib.hid (bl_step HW4.out hb5)
    clear hb5
    go_wp2
    go_ret
    exact ⟨rfl, HW5.out⟩
  | true =>
    have hxl := HLN.out rfl
    obtain rfl := HPY.out rfl
    obtain ⟨hlz, hpv⟩ := HPM.out rfl
    have hbs := zip_bsm hlz
    have hpb := pbt_yes hpv
    rw [hbs] at hpb
    have hall := (pval_in hpv).1
    have h24 := (pval_in hpv).2.2
    have HZ : Hid (∀ (i : Nat) (z : Int), zs[i]? = some z → 1 ≤ z ∧ z ≤ 3) := fun i z hz => by
      have hi9 : i < zs.length := by rcases List.getElem?_eq_some_iff.1 hz with ⟨h9, _⟩; exact h9
      have := vok_in (all_get hall (zip_get (List.getElem?_eq_getElem (l := ms) (i := i) (by omega)) hz))
      exact this.2
    have HZ2 : Hid (∀ z ∈ zs, 0 ≤ z ∧ z ≤ 3) := fun z hz => by
      obtain ⟨i, hi9⟩ := List.getElem?_of_mem hz
      have := HZ.out i z hi9
      omega
    have HSO := Lib.hid (fun w h => sumOfV_any u zs w h HZ2.out (by omega))
    have HPB := Lib.hid (fun v w h => partBeats_any v (ms.zip zs) w h)
    rw [hpb] at HPB
    have HPA := Lib.hid (fun v k w h => partAt_any v (ms.zip zs) k w h)
    have HPI := Lib.hid (fun i x hx j h0 hj => pat_in (xs := ms.zip zs) hpv (i := i) (x := x) hx (j := j) h0 hj)
    have HTK := Lib.hid (fun (i : Nat) (t : Int × Bool) (z : Int) (ht : ms[i]? = some t) (hz : zs[i]? = some z) => bsm_take (zip_get ht hz))
    have HBI := Lib.hid (fun i => bsm_in (all_take hall i))
    have HBM : Hid (∀ (i : Nat) (x : Vc), (ms.zip zs)[i]? = some x → bsm ((ms.zip zs).take i) + x.2 ≤ 24) := fun i x hx => by
      have h1 := (HPI.out i x hx (x.2 - 1) (by have := vok_in (all_get hall hx); omega) (by omega)).1
      simp [patOk] at h1
      omega
    have g1 : ((ms.zip zs).length == ms.length) = true := beq_iff_eq.2 hxl
    have g2 : (((ms.zip zs).length : Int) != (ms.length : Int)) = false := by simp; omega
    obtain ⟨ai, ci, rfl, hai, hci1, hci2⟩ := HVI4.out
    rw [hxl] at HVI4 ⊢
    rw [hxl] at g2 hci1
    have HLZ := Lib.hid hlz
    clear hxl hlz hpv hbs hpb hall h24 hai g1 HLN HPY HPM HI HS HY HVS3 HVI3 HVS4
    generalize smL zs = T at HPB HSO
    go_wp2_with (fail)
    (go_at_call 24; refine (HPB.out _ _ HVI4.out).mono ?_; rintro e w5 ⟨rfl, hb5⟩)
    have HT5 := Lib.hid (HT4.out.below hb5 (.inr (Nat.le_refl _)))
    have HU5 := Lib.hid (HU4.out.below hb5)
    have HV5 := Lib.hid (HVI4.out.below hb5)
    have HW5 := Lib.hid (bl_step HW4.out hb5)
    clear hb5 HT4 HU4
    go_wp2_with (fail)
    (go_at_call 14; refine (HSO.out _ HU5.out).mono ?_; rintro e wx ⟨rfl, rfl⟩)
    obtain ⟨au, cu, rfl, hau, hcu1, hcu2⟩ := HU5.out
    unfold maxLen at hcu2 hci2
    clear hau
    go_wp2
    go_loopw [9, 10] (fun q i wr => ∃ j : Nat, j ≤ ms.length ∧ i = .int .i64 (j : Int) ∧ q = .int .i64 (bsm ((ms.zip zs).take j)) ∧ Below w5.heap.size w5 wr) (fun _ i _ => ms.length - (intOf i).toNat)
    case atStart => exact ⟨0, by omega, rfl, rfl, Below.refl _ _⟩
    case round =>
      obtain ⟨j, hj, rfl, rfl, hb⟩ := hrel
      have HB := Lib.hid hb
      by_cases hlj : j < ms.length
      · have hjz : j < zs.length := by have := HLZ.out; omega
        obtain ⟨⟨t1, t2⟩, ht⟩ : ∃ t, ms[j]? = some t := ⟨ms[j], List.getElem?_eq_getElem hlj⟩
        have hz : zs[j]? = some (zs.getD j 0) := by rw [List.getD_eq_getElem?_getD, List.getElem?_eq_getElem hjz]; rfl
        have hzb := HZ.out j _ hz
        have hx := zip_get ht hz
        have HX := Lib.hid (HTK.out j _ _ ht hz)
        have hb24 := HBM.out j _ hx
        have hb0 := (HBI.out j).1
        obtain ⟨p1, q1⟩ := HPI.out j _ hx 0 (by omega) (by show (0 : Int) < zs.getD j 0; omega)
        obtain ⟨p2, q2⟩ := HPI.out j _ hx (zs.getD j 0 - 1) (by omega) (by show zs.getD j 0 - 1 < zs.getD j 0; omega)
        rcases (HU5.out.below hb) with ⟨a9, c9, hv9, ha9, _, _⟩
        injection hv9 with hv91 _ hv93
        subst hv91 hv93
        rcases ha9 with h0 | ⟨A, off, rfl, hA, hcz⟩
        · subst h0; simp at hjz
        have e1 := hcz j hjz
        rcases (HT5.out.below hb (.inr (Nat.le_refl _))).form with ⟨hv8, hv82⟩ | ⟨g, cg, hv8, hg, hg2, hgs, hcap8, hmax8, hc8⟩
        · subst hv82; simp at hlj
        injection hv8 with hv81 _ hv83
        subst hv81 hv83
        obtain ⟨m0, m1⟩ := hc8 j _ ht
        simp only at m0 m1
        have HV6 := Lib.hid (HV5.out.below hb)
        rw [Int.add_zero] at p1 q1
        have HP1 := Lib.hid (fun w h => HPA.out (.slice ai ms.length ci) (bsm ((ms.zip zs).take j)) w h)
        rw [p1, q1] at HP1
        have HP2 := Lib.hid (fun w h => HPA.out (.slice ai ms.length ci) (bsm ((ms.zip zs).take j) + (zs.getD j 0 - 1)) w h)
        rw [p2, q2] at HP2
        simp only at HP1 HP2 hb24
        clear ht hz hx p1 q1 p2 q2 hc8 hcz hb
        generalize bsm ((ms.zip zs).take j) = at9 at HP1 HP2 HX hb24 hb0
        generalize zs.getD j 0 = z at HP2 HX hb24 hzb e1
        have wz : IntKind.i64.wrap (at9 + z) = at9 + z := IntWalk.i64_in _ (by omega)
        have wz1 : IntKind.i64.wrap (at9 + z - 1) = at9 + (z - 1) := by rw [IntWalk.i64_in _ (by omega)]; omega
        have hj0 : (0 : Int) ≤ (j : Int) := by omega
        have hj1 : (j : Int) < (ms.length : Int) := by omega
        have hj2 : (j : Int) < (zs.length : Int) := by omega
        go_wp2_with (fail)
        (go_at_call 25; refine (HP1.out _ HV6.out).mono ?_; rintro e w6 ⟨rfl, hb6⟩)
        have hz6 := hb6.size
        have c6 := (hb6.cell (p := ⟨A, off + j, none⟩) hA).trans e1
        have n60 := (hb6.cell (p := ⟨g, j * 2, none⟩) hgs).trans m0
        have n61 := (hb6.cell (p := ⟨g, j * 2 + 1, none⟩) hgs).trans m1
        have hA6 : A < w6.heap.size := by omega
        have hg6 : g < w6.heap.size := by omega
        have hbx6 := (Below.refl w6.heap.size w6).alloc (Nat.le_refl _) (.cells #[.int .i64 t1, .bool t2] 44)
        have HA6 := Lib.hid (heap_alloc_new w6 (.cells #[.int .i64 t1, .bool t2] 44))
        have HV7 := Lib.hid ((HV6.out.below hb6).below hbx6)
        have HB7 := Lib.hid (bl_step (bl_step HB.out hb6) hbx6)
        clear hb6 hbx6 e1 m0 m1
        go_wp2_with (fail)
        (go_at_call 25; refine (HP2.out _ HV7.out).mono ?_; rintro e w7 ⟨rfl, hb7⟩)
        have hz7 : w6.heap.size < w7.heap.size := by have := hb7.size; rw [World.size_alloc] at this; omega
        have ha7 := (hb7.block w6.heap.size (by rw [World.size_alloc]; omega)).trans HA6.out
        obtain ⟨x0, x1⟩ := box2_pt ha7
        obtain ⟨hcc, _, _⟩ := bl hb7
        have c7 := ((hcc A (off + j) (by rw [World.size_alloc]; omega)).trans (World.cell?_alloc_lt _ _ _ hA6)).trans c6
        have n70 := ((hcc g (j * 2) (by rw [World.size_alloc]; omega)).trans (World.cell?_alloc_lt _ _ _ hg6)).trans n60
        have n71 := ((hcc g (j * 2 + 1) (by rw [World.size_alloc]; omega)).trans (World.cell?_alloc_lt _ _ _ hg6)).trans n61
        have HB8 := Lib.hid (bl_step HB7.out hb7)
        clear hb7 hcc ha7 c6 n60 n61 HA6
        go_wp2
        obtain ⟨W, hW⟩ : ∃ W, W = w7.alloc (.cells #[.int .i64 t1, .bool t2] 44) := ⟨_, rfl⟩
        have y0 : W.cell? ⟨w7.heap.size, 0, none⟩ = some (.int .i64 t1) := by rw [hW]; exact (box2_pt (heap_alloc_new w7 _)).1
        have y1 : W.cell? ⟨w7.heap.size, 1, none⟩ = some (.bool t2) := by rw [hW]; exact (box2_pt (heap_alloc_new w7 _)).2
        have z0 : W.cell? ⟨w6.heap.size, 0, none⟩ = some (.int .i64 t1) := by rw [hW, World.cell?_alloc_lt _ _ _ hz7]; exact x0
        have z1 : W.cell? ⟨w6.heap.size, 1, none⟩ = some (.bool t2) := by rw [hW, World.cell?_alloc_lt _ _ _ hz7]; exact x1
        have k0 : W.cell? ⟨g, j * 2, none⟩ = some (.int .i64 t1) := by rw [hW, World.cell?_alloc_lt _ _ _ (Nat.lt_trans hg6 hz7)]; exact n70
        have k1 : W.cell? ⟨g, j * 2 + 1, none⟩ = some (.bool t2) := by rw [hW, World.cell?_alloc_lt _ _ _ (Nat.lt_trans hg6 hz7)]; exact n71
        have k2 : W.cell? ⟨A, off + j, none⟩ = some (.int .i64 z) := by rw [hW, World.cell?_alloc_lt _ _ _ (Nat.lt_trans hA6 hz7)]; exact c7
        have HB9 : Hid (Below w5.heap.size w5 W) := by rw [hW]; exact HB8.out.alloc HB8.out.size _
        have HEND := Lib.hid (fun m => bl_q8p (W' := W.drewN m) HB9.out ⟨m, rfl⟩)
        rw [← hW]
        clear hW x0 x1 c7 n70 n71
        go_quiet (fail)
        go_wp2
        go_roundw
        case rel => exact ⟨j + 1, by omega, by go_num, by rw [HX.out], HEND.out _⟩
        case measure => simp [intOf]; omega
      · have HE := Lib.hid (bl_step HW5.out hb)
        clear hb
        go_wp2
        go_ret
        exact ⟨rfl, HE.out⟩
set_option maxRecDepth 100000 in
theorem fnPart_lifted (os : Os) (started : os.Started) (H : Type) (enc : TypeId × Value → H) :
    ReturnsInHanded {} Try.checked os 5 .any (Rows.fnPartSpec.pre6 enc Try.prog Try.f5 Rows.fnPartRow.domain false) (Rows.fnPartSpec.post enc Try.prog Try.f5 false true false false) := by
  refine returnsInHanded_of_change (C := Try.checked) own started (by kernel_rfl) Try.func5
    (ChangeSpec.witness6 (enc := enc) (C := Try.checked) false ⟨#[], #[.slice none 0 0], []⟩ 8 (by kernel_rfl) (by kernel_rfl) (by kernel_rfl) (by kernel_rfl)) ?_
  intro W base args ds gs before hval0 hW _ _
  have hval : ∀ (j : Nat) t v, Try.f5.params[j]? = some t → args[j]? = some v → Value.okWide Try.prog W .any base t v := hval0
  have hW' := hW
  obtain ⟨p, q, hA0, hV, rfl, _, _⟩ := hW
  have hA : DataW.TrodAll enc Try.prog W 0 (fun _ => true) true Try.f5.params.toList args.toList ds p := hA0
  rw [Try.params5] at hA hval
  obtain ⟨v0, vs0, d0, ds0, p0, q0, hargs, rfl, rfl, h0, r0⟩ := trodAll_cons hA
  obtain ⟨rfl, rfl, rfl⟩ := trodAll_nil r0
  obtain rfl : args = #[v0] := by cases args; simp_all
  obtain ⟨rfl, rfl⟩ := trodVars_none hV
  obtain ⟨a0, n0, c0, rfl⟩ := okWide_slice Try.underlying22 (hval 0 22 v0 rfl rfl)
  have k0 := h0
  have lt0 : ∀ x ∈ p0, x.block < W.heap.size := by obtain ⟨m, hm⟩ := k0; exact DataW.trod_lt m _ _ _ hm
  have y0 := code_in h0
  clear hA0 hval0
  refine (fnPart_walk a0 n0 c0 W y0.1 y0.2.1 y0.2.2).mono fun e W' ⟨he, hb⟩ => ?_
  subst he
  exact ⟨_, rfl, _, _, _, [], _, [], hW', trodAll_cons_mk (shut_bool Try.underlying4 _) trodAll_mk0, trodAll_cons_mk (Below.trod laidOut (by kernel_rfl) (of_decide_eq_true (by kernel_rfl)) k0 hb lt0) (trodAll_mk0), rfl, hb.frame _, fun h => by cases h⟩

theorem fnPart_holds : Rows.FnPartSaid :=
  OpenClaim.holds_of_wide 5 Try.f5 rfl rfl rfl rfl rfl rfl rfl ⟨rfl, rfl, rfl, rfl, rfl⟩ rfl rfl rfl rfl rfl (by kernel_rfl) Try.func5 (by kernel_rfl)
    (of_decide_eq_true (by kernel_rfl)) (by unfold Func.isWrapper; first | (rw [if_pos (by decide +kernel)]; kernel_rfl) | (rw [if_neg (by decide +kernel)]; exact ⟨rfl, rfl⟩))
    (fun os started H enc _ => fnPart_lifted os started H enc)

end Go.Proofs.Ythmkjdmjhngpjaa
