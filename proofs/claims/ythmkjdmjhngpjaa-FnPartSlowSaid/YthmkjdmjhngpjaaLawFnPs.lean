/-
  The law FnPartSlow: for every code, a slower part sounds alike.
-/
import Derived.Test.YthmkjdmjhngpjaaPs
import Derived.Test.YthmkjdmjhngpjaaSla
import Derived.Test.YthmkjdmjhngpjaaSv8
import Derived.Test.YthmkjdmjhngpjaaDps
import Derived.Test.YthmkjdmjhngpjaaOpen
namespace Go.Proofs.Ythmkjdmjhngpjaa
open Go.RowKit Go.ChangeShapes Go.WideShapes Go.ChangeAt
set_option maxRecDepth 100000
set_option linter.unusedVariables false

theorem box2_ps {W : World} {g : Nat} {x y : Value} {T : TypeId} (h : W.heap[g]? = some (.cells #[x, y] T (0, 0))) : W.cell? ⟨g, 0, none⟩ = some x ∧ W.cell? ⟨g, 1, none⟩ = some y := by
  constructor <;> simp [World.cell?, h]

set_option maxHeartbeats 4000000 in
theorem soundsLike_yes (v u : Value) (xs ys : List Vc) (w : World) (h : VV w v xs) (k : VV w u ys) (hx : pval xs = true) (hy : pval ys = true) (hs : snd8 xs = snd8 ys) :
    Calls Try.prog 31 #[v, u] w fun e w' => e = .returned (.bool true) ∧ Below w.heap.size w w' := by
  have HB1 := Lib.hid (fun w' (hb : Below w.heap.size w w') => partBeats_any v xs w' (h.below (w' := w') hb))
  have HB2 := Lib.hid (fun w' (hb : Below w.heap.size w w') => partBeats_any u ys w' (k.below (w' := w') hb))
  have HA1 := Lib.hid (fun w' (hb : Below w.heap.size w w') (j : Int) => partAt_any v xs j w' (h.below (w' := w') hb))
  have HA2 := Lib.hid (fun w' (hb : Below w.heap.size w w') (j : Int) => partAt_any u ys j w' (k.below (w' := w') hb))
  have hbx := pbt_yes hx
  have hby := pbt_yes hy
  have lx := snd_len (pval_in hx).1
  have ly := snd_len (pval_in hy).1
  have hxy : bsm xs = bsm ys := by rw [← lx, ← ly, hs]
  obtain ⟨n, hn⟩ : ∃ n : Nat, bsm xs = (n : Int) := ⟨(snd8 xs).length, lx.symm⟩
  have h24 := (pval_in hx).2.2
  have HP : Hid (∀ j : Nat, j < n → patOk xs (j : Int) = true ∧ patOk ys (j : Int) = true ∧ patT xs (j : Int) = patT ys (j : Int)) := fun j hj => by
    have o1 := patOk_yes hx (k := (j : Int)) (by omega) (by omega)
    have o2 := patOk_yes hy (k := (j : Int)) (by omega) (by omega)
    exact ⟨o1, o2, by rw [patT_yes o1, patT_yes o2, hs]⟩
  rw [hbx, hn] at HB1
  rw [hby, ← hxy, hn] at HB2
  have hn24 : n ≤ 24 := by omega
  clear h k hx hy hs hbx hby lx ly hxy hn h24
  go_enter Try.func31, Try.ntmps31
  go_wp2_with (fail)
  (go_at_call 24; refine (HB1.out _ (Below.refl _ _)).mono ?_; rintro e w1 ⟨rfl, hb1⟩)
  have HW1 := Lib.hid hb1
  clear hb1
  go_wp2
  go_loopw [6] (fun i wr => ∃ j : Nat, j ≤ n ∧ i = .int .i64 (j : Int) ∧ Below w.heap.size w wr) (fun i _ => n - (intOf i).toNat)
  case atStart => exact ⟨0, by omega, rfl, HW1.out⟩
  case round =>
    obtain ⟨j, hj, rfl, hb⟩ := hrel
    have HB := Lib.hid hb
    clear hb
    by_cases hlt : j < n
    · obtain ⟨o1, o2, ot⟩ := HP.out j hlt
      have H1 := Lib.hid (fun w' hb => HA1.out w' hb (j : Int))
      have H2 := Lib.hid (fun w' hb => HA2.out w' hb (j : Int))
      rw [o1, ot] at H1
      rw [o2] at H2
      clear o1 o2 ot
      generalize patT ys (j : Int) = t at H1 H2
      obtain ⟨t1, t2⟩ := t
      simp only at H1 H2
      go_wp2_with (fail)
      (go_at_call 25; refine (H1.out _ HB.out).mono ?_; rintro e w2 ⟨rfl, hb2⟩)
      have HA := Lib.hid (heap_alloc_new w2 (.cells #[.int .i64 t1, .bool t2] 44))
      have h2 := bl_step HB.out hb2
      have HW2 := Lib.hid (h2.alloc h2.size (.cells #[.int .i64 t1, .bool t2] 44))
      clear hb2 h2
      go_wp2_with (fail)
      (go_at_call 25; refine (H2.out _ HW2.out).mono ?_; rintro e w3 ⟨rfl, hb3⟩)
      have hz3 : w2.heap.size < w3.heap.size := by have := hb3.size; rw [World.size_alloc] at this; omega
      have ha3 := (hb3.block w2.heap.size (by rw [World.size_alloc]; omega)).trans HA.out
      obtain ⟨a0, a1⟩ := box2_ps ha3
      have h3 := bl_step HW2.out hb3
      have HW3 := Lib.hid (h3.alloc h3.size (.cells #[.int .i64 t1, .bool t2] 44))
      clear hb3 h3 ha3 HA
      go_wp2
      go_roundw
      case rel => exact ⟨j + 1, by omega, by go_num, HW3.out⟩
      case measure => simp [intOf]; omega
    · have hjn : j = n := by omega
      subst hjn
      go_wp2_with (fail)
      (go_at_call 24; refine (HB2.out _ HB.out).mono ?_; rintro e w5 ⟨rfl, hb5⟩)
      have HW5 := Lib.hid (bl_step HB.out hb5)
      clear hb5
      go_wp2
      go_ret
      exact ⟨rfl, HW5.out⟩

set_option maxHeartbeats 8000000 in
theorem fnPartSlow_walk (a : Option Addr) (n cap : Nat) (w : World) (h : CodeAt w a n) (hc : n ≤ cap) (hcap : cap ≤ maxLen) :
    Calls Try.prog 8 #[.slice a n cap] w fun e w' => e = .returned (.bool true) ∧ Below w.heap.size w w' := by
  by_cases hn : 1048576 < n
  · have g : (1048576 : Int) < (n : Int) := by omega
    go_enter Try.func8, Try.ntmps8
    go_wp2
    go_ret
    exact ⟨rfl, Below.refl _ _⟩
  have g : decide ((1048576 : Int) < (n : Int)) = false := by simp; omega
  have gn : decide (1048576 < n) = false := decide_eq_false hn
  go_enter Try.func8, Try.ntmps8
  go_wp2_with (fail)
  (go_at_call 28; refine (drawPartSlow_any a n cap _ h hc hcap).mono ?_; rintro e w1 ⟨v, xs, rfl, hv, hb1⟩)
  clear h hc hcap g hn gn
  have HV1 := Lib.hid hv
  obtain ⟨av, cv, rfl, hav, hcv1, hcv2⟩ := hv
  have HW1 := Lib.hid hb1
  have HI := Lib.hid (fun w h => partSlow_any (.slice av xs.length cv) xs w h)
  have HS := Lib.hid (fun w h => sPartSlow_any (.slice av xs.length cv) xs w h)
  have HY := Lib.hid (fun v u w h k => sameVoicesV_yes v u (psL xs) w h k)
  have HSL := Lib.hid (fun e => soundsLike_yes (xs := psL xs) (ys := xs) (v := e) (u := .slice av xs.length cv))
  have HPV := Lib.hid (fun v w h => partValid8_any v (psL xs) w h)
  unfold VBuilt2 at HI HS
  have HF : Hid (pval xs = true → pval (psL xs) = true ∧ snd8 (psL xs) = snd8 xs ∧ adj (psL xs) ∧ (psL xs).length ≤ xs.length) := fun e => by
    unfold psL
    rw [if_pos e]
    have h1 := (pval_in e).1
    have h2 := slw_len xs xs.length
    rw [List.take_length] at h2
    exact ⟨(slw_val e).1, slw_snd h1, slw_adj h1, h2⟩
  have hpl := psL_len xs
  unfold maxLen at hcv2
  clear hb1 hav
  generalize hps : psL xs = ps at HI HS HY HSL HPV HF hpl
  clear hps
  obtain ⟨ok, hok⟩ : ∃ ok, pval xs = ok := ⟨_, rfl⟩
  have HOK := Lib.hid hok
  rw [hok] at HI HS HF
  clear hok
  go_wp2_with (fail)
  (go_at_call 29; refine (HI.out _ HV1.out).mono ?_; rintro e w2 ⟨vi, rfl, ri, hb2⟩)
  have HV2 := Lib.hid (HV1.out.below hb2)
  have HI2 := Lib.hid ri.view
  have HW2 := Lib.hid (bl_step HW1.out hb2)
  clear hb2 ri
  go_wp2_with (fail)
  (go_at_call 30; refine (HS.out _ HV2.out).mono ?_; rintro e w3 ⟨vs, rfl, rs, hb3⟩)
  have HV3 := Lib.hid (HV2.out.below hb3)
  have HI3 := Lib.hid (HI2.out.below hb3)
  have HS3 := Lib.hid rs.view
  have HW3 := Lib.hid (bl_step HW2.out hb3)
  clear hb3 rs
  go_wp2_with (fail)
  (go_at_call 23; refine (HY.out _ _ _ HI3.out HS3.out).mono ?_; rintro e w4 ⟨rfl, hb4⟩)
  have HV4 := Lib.hid (HV3.out.below hb4)
  have HI4 := Lib.hid (HI3.out.below hb4)
  have HS4 := Lib.hid (HS3.out.below hb4)
  have HW4 := Lib.hid (bl_step HW3.out hb4)
  clear hb4
  cases ok with
  | false =>
    go_wp2_with (fail)
    (go_at_call 23; refine (HY.out _ _ _ HI4.out HS4.out).mono ?_; rintro e w5 ⟨rfl, hb5⟩)
    have HW5 := Lib.hid (bl_step HW4.out hb5)
    clear hb5
    go_wp2
    go_ret
    exact ⟨rfl, HW5.out⟩
  | true =>
    obtain ⟨f1, f2, f3, f4⟩ := HF.out rfl
    have HADJ := Lib.hid f3
    have HF1 := Lib.hid f1
    have HF2 := Lib.hid f2
    have gl : decide ((ps.length : Int) ≤ (xs.length : Int)) = true := decide_eq_true (by omega)
    have gl2 : decide (ps.length ≤ xs.length) = true := decide_eq_true f4
    rw [f1] at HPV
    clear f1 f2 f3
    obtain ⟨ai, ci, rfl, hai, hci1, hci2⟩ := HI4.out
    unfold maxLen at hci2
    have HAI := Lib.hid hai
    clear hai
    go_wp2
    go_loopw [8] (fun i wr => ∃ j : Nat, i = .int .i64 ((j : Int) + 1) ∧ j ≤ ps.length ∧ ∃ md, wr = w4.drewN md) (fun i _ => ps.length + 1 - (intOf i).toNat)
    case atStart => exact ⟨0, rfl, by omega, 0, rfl⟩
    case round =>
      obtain ⟨j, rfl, hj, md, hwr⟩ := hrel
      have HWR := Lib.hid hwr
      clear hwr
      by_cases hlt : j + 1 < ps.length
      · obtain ⟨A, off, s, b, m, rfl, hx, c0, c1, c2⟩ := voice_at HAI.out (Below.refl _ _) hlt
        obtain ⟨A2, off2, s2, b2, m2, hA2, hx2, e0, e1, e2⟩ := voice_at HAI.out (Below.refl _ _) (show j < ps.length by omega)
        injection hA2 with hA2
        injection hA2 with hA21 hA22
        subst hA21 hA22
        have hadj := HADJ.out j _ _ hx2 hx
        simp only at hadj
        have d0 : wr.cell? ⟨A, off + (j + 1) * 3, none⟩ = some (.int .i64 s) := by rw [HWR.out]; exact c0
        have d1 : wr.cell? ⟨A, off + (j + 1) * 3 + 1, none⟩ = some (.bool b) := by rw [HWR.out]; exact c1
        have d2 : wr.cell? ⟨A, off + (j + 1) * 3 + 2, none⟩ = some (.int .i64 m) := by rw [HWR.out]; exact c2
        have p0 : wr.cell? ⟨A, off + j * 3, none⟩ = some (.int .i64 s2) := by rw [HWR.out]; exact e0
        have p1 : wr.cell? ⟨A, off + j * 3 + 1, none⟩ = some (.bool b2) := by rw [HWR.out]; exact e1
        have p2 : wr.cell? ⟨A, off + j * 3 + 2, none⟩ = some (.int .i64 m2) := by rw [HWR.out]; exact e2
        have hv1 := vok_in (all_get (pval_in HF1.out).1 hx)
        have hv2 := vok_in (all_get (pval_in HF1.out).1 hx2)
        simp only at hv1 hv2
        have gj : (j : Int) + 1 < (ps.length : Int) := by omega
        have gj2 : (j : Int) < (ps.length : Int) := by omega
        have wj : IntKind.i64.wrap ((j : Int) + 1 - 1) = (j : Int) := by rw [show (j : Int) + 1 - 1 = (j : Int) by omega]; exact IntWalk.i64_in _ (by omega)
        have wj2 : IntKind.i64.wrap (j : Int) = (j : Int) := IntWalk.i64_in _ (by omega)
        have wj3 : IntKind.i64.wrap ((j : Int) + 1 + 1) = (j : Int) + 1 + 1 := IntWalk.i64_in _ (by omega)
        have wm : IntKind.i64.wrap (m + m2) = m + m2 := IntWalk.i64_in _ (by omega)
        have HEND : Hid (∀ nq, ∃ md2, wr.drewN nq = w4.drewN md2) := fun nq => ⟨md + nq, by rw [HWR.out, World.drewN_drewN]⟩
        clear c0 c1 c2 e0 e1 e2 hx hx2 hv1 hv2
        by_cases hs : s = s2
        · subst hs
          by_cases hbb : b = b2
          · subst hbb
            have g9 : decide (m + m2 ≤ 3) = false := decide_eq_false (fun e => hadj ⟨rfl, e⟩)
            clear hadj
            go_wp2
            go_quiet (fail)
            go_wp2
            go_roundw
            case rel => exact ⟨j + 1, by first | rfl | go_num, by omega, HEND.out _⟩
            case measure => simp [intOf]; omega
          · have g2 : (b == b2) = false := beq_eq_false_iff_ne.2 hbb
            have g3 : decide (b = b2) = false := decide_eq_false hbb
            clear hadj
            go_wp2
            go_quiet (fail)
            go_wp2
            go_roundw
            case rel => exact ⟨j + 1, by first | rfl | go_num, by omega, HEND.out _⟩
            case measure => simp [intOf]; omega
        · have g2 : (s == s2) = false := beq_eq_false_iff_ne.2 hs
          have g3 : decide (s = s2) = false := decide_eq_false hs
          clear hadj
          go_wp2
          go_quiet (fail)
          go_wp2
          go_roundw
          case rel => exact ⟨j + 1, by first | rfl | go_num, by omega, HEND.out _⟩
          case measure => simp [intOf]; omega
      · have gj : decide ((j : Int) + 1 < (ps.length : Int)) = false := decide_eq_false (by omega)
        have hbl0 : Below w4.heap.size w4 wr := by rw [HWR.out]; exact ⟨rfl, rfl, rfl, Nat.le_refl _, fun _ _ => rfl⟩
        have HV5 := Lib.hid (HV4.out.below hbl0)
        have HI5 := Lib.hid (HI4.out.below hbl0)
        have HW5 := Lib.hid (bl_step HW4.out hbl0)
        clear hbl0
        have HSL2 := Lib.hid (HSL.out _ wr HI5.out HV5.out HF1.out HOK.out HF2.out)
        go_wp2_with (fail)
        (go_at_call 31; refine (HSL2.out).mono ?_; rintro e w6 ⟨rfl, hb6⟩)
        have HI6 := Lib.hid (HI5.out.below hb6)
        have HW6 := Lib.hid (bl_step HW5.out hb6)
        clear hb6
        go_wp2_with (fail)
        (go_at_call 32; refine (HPV.out _ _ HI6.out).mono ?_; rintro e w7 ⟨rfl, hb7⟩)
        have HW7 := Lib.hid (bl_step HW6.out hb7)
        clear hb7
        go_wp2
        go_ret
        exact ⟨rfl, HW7.out⟩
set_option maxRecDepth 100000 in
theorem fnPartSlow_lifted (os : Os) (started : os.Started) (H : Type) (enc : TypeId × Value → H) :
    ReturnsInHanded {} Try.checked os 8 .any (Rows.fnPartSlowSpec.pre6 enc Try.prog Try.f8 Rows.fnPartSlowRow.domain false) (Rows.fnPartSlowSpec.post enc Try.prog Try.f8 false true false false) := by
  refine returnsInHanded_of_change (C := Try.checked) own started (by kernel_rfl) Try.func8
    (ChangeSpec.witness6 (enc := enc) (C := Try.checked) false ⟨#[], #[.slice none 0 0], []⟩ 8 (by kernel_rfl) (by kernel_rfl) (by kernel_rfl) (by kernel_rfl)) ?_
  intro W base args ds gs before hval0 hW _ _
  have hval : ∀ (j : Nat) t v, Try.f8.params[j]? = some t → args[j]? = some v → Value.okWide Try.prog W .any base t v := hval0
  have hW' := hW
  obtain ⟨p, q, hA0, hV, rfl, _, _⟩ := hW
  have hA : DataW.TrodAll enc Try.prog W 0 (fun _ => true) true Try.f8.params.toList args.toList ds p := hA0
  rw [Try.params8] at hA hval
  obtain ⟨v0, vs0, d0, ds0, p0, q0, hargs, rfl, rfl, h0, r0⟩ := trodAll_cons hA
  obtain ⟨rfl, rfl, rfl⟩ := trodAll_nil r0
  obtain rfl : args = #[v0] := by cases args; simp_all
  obtain ⟨rfl, rfl⟩ := trodVars_none hV
  obtain ⟨a0, n0, c0, rfl⟩ := okWide_slice Try.underlying22 (hval 0 22 v0 rfl rfl)
  have k0 := h0
  have lt0 : ∀ x ∈ p0, x.block < W.heap.size := by obtain ⟨m, hm⟩ := k0; exact DataW.trod_lt m _ _ _ hm
  have y0 := code_in h0
  clear hA0 hval0
  refine (fnPartSlow_walk a0 n0 c0 W y0.1 y0.2.1 y0.2.2).mono fun e W' ⟨he, hb⟩ => ?_
  subst he
  exact ⟨_, rfl, _, _, _, [], _, [], hW', trodAll_cons_mk (shut_bool Try.underlying4 _) trodAll_mk0, trodAll_cons_mk (Below.trod laidOut (by kernel_rfl) (of_decide_eq_true (by kernel_rfl)) k0 hb lt0) (trodAll_mk0), rfl, hb.frame _, fun h => by cases h⟩

theorem fnPartSlow_holds : Rows.FnPartSlowSaid :=
  OpenClaim.holds_of_wide 8 Try.f8 rfl rfl rfl rfl rfl rfl rfl ⟨rfl, rfl, rfl, rfl, rfl⟩ rfl rfl rfl rfl rfl (by kernel_rfl) Try.func8 (by kernel_rfl)
    (of_decide_eq_true (by kernel_rfl)) (by unfold Func.isWrapper; first | (rw [if_pos (by decide +kernel)]; kernel_rfl) | (rw [if_neg (by decide +kernel)]; exact ⟨rfl, rfl⟩))
    (fun os started H enc _ => fnPartSlow_lifted os started H enc)

end Go.Proofs.Ythmkjdmjhngpjaa
