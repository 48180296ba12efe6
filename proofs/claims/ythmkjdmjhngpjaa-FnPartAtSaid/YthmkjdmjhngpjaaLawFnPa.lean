/-
  The law FnPartAt: for every code, tones last for their beats.
-/
import Derived.Test.YthmkjdmjhngpjaaDpa
import Derived.Test.YthmkjdmjhngpjaaOpen
import Derived.BigQuiet
namespace Go.Proofs.Ythmkjdmjhngpjaa
open Go.RowKit Go.ChangeShapes Go.WideShapes Go.ChangeAt
set_option maxRecDepth 100000
set_option linter.unusedVariables false

theorem box2_pa {W : World} {g : Nat} {x y : Value} {T : TypeId} (h : W.heap[g]? = some (.cells #[x, y] T (0, 0))) : W.cell? ⟨g, 0, none⟩ = some x ∧ W.cell? ⟨g, 1, none⟩ = some y := by
  constructor <;> simp [World.cell?, h]
theorem patOk_in {xs : List Vc} {k : Int} (h : patOk xs k = true) : pval xs = true ∧ 0 ≤ k ∧ k < bsm xs := by
  simpa [patOk, and_assoc] using h
/-- has a voice this tone -/
def hasT (t : Int × Bool) (xs : List Vc) : Bool := xs.any fun x => decide (x.1 = t)
theorem hasT_next {t : Int × Bool} {xs : List Vc} {j : Nat} {x : Vc} (h : xs[j]? = some x) : hasT t (xs.take (j + 1)) = (hasT t (xs.take j) || decide (x.1 = t)) := by
  unfold hasT
  rw [List.take_add_one, h, List.any_append]
  simp
theorem hasT_at {xs : List Vc} {k : Int} (h : patOk xs k = true) : hasT (patT xs k) xs = true := by
  obtain ⟨hp, h0, h1⟩ := patOk_in h
  rw [patT_yes h]
  have hl := snd_len (pval_in hp).1
  have hm := List.mem_of_getElem? (tnA_get (ts := snd8 xs) (k := k.toNat) (by omega))
  simp only [snd8, List.mem_flatMap] at hm
  obtain ⟨x, hx, ht⟩ := hm
  unfold hasT
  rw [List.any_eq_true]
  exact ⟨x, hx, by rw [decide_eq_true_eq]; exact (List.mem_replicate.1 ht).2.symm⟩

set_option maxHeartbeats 8000000 in
theorem fnPartAt_walk (a : Option Addr) (n cap : Nat) (w : World) (h : CodeAt w a n) (hc : n ≤ cap) (hcap : cap ≤ maxLen) :
    Calls Try.prog 7 #[.slice a n cap] w fun e w' => e = .returned (.bool true) ∧ Below w.heap.size w w' := by
  by_cases hn : 1048576 < n
  · have g : (1048576 : Int) < (n : Int) := by omega
    go_enter Try.func7, Try.ntmps7
    go_wp2
    go_ret
    exact ⟨rfl, Below.refl _ _⟩
  have g : decide ((1048576 : Int) < (n : Int)) = false := by simp; omega
  go_enter Try.func7, Try.ntmps7
  go_wp2_with (fail)
  (go_at_call 26; refine (drawPartAt_any a n cap _ h hc hcap).mono ?_; rintro e w1 ⟨v, xs, k, rfl, hv, k0, k1, hb1⟩)
  clear h hc hcap g hn
  have HVV := Lib.hid hv
  obtain ⟨av, cv, rfl, hav, hcv1, hcv2⟩ := hv
  unfold maxLen at hcv2
  have HI := Lib.hid (fun w h => partAt_any (.slice av xs.length cv) xs k w h)
  have HS := Lib.hid (fun w h => sPartAt_any (.slice av xs.length cv) xs k w h)
  have HPB := Lib.hid (fun w h => partBeats_any (.slice av xs.length cv) xs w h)
  have HI2 := Lib.hid (fun z w h => partAt_any (.slice av xs.length cv) xs z w h)
  have HOK := Lib.hid (fun e => patOk_in (xs := xs) (k := k) e)
  have HHT := Lib.hid (fun e => hasT_at (xs := xs) (k := k) e)
  have HW1 := Lib.hid hb1
  clear hb1 hav
  generalize patT xs k = t at HI HS HHT
  obtain ⟨t1, t2⟩ := t
  simp only at HI HS
  obtain ⟨ok, hok⟩ : ∃ ok, patOk xs k = ok := ⟨_, rfl⟩
  rw [hok] at HI HS HOK HHT
  clear hok
  have bxb : ∀ (W : World), Below W.heap.size W (W.alloc (.cells #[.int .i64 t1, .bool t2] 44)) := fun W => (Below.refl _ _).alloc (Nat.le_refl _) _
  have HBX := Lib.hid bxb
  clear bxb
  go_wp2_with (fail)
  (go_at_call 25; refine (HI.out _ HVV.out).mono ?_; rintro e w2 ⟨rfl, hb2⟩)
  have HV2 := Lib.hid ((HVV.out.below hb2).below (HBX.out w2))
  have HW2 := Lib.hid (bl_step (bl_step HW1.out hb2) (HBX.out w2))
  have HA2 := Lib.hid (heap_alloc_new w2 (.cells #[.int .i64 t1, .bool t2] 44))
  clear hb2
  go_wp2_with (fail)
  (go_at_call 27; refine (HS.out _ HV2.out).mono ?_; rintro e w3 ⟨rfl, hb3⟩)
  have hz3 : w2.heap.size < w3.heap.size := by have := hb3.size; rw [World.size_alloc] at this; omega
  have ha3 := (hb3.block w2.heap.size (by rw [World.size_alloc]; omega)).trans HA2.out
  have HA3 := Lib.hid ha3
  have HV3 := Lib.hid ((HV2.out.below hb3).below (HBX.out w3))
  have HW3 := Lib.hid (bl_step (bl_step HW2.out hb3) (HBX.out w3))
  obtain ⟨a0, a1⟩ := box2_pa ha3
  clear hb3 ha3 HA2
  cases ok with
  | false =>
    clear HHT HOK HPB HI2
    go_wp2
    go_ret
    exact ⟨rfl, HW3.out⟩
  | true =>
    obtain ⟨hp, p0, p1⟩ := HOK.out rfl
    have HT := Lib.hid (HHT.out rfl)
    have hbt := pbt_yes hp
    have hn2 : patOk xs (pbt xs) = false := patOk_no3 (by rw [hbt]; exact Int.le_refl _)
    have HI3 := Lib.hid (fun w h => HI2.out (pbt xs) w h)
    rw [patT_no hn2, hn2] at HI3
    rw [← hbt] at p1
    clear hp p0 hbt hn2 HI2 HOK HHT
    generalize pbt xs = z at HPB HI3 p1
    have gz : decide (k < z) = true := decide_eq_true p1
    go_wp2
    obtain ⟨W, hW⟩ : ∃ W, W = w3.alloc (.cells #[.int .i64 t1, .bool t2] 44) := ⟨_, rfl⟩
    have b0 : W.cell? ⟨w2.heap.size, 0, none⟩ = some (.int .i64 t1) := by rw [hW, World.cell?_alloc_lt _ _ _ hz3]; exact a0
    have b1 : W.cell? ⟨w2.heap.size, 1, none⟩ = some (.bool t2) := by rw [hW, World.cell?_alloc_lt _ _ _ hz3]; exact a1
    rw [← hW] at HV3 HW3 ⊢
    clear hW a0 a1 HA3 hz3
    go_loopw [9, 10] (fun q i wr => ∃ j : Nat, j ≤ xs.length ∧ i = .int .i64 (j : Int) ∧ q = .bool (hasT (t1, t2) (xs.take j)) ∧ ∃ md, wr = W.drewN md) (fun _ i _ => xs.length - (intOf i).toNat)
    case atStart => exact ⟨0, by omega, rfl, rfl, 0, rfl⟩
    case round =>
      obtain ⟨j, hj, rfl, rfl, md, hwr⟩ := hrel
      have HWR := Lib.hid hwr
      clear hwr
      by_cases hlj : j < xs.length
      · obtain ⟨ag, cg, hvv, hag, _, _⟩ := HV3.out
        injection hvv with hvv1 hvv2 hvv3
        subst hvv1 hvv3
        clear hvv2
        obtain ⟨A, off, s, b, m, rfl, hx, c0, c1, c2⟩ := voice_at hag (Below.refl _ _) hlj
        have HX := Lib.hid (hasT_next (t := (t1, t2)) hx)
        have d0 : wr.cell? ⟨A, off + j * 3, none⟩ = some (.int .i64 s) := by rw [HWR.out]; exact c0
        have d1 : wr.cell? ⟨A, off + j * 3 + 1, none⟩ = some (.bool b) := by rw [HWR.out]; exact c1
        have d2 : wr.cell? ⟨w2.heap.size, 0, none⟩ = some (.int .i64 t1) := by rw [HWR.out]; exact b0
        have d3 : wr.cell? ⟨w2.heap.size, 1, none⟩ = some (.bool t2) := by rw [HWR.out]; exact b1
        have hj0 : (0 : Int) ≤ (j : Int) := by omega
        have hj1 : (j : Int) < (xs.length : Int) := by omega
        have HEND : Hid (∀ nq, ∃ md2, wr.drewN nq = W.drewN md2) := fun nq => ⟨md + nq, by rw [HWR.out, World.drewN_drewN]⟩
        clear c0 c1 c2 hx hag
        cases hh : hasT (t1, t2) (xs.take j) with
        | true =>
          rw [hh] at HX
          clear hh
          go_wp2
          go_quiet (fail)
          go_wp2
          go_roundw
          case rel => exact ⟨j + 1, by omega, by go_num, by rw [HX.out]; rfl, HEND.out _⟩
          case measure => simp [intOf]; omega
        | false =>
          rw [hh] at HX
          clear hh
          by_cases he : s = t1
          · subst he
            by_cases hbb : b = t2
            · subst hbb
              rw [show decide (((s, b), m).1 = (s, b)) = true from decide_eq_true rfl] at HX
              go_wp2
              go_quiet (fail)
              go_wp2
              go_roundw
              case rel => exact ⟨j + 1, by omega, by go_num, by rw [HX.out]; rfl, HEND.out _⟩
              case measure => simp [intOf]; omega
            · have g2 : (b == t2) = false := beq_eq_false_iff_ne.2 hbb
              have g3 : decide (b = t2) = false := decide_eq_false hbb
              rw [show decide (((s, b), m).1 = (s, t2)) = false from decide_eq_false (fun e => hbb (congrArg Prod.snd e))] at HX
              go_wp2
              go_quiet (fail)
              go_wp2
              go_roundw
              case rel => exact ⟨j + 1, by omega, by go_num, by rw [HX.out]; rfl, HEND.out _⟩
              case measure => simp [intOf]; omega
          · have g2 : (s == t1) = false := beq_eq_false_iff_ne.2 he
            have g3 : decide (s = t1) = false := decide_eq_false he
            rw [show decide (((s, b), m).1 = (t1, t2)) = false from decide_eq_false (fun e => he (congrArg Prod.fst e))] at HX
            go_wp2
            go_quiet (fail)
            go_wp2
            go_roundw
            case rel => exact ⟨j + 1, by omega, by go_num, by rw [HX.out]; rfl, HEND.out _⟩
            case measure => simp [intOf]; omega
      · have hjn : j = xs.length := by omega
        subst hjn
        rw [List.take_length, HT.out]
        have hbl0 : Below W.heap.size W wr := by rw [HWR.out]; exact ⟨rfl, rfl, rfl, Nat.le_refl _, fun _ _ => rfl⟩
        have HVr := Lib.hid (HV3.out.below hbl0)
        have HWr := Lib.hid (bl_step HW3.out hbl0)
        clear hbl0 HT
        go_wp2_with (fail)
        (go_at_call 24; refine (HPB.out _ HVr.out).mono ?_; rintro e w5 ⟨rfl, hb5⟩)
        have HV5 := Lib.hid (HVr.out.below hb5)
        have HW5 := Lib.hid (bl_step HWr.out hb5)
        clear hb5
        go_wp2_with (fail)
        (go_at_call 25; refine (HI3.out _ HV5.out).mono ?_; rintro e w6 ⟨rfl, hb6⟩)
        have hb7 := (Below.refl w6.heap.size w6).alloc (Nat.le_refl _) (.cells #[.int .i64 0, .bool false] 44)
        have HV6 := Lib.hid ((HV5.out.below hb6).below hb7)
        have HW6 := Lib.hid (bl_step (bl_step HW5.out hb6) hb7)
        clear hb6 hb7
        go_wp2_with (fail)
        (go_at_call 24; refine (HPB.out _ HV6.out).mono ?_; rintro e w8 ⟨rfl, hb8⟩)
        have HW8 := Lib.hid (bl_step HW6.out hb8)
        clear hb8
        go_wp2
        go_ret
        exact ⟨rfl, HW8.out⟩
set_option maxRecDepth 100000 in
theorem fnPartAt_lifted (os : Os) (started : os.Started) (H : Type) (enc : TypeId × Value → H) :
    ReturnsInHanded {} Try.checked os 7 .any (Rows.fnPartAtSpec.pre6 enc Try.prog Try.f7 Rows.fnPartAtRow.domain false) (Rows.fnPartAtSpec.post enc Try.prog Try.f7 false true false false) := by
  refine returnsInHanded_of_change (C := Try.checked) own started (by kernel_rfl) Try.func7
    (ChangeSpec.witness6 (enc := enc) (C := Try.checked) false ⟨#[], #[.slice none 0 0], []⟩ 8 (by kernel_rfl) (by kernel_rfl) (by kernel_rfl) (by kernel_rfl)) ?_
  intro W base args ds gs before hval0 hW _ _
  have hval : ∀ (j : Nat) t v, Try.f7.params[j]? = some t → args[j]? = some v → Value.okWide Try.prog W .any base t v := hval0
  have hW' := hW
  obtain ⟨p, q, hA0, hV, rfl, _, _⟩ := hW
  have hA : DataW.TrodAll enc Try.prog W 0 (fun _ => true) true Try.f7.params.toList args.toList ds p := hA0
  rw [Try.params7] at hA hval
  obtain ⟨v0, vs0, d0, ds0, p0, q0, hargs, rfl, rfl, h0, r0⟩ := trodAll_cons hA
  obtain ⟨rfl, rfl, rfl⟩ := trodAll_nil r0
  obtain rfl : args = #[v0] := by cases args; simp_all
  obtain ⟨rfl, rfl⟩ := trodVars_none hV
  obtain ⟨a0, n0, c0, rfl⟩ := okWide_slice Try.underlying22 (hval 0 22 v0 rfl rfl)
  have k0 := h0
  have lt0 : ∀ x ∈ p0, x.block < W.heap.size := by obtain ⟨m, hm⟩ := k0; exact DataW.trod_lt m _ _ _ hm
  have y0 := code_in h0
  clear hA0 hval0
  refine (fnPartAt_walk a0 n0 c0 W y0.1 y0.2.1 y0.2.2).mono fun e W' ⟨he, hb⟩ => ?_
  subst he
  exact ⟨_, rfl, _, _, _, [], _, [], hW', trodAll_cons_mk (shut_bool Try.underlying4 _) trodAll_mk0, trodAll_cons_mk (Below.trod laidOut (by kernel_rfl) (of_decide_eq_true (by kernel_rfl)) k0 hb lt0) (trodAll_mk0), rfl, hb.frame _, fun h => by cases h⟩

theorem fnPartAt_holds : Rows.FnPartAtSaid :=
  OpenClaim.holds_of_wide 7 Try.f7 rfl rfl rfl rfl rfl rfl rfl ⟨rfl, rfl, rfl, rfl, rfl⟩ rfl rfl rfl rfl rfl (by kernel_rfl) Try.func7 (by kernel_rfl)
    (of_decide_eq_true (by kernel_rfl)) (by unfold Func.isWrapper; first | (rw [if_pos (by decide +kernel)]; kernel_rfl) | (rw [if_neg (by decide +kernel)]; exact ⟨rfl, rfl⟩))
    (fun os started H enc _ => fnPartAt_lifted os started H enc)

end Go.Proofs.Ythmkjdmjhngpjaa
