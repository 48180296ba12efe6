/-
  The law FnSingBest: for every code, the best list sings the melody, and with one step replaced it is no better.
-/
import Derived.Test.YtbmgejiinnnomabCode
import Derived.Test.YtbmgejiinnnomabDrawM
import Derived.Test.YtbmgejiinnnomabSmI
import Derived.Test.YtbmgejiinnnomabSg8
import Derived.Test.YtbmgejiinnnomabSbn
import Derived.Test.YtbmgejiinnnomabSing5
namespace Go.Proofs.Ytbmgejiinnnomab
open Go.RowKit Go.ChangeShapes Go.WideShapes Go.ChangeAt
set_option maxRecDepth 100000
set_option linter.unusedVariables false

def DrewSb (most : Nat) (w : World) (e : Ending) (w' : World) : Prop :=
  ∃ v xs, e = .returned v ∧ TRow w' w.heap.size w'.heap.size v xs ∧ xs.length ≤ most ∧ Below w.heap.size w w'
theorem drewSb {B A q most : Nat} {w w1 w2 : World} {v : Value} {xs : List (Int × Bool)} (h : DmInv w1 w2 B A q v xs) (hl : xs.length ≤ most) (hb : Below w.heap.size w w1) (hB : w.heap.size ≤ B) : DrewSb most w (.returned v) w2 :=
  ⟨v, xs, rfl, ⟨tmono h.own hb.size, fun g hg => (h.own.lt g hg).2⟩, hl, below_gb hb h.gb hB⟩
theorem drawSingBest_any (a : Option Addr) (n cap : Nat) (w : World) (h : CodeAt w a n) (hc : n ≤ cap) (hcap : cap ≤ maxLen) :
    Calls Try.prog 7 #[.slice a n cap] w (DrewSb 10 w) := by
  go_enter Try.func7, Try.ntmps7
  go_wp2_with (fail)
  (go_at_call 25; refine (open_any a n cap _ h hc hcap).mono ?_; rintro e w1 ⟨A, rfl, hr1, hb1, hs1⟩)
  go_wp2_with (fail)
  (go_at_call 24; refine (l91Melody_any w.heap.size A 0 10 (by omega) (by omega) _ hr1).mono ?_; rintro e w2 ⟨v, xs, rfl, hI, hl⟩)
  have HE := Lib.hid (drewSb hI hl hb1 (Nat.le_refl _))
  clear hI hr1
  go_wp2
  go_ret
  exact HE.out

theorem mutTo_chs (zs : List Int) : mutTo zs (zs.length - 1) = (chs zs : Int) := by
  have key : ∀ (r : List Int) (a : Int), mutTo (a :: r) r.length = (chs (a :: r) : Int) := by
    intro r
    induction r with
    | nil => intro a; rfl
    | cons b r ih =>
      intro a
      have h := ih b
      unfold mutTo at h ⊢
      rw [List.length_cons, List.range_succ_eq_map, List.filter_cons, List.filter_map]
      have e : ((fun i => (a :: b :: r).getD (i + 1) 0 != (a :: b :: r).getD i 0) ∘ Nat.succ) = fun i => (b :: r).getD (i + 1) 0 != (b :: r).getD i 0 := by
        funext i; rfl
      rw [e]
      have e0 : (a :: b :: r).getD (0 + 1) 0 = b := rfl
      have e1 : (a :: b :: r).getD 0 0 = a := rfl
      rw [e0, e1]
      show _ = ((chg a b + chs (b :: r) : Nat) : Int)
      by_cases hab : b = a
      · subst hab
        simp [chg] at h ⊢
        omega
      · have h2 : ¬ a = b := fun e => hab e.symm
        simp [chg, hab, h2] at h ⊢
        omega
  cases zs with
  | nil => rfl
  | cons a r => exact key r a
theorem sings_len {l : List Int} {xs : List (Int × Bool)} (h : sings l xs) : l.length = xs.length := by
  induction l generalizing xs with
  | nil => cases xs with
    | nil => rfl
    | cons t r => exact absurd h (by simp [sings])
  | cons y l ih => cases xs with
    | nil => exact absurd h (by simp [sings])
    | cons u r => simp [ih h.2]
theorem sings_at {l : List Int} {xs : List (Int × Bool)} (h : sings l xs) {i : Nat} {t : Int × Bool} (ht : xs[i]? = some t) : l.getD i 0 ∈ hx t := by
  induction l generalizing xs i with
  | nil => cases xs with
    | nil => simp at ht
    | cons t r => exact absurd h (by simp [sings])
  | cons y l ih => cases xs with
    | nil => exact absurd h (by simp [sings])
    | cons u r => cases i with
      | zero => simp at ht; subst ht; exact h.1
      | succ i => exact ih h.2 (by simpa using ht)
theorem sings_smu {l : List Int} {xs : List (Int × Bool)} (hm : mv xs = true) (h : sings l xs) : smu xs l = (chs l : Int) := by
  have hs : sok xs l = true := sok_yes hm (sings_len h) (List.all_eq_true.2 fun i hi => by
    have hi' : i < xs.length := by simpa using hi
    have ht := List.getElem?_eq_getElem hi'
    have h1 := sings_at h ht
    have h2 := (List.mem_filter.1 h1).2
    rw [List.getD_eq_getElem?_getD (l := xs), ht]
    simpa [inHex] using h2)
  rw [smu_yes hs, mutTo_chs]

theorem irow_set {w : World} {lo hi g n cap i : Nat} {xs : List Int} {x : Int} (h : IRow w lo hi (.slice (some ⟨g, 0, none⟩) n cap) xs) (hin : i < n) : IRow (w.setCell ⟨g, i, none⟩ (.int .i64 x)) lo hi (.slice (some ⟨g, 0, none⟩) n cap) (xs.set i x) := by
  obtain ⟨⟨hl, h1 | ⟨g', cap', cur, hv, hg, hh, hn, hm, hs, ht⟩⟩, hlt⟩ := h
  · cases h1.1
  · injection hv with hv1 hv3 hv2
    injection hv1 with hv1
    injection hv1 with hv1
    subst hv1 hv2
    refine ⟨⟨by simp, .inr ⟨g, cap, cur.setIfInBounds i (.int .i64 x), by simp [hv3], hg, by simp [World.setCell, Array.getElem?_modify, hh], by simpa using hn, hm, by simpa using hs, ?_⟩⟩, hlt⟩
    rw [List.length_set, Array.toList_setIfInBounds, List.take_set, ht, List.map_set]

set_option maxHeartbeats 8000000 in
theorem fnSingBest_walk (a : Option Addr) (n cap : Nat) (w : World) (h : CodeAt w a n) (hc : n ≤ cap) (hcap : cap ≤ maxLen) :
    Calls Try.prog 3 #[.slice a n cap] w fun e w' => e = .returned (.bool true) ∧ Below w.heap.size w w' := by
  by_cases hn : 1048576 < n
  · have g : (1048576 : Int) < (n : Int) := by omega
    go_enter Try.func3, Try.ntmps3
    go_wp2
    go_ret
    exact ⟨rfl, Below.refl _ _⟩
  have g : decide ((1048576 : Int) < (n : Int)) = false := by simp; omega
  obtain ⟨i0, hi0, hq0, hq1, hq2⟩ := info_parts infoIb
  go_enter Try.func3, Try.ntmps3
  go_wp2_with (fail)
  (go_at_call 7; refine (drawSingBest_any a n cap _ h hc hcap).mono ?_; rintro e w1 ⟨v, xs, rfl, hr1, hx9, hb1⟩)
  clear h hc hcap g hn
  have hle := sbL_len xs
  go_wp2_with (fail)
  (go_at_call 8; refine (singBest_any _ _ v xs _ hr1).mono ?_; rintro e w2 ⟨u, rfl, hu, hb2⟩)
  have hr2 := hr1.below hb2 (.inl (Nat.le_refl _))
  have hbw2 := bl_step hb1 hb2
  clear hr1
  go_wp2_with (fail)
  (go_at_call 9; refine (sSingBest_any _ _ v xs _ hr2).mono ?_; rintro e w3 ⟨u', rfl, hu', hb3⟩)
  have hr3 := hr2.below hb3 (.inl hb2.size)
  have hu3 := hu.below hb3 (.inl (Nat.le_refl _))
  have hbw3 := bl_step hbw2 hb3
  clear hr2 hu
  go_wp2_with (fail)
  (go_at_call 10; refine (sameInts_yes _ _ _ _ u u' (sbL xs) (by omega) _ hu3 hu').mono ?_; rintro e w4 ⟨rfl, hb4⟩)
  have hr4 := hr3.below hb4 (.inl (Nat.le_trans hb2.size hb3.size))
  have hu4 := hu3.below hb4 (.inl hb3.size)
  have hu4' := hu'.below hb4 (.inl (Nat.le_refl _))
  have hbw4 := bl_step hbw3 hb4
  clear hr3 hu3 hu'
  by_cases ho : sbB xs = false
  · rw [ho]
    go_wp2_with (fail)
    (go_at_call 10; refine (sameInts_yes _ _ _ _ u u' (sbL xs) (by omega) _ hu4 hu4').mono ?_; rintro e w5 ⟨rfl, hb5⟩)
    have HE := Lib.hid (bl_step hbw4 hb5)
    clear hr4 hu4 hu4'
    go_wp2
    go_ret
    exact ⟨by first | rfl | simp, HE.out⟩
  rw [Bool.not_eq_false] at ho
  rw [ho]
  obtain ⟨hmv, hgo⟩ : mv xs = true ∧ sgo xs = true := by simpa [sbB] using ho
  rw [(sb_yes hmv hgo).1] at hle hu4 hu4'
  have hsg := sgb_sings hgo
  have hL := sings_len hsg
  have hN := sings_smu hmv hsg
  have KN : ∀ (i : Nat) (z : Int) (s : Int) (b : Bool), xs[i]? = some (s, b) → z ∈ hall s b 21 → ∃ y : Nat, smu xs ((sgb xs).set i z) = (y : Int) ∧ chs (sgb xs) ≤ y ∧ (chs (sgb xs) = y → (sgb xs).getD i 0 ≤ z) := fun i z s b ht hz => by
    have hi' : i < (sgb xs).length := by rw [hL]; exact (List.getElem?_eq_some_iff.1 ht).1
    have h1 := sgb_swap hgo (t := (s, b)) ht hz hi'
    refine ⟨_, sings_smu hmv (sings_set hsg (t := (s, b)) ht hz), h1.1, fun e => ?_⟩
    rw [List.getD_eq_getElem?_getD, List.getElem?_eq_getElem hi']
    exact h1.2 e
  have HK := Lib.hid KN
  have HN := Lib.hid hN
  clear KN hN hsg ho hmv hgo hu4'
  generalize sgb xs = S at hle hu4 hL HK HN
  go_wp2_with (fail)
  (go_at_call 11; refine (singMutations_any _ _ _ _ v u xs S _ hr4 hu4).mono ?_; rintro e w5 ⟨rfl, hb5⟩)
  rw [HN.out]
  have hr5 := hr4.below hb5 (.inl (by have := hb2.size; have := hb3.size; have := hb4.size; omega))
  have hu5 := hu4.below hb5 (.inl (by have := hb3.size; have := hb4.size; omega))
  have hbw5 := bl_step hbw4 hb5
  have hw25 : w2.heap.size ≤ w5.heap.size := by have := hb3.size; have := hb4.size; have := hb5.size; omega
  have hw15 : w1.heap.size ≤ w5.heap.size := by have := hb2.size; omega
  clear hr4 hu4 HN
  obtain ⟨N, eN⟩ : ∃ N, chs S = N := ⟨_, rfl⟩
  rw [eN] at HK ⊢
  clear eN
  obtain ⟨va, vc, rfl, hat⟩ := hr5.at_
  obtain ⟨ua, uc, rfl⟩ := hu5.sl rfl
  have HAt := Lib.hid hat
  have HIu := Lib.hid (IAt.of hu5)
  have HR := Lib.hid hr5
  have HU := Lib.hid hu5
  have HL := Lib.hid hL
  clear hat hr5 hu5 hL hb2 hb3 hb4 hb5 hbw2 hbw3 hbw4
  have HB0 := Lib.hid (Below.refl w5.heap.size w5)
  go_wp2
  go_loopg [9] S.length (fun k i wr => ∃ j : Nat, j + k = S.length ∧ i = .int .i64 (j : Int) ∧ Below w5.heap.size w5 wr)
  case atStart => exact ⟨0, by omega, rfl, HB0.out⟩
  case round =>
    clear HB0
    obtain ⟨j, hj, rfl, hb⟩ := hrel
    have HJ := Lib.hid hj
    have HB := Lib.hid hb
    by_cases hlt : j < S.length
    · obtain ⟨s, b, ht, _⟩ := drop_at (show j < xs.length by have := HL.out; omega)
      obtain ⟨g, rfl, hgs, e1, e2⟩ := HAt.out j s b ht
      replace e1 := (hb.cell (p := ⟨g, j * 2, none⟩) hgs).trans e1
      replace e2 := (hb.cell (p := ⟨g, j * 2 + 1, none⟩) hgs).trans e2
      have hx : S[j]? = some (S.getD j 0) := by rw [List.getD_eq_getElem?_getD, List.getElem?_eq_getElem hlt]; rfl
      obtain ⟨gu, rfl, hgu, cu⟩ := HIu.out.cell hx
      have HKj : Hid (∀ z, z ∈ rall s b 7 → ∃ y : Nat, smu xs (S.set j z) = (y : Int) ∧ N ≤ y ∧ (N = y → S.getD j 0 ≤ z)) := fun z hz => HK.out j z s b ht (by rw [hall_rall]; exact hz)
      have p0 : (0 : Int) ≤ (j : Int) := by omega
      have p1 : (j : Int) < (xs.length : Int) := by have := HL.out; omega
      have p2 : (j : Int) < (S.length : Int) := by omega
      have h7 := rall_len s b 7
      clear hb hj ht hx
      go_wp2_with (fail)
      (go_at_call 12; refine (hexAll_any s b _).mono ?_; rintro e w6 ⟨q, rfl, hq, hb6⟩)
      generalize rall s b 7 = A at hq HKj h7
      obtain ⟨qa, qc, rfl⟩ := hq.sl rfl
      have HQ := Lib.hid (IAt.of hq)
      have HB6 := Lib.hid (bl_step HB.out hb6)
      have HB60 := Lib.hid (Below.refl w6.heap.size w6)
      clear hq hb6 e1 e2
      generalize S.getD j 0 = old at HKj cu
      go_wp2
      go_loopg [11] A.length (fun k i wx => ∃ t : Nat, t + k = A.length ∧ i = .int .i64 (t : Int) ∧ Below w6.heap.size w6 wx)
      case atStart => exact ⟨0, by omega, rfl, HB60.out⟩
      case round =>
        clear HB60
        obtain ⟨t, ht, rfl, hbx⟩ := hrel
        have HT := Lib.hid ht
        have HBx := Lib.hid hbx
        have HBr := Lib.hid (bl_step HB6.out hbx)
        by_cases hlt2 : t < A.length
        · obtain ⟨z, hz⟩ : ∃ z, A[t]? = some z := ⟨_, List.getElem?_eq_getElem hlt2⟩
          obtain ⟨y, ey, y0, y1⟩ := HKj.out z (List.mem_of_getElem? hz)
          obtain ⟨gq, rfl, hgq, cq⟩ := HQ.out.cell hz
          replace cq := (hbx.cell (p := ⟨gq, t, none⟩) hgq).trans cq
          have cu' := (HBr.out.cell (p := ⟨gu, j, none⟩) hgu).trans cu
          have q0 : (0 : Int) ≤ (t : Int) := by omega
          have q1 : (t : Int) < (A.length : Int) := by omega
          have HUx := Lib.hid (HU.out.below HBr.out (.inl hw25))
          have HRx := Lib.hid (HR.out.below HBr.out (.inl hw15))
          have hsz := HBr.out.size
          have hsx := hbx.size
          clear ht hbx hz
          go_wp2_with (at_builtin; refine wpList_append_grows _ rfl _ _ 25 rfl 3 i0 (.int .i64 0) 1 8 Try.underlying25 hi0 hq0 hq1 hq2 rfl (by decide) (some ⟨wr.heap.size, 0, none⟩) 0 0 [] rfl (fun e => by cases e) rfl (fun b _ j u hj => by simp at hj) ⟨gu, 0, none⟩ S.length uc (S.map (Value.int .i64)) rfl ?f3 ?f4 ?f5 ?f6 ?f7 ?f8 ?_)
          case f3 => simp
          case f4 =>
            intro j' u' hj'
            rw [List.getElem?_map] at hj'
            cases hp : S[j']? with
            | none => rw [hp] at hj'; cases hj'
            | some q' =>
              rw [hp] at hj'
              have e : Value.int .i64 q' = u' := by simpa using hj'
              subst e
              obtain ⟨g1, hg1, hgl, hc1⟩ := HIu.out.cell hp
              cases hg1
              rw [Addr.add_lit]
              have := (HBr.out.cell (p := ⟨gu, j', none⟩) hgl).trans hc1
              simp only [Nat.zero_add]
              rw [World.cell?_of_block (heap_alloc_old wr (.cells #[] 3 (0, 0)) (show gu < wr.heap.size by omega))]
              exact this
          case f5 =>
            intro u' hu'
            obtain ⟨q', _, rfl⟩ := List.mem_map.1 hu'
            rfl
          case f6 => omega
          case f7 => unfold maxLen; omega
          case f8 => omega
          intro v' w7 hown hg7
          have hb7 : Below wr.heap.size wr w7 := ⟨hg7.os, hg7.tape, hg7.output, by have := hg7.size; simp at this; omega, fun k hk => (hg7.block k (by simp; omega) (by simp)).trans (heap_alloc_old wr _ hk)⟩
          obtain ⟨gx, cx, rfl⟩ : ∃ gx cx, v' = .slice (some ⟨gx, 0, none⟩) S.length cx := by
            obtain ⟨_, h1 | ⟨g', c', _, h1, _⟩⟩ := hown
            · omega
            · exact ⟨g', c', by simpa using h1⟩
          have hX : IRow w7 wr.heap.size w7.heap.size (.slice (some ⟨gx, 0, none⟩) S.length cx) S := ⟨by have h1 := own_mono hown (show wr.heap.size ≤ _ by simp); simpa using h1, fun g' hg' => (own_ltb hown hg').2⟩
          have hgx : wr.heap.size ≤ gx := (own_ltb hX.1 rfl).1
          have hX2 := irow_set (x := z) hX hlt
          obtain ⟨vX, cX, fX⟩ : ∃ vX, w7.cell? ⟨gx, j, none⟩ = some vX ∧ w7.frozen? ⟨gx, j, none⟩ = false := by
            rcases hX.form with ⟨h1, _⟩ | ⟨g', c', cur, h1, _, _, _, _, _, _, _, _, hc', hf'⟩
            · cases h1
            · injection h1 with h1
              injection h1 with h1
              injection h1 with h1
              subst h1
              exact ⟨_, hc' j hlt, hf' j⟩
          have cq7 := (hb7.cell (p := ⟨gq, t, none⟩) (by show gq < wr.heap.size; omega)).trans cq
          have hbS := hb7.setCell (p := ⟨gx, j, none⟩) hgx (.int .i64 z)
          have hRS := HRx.out.below hbS (.inl (Nat.le_trans hw15 hsz))
          have hbS2 := bl_step HBr.out hbS
          have HX2 := Lib.hid hX2
          have HRS := Lib.hid hRS
          have HbS := Lib.hid hbS
          have HUS := Lib.hid ((hbS2.cell (p := ⟨gu, j, none⟩) hgu).trans cu)
          have HQS := Lib.hid ((hbS.cell (p := ⟨gq, t, none⟩) (by show gq < wr.heap.size; omega)).trans cq)
          clear hown hg7 hX hX2 hRS hbS hbS2 cu' cq
          obtain ⟨W8, e8⟩ : ∃ W8, W8 = w7.setCell ⟨gx, j, none⟩ (.int .i64 z) := ⟨_, rfl⟩
          rw [← e8] at HX2 HRS HbS HUS HQS
          have H8 := Lib.hid e8
          clear e8
          go_wp2_with (fail)
          rw [← H8.out]
          (go_at_call 11; refine (singMutations_any _ _ _ _ _ _ xs (S.set j z) _ HRS.out HX2.out).mono ?_; rintro e w9 ⟨rfl, hb9⟩)
          rw [ey]
          have HE : Hid (∀ k, Below w6.heap.size w6 (w9.drewN k)) := fun k => (bl_step HBx.out (bl_step HbS.out hb9)).trans ⟨rfl, rfl, rfl, Nat.le_refl _, fun _ _ => rfl⟩
          have cu9 := (hb9.cell (p := ⟨gu, j, none⟩) (by have := HbS.out.size; show gu < W8.heap.size; omega)).trans HUS.out
          have cq9 := (hb9.cell (p := ⟨gq, t, none⟩) (by have := HbS.out.size; show gq < W8.heap.size; omega)).trans HQS.out
          have d1 : decide ((y : Int) < (N : Int)) = false := by simp; exact y0
          have d2 : ¬ y < N := by omega
          by_cases hyN : N = y
          · have h3 := y1 hyN
            subst hyN
            have d3 : decide (z < old) = false := by simp; exact h3
            clear ey y0 y1 hb9
            go_wp2
            go_quiet (fail)
            go_wp2
            have ht := HT.out
            go_roundg (gk - 1)
            case measure => omega
            case rel => exact ⟨t + 1, by omega, by simp, HE.out _⟩
          · have d4 : ((y : Int) == (N : Int)) = false := by rw [beq_eq_false_iff_ne]; omega
            have d5 : ¬ y = N := fun e => hyN e.symm
            clear ey y0 y1 hb9
            go_wp2
            go_quiet (fail)
            go_wp2
            have ht := HT.out
            go_roundg (gk - 1)
            case measure => omega
            case rel => exact ⟨t + 1, by omega, by simp, HE.out _⟩
        · have ht0 : t = A.length := by omega
          subst ht0
          have HE := Lib.hid HBr.out
          clear ht hbx HBr HBx
          go_wp2
          have hj := HJ.out
          go_roundg (S.length - j - 1)
          case measure => omega
          case rel => exact ⟨j + 1, by omega, by simp, HE.out⟩
    · have hj0 : j = S.length := by omega
      have HE := Lib.hid (bl_step hbw5 hb)
      clear hb hj
      subst hj0
      go_wp2
      go_ret
      exact ⟨by first | rfl | simp, HE.out⟩

set_option maxRecDepth 100000 in
theorem fnSingBest_lifted (os : Os) (started : os.Started) (H : Type) (enc : TypeId × Value → H) :
    ReturnsInHanded {} Try.checked os 3 .any (Rows.fnSingBestSpec.pre6 enc Try.prog Try.f3 Rows.fnSingBestRow.domain false) (Rows.fnSingBestSpec.post enc Try.prog Try.f3 false true false false) := by
  refine returnsInHanded_of_change (C := Try.checked) own started (by kernel_rfl) Try.func3
    (ChangeSpec.witness6 (enc := enc) (C := Try.checked) false ⟨#[], #[.slice none 0 0], []⟩ 8 (by kernel_rfl) (by kernel_rfl) (by kernel_rfl) (by kernel_rfl)) ?_
  intro W base args ds gs before hval0 hW _ _
  have hval : ∀ (j : Nat) t v, Try.f3.params[j]? = some t → args[j]? = some v → Value.okWide Try.prog W .any base t v := hval0
  have hW' := hW
  obtain ⟨p, q, hA0, hV, rfl, _, _⟩ := hW
  have hA : DataW.TrodAll enc Try.prog W 0 (fun _ => true) true Try.f3.params.toList args.toList ds p := hA0
  rw [Try.params3] at hA hval
  obtain ⟨v0, vs0, d0, ds0, p0, q0, hargs, rfl, rfl, h0, r0⟩ := trodAll_cons hA
  obtain ⟨rfl, rfl, rfl⟩ := trodAll_nil r0
  obtain rfl : args = #[v0] := by cases args; simp_all
  obtain ⟨rfl, rfl⟩ := trodVars_none hV
  obtain ⟨a0, n0, c0, rfl⟩ := okWide_slice Try.underlying22 (hval 0 22 v0 rfl rfl)
  have k0 := h0
  have lt0 : ∀ x ∈ p0, x.block < W.heap.size := by obtain ⟨m, hm⟩ := k0; exact DataW.trod_lt m _ _ _ hm
  have y0 := code_in h0
  clear hA0 hval0
  refine (fnSingBest_walk a0 n0 c0 W y0.1 y0.2.1 y0.2.2).mono fun e W' ⟨he, hb⟩ => ?_
  subst he
  exact ⟨_, rfl, _, _, _, [], _, [], hW', trodAll_cons_mk (shut_bool Try.underlying4 _) trodAll_mk0, trodAll_cons_mk (Below.trod laidOut (by kernel_rfl) (of_decide_eq_true (by kernel_rfl)) k0 hb lt0) (trodAll_mk0), rfl, hb.frame _, fun h => by cases h⟩

theorem fnSingBest_holds : Rows.FnSingBestSaid :=
  OpenClaim.holds_of_wide 3 Try.f3 rfl rfl rfl rfl rfl rfl rfl ⟨rfl, rfl, rfl, rfl, rfl⟩ rfl rfl rfl rfl rfl (by kernel_rfl) Try.func3 (by kernel_rfl)
    (of_decide_eq_true (by kernel_rfl)) (by unfold Func.isWrapper; first | (rw [if_pos (by decide +kernel)]; kernel_rfl) | (rw [if_neg (by decide +kernel)]; exact ⟨rfl, rfl⟩))
    (fun os started H enc _ => fnSingBest_lifted os started H enc)

end Go.Proofs.Ytbmgejiinnnomab
