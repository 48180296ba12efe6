/-
  Singing with any part of two lists, in the program; lists of other lengths, in both.
-/
import Derived.Test.YtjodcaeohkjlnaaSing5
import Derived.Test.YtjodcaeohkjlnaaMelA
import Derived.Test.YtjodcaeohkjlnaaParts
namespace Go.Proofs.Ytjodcaeohkjlnaa
open Go.RowKit
set_option maxRecDepth 100000
set_option linter.unusedVariables false

theorem melodyValid_at (a : Option Addr) (cap : Nat) (xs : List (Int × Bool)) (w : World) (h : ArgT w a xs) (hcap : xs.length ≤ cap) (hmax : cap ≤ maxLen) :
    Calls Try.prog 61 #[.slice a xs.length cap] w fun e w' => e = .returned (.bool (mv xs)) ∧ Below w.heap.size w w' := by
  go_enter Try.func61, Try.ntmps61
  go_wp2_with (fail)
  (go_at_call 37; refine (newMelody_at a cap xs _ h hcap hmax).mono ?_; rintro e w1 ⟨p, rfl, hm, hb⟩)
  clear hm
  go_wp2
  go_ret
  exact ⟨rfl, hb⟩

set_option maxHeartbeats 4000000 in
set_option maxRecDepth 100000 in
theorem singOk_at (a : Option Addr) (cap : Nat) (a' : Option Addr) (cap' : Nat) (xs : List (Int × Bool)) (zs : List Int) (w : World) (h : ArgT w a xs) (hcap : xs.length ≤ cap) (hmax : cap ≤ maxLen) (k : ArgI w a' zs) :
    Calls Try.prog 46 #[.slice a xs.length cap, .slice a' zs.length cap'] w fun e w' => e = .returned (.bool (sok xs zs)) ∧ Below w.heap.size w w' := by
  by_cases hv : mv xs = false
  · rw [sok_no1 hv]
    go_enter Try.func46, Try.ntmps46
    go_wp2_with (fail)
    (go_at_call 61; refine (melodyValid_at a cap xs _ h hcap hmax).mono ?_; rintro e w1 ⟨rfl, hb1⟩)
    clear h k
    go_wp2
    go_ret
    exact ⟨rfl, hb1⟩
  rw [Bool.not_eq_false] at hv
  have hlx : xs.length ≤ 24 := by simp [mv] at hv; exact hv.1
  by_cases hl : zs.length = xs.length
  case neg =>
    rw [sok_no2 hl]
    have hl' : ((zs.length : Int) != (xs.length : Int)) = true := by simp; omega
    clear hl
    go_enter Try.func46, Try.ntmps46
    go_wp2_with (fail)
    (go_at_call 61; refine (melodyValid_at a cap xs _ h hcap hmax).mono ?_; rintro e w1 ⟨rfl, hb1⟩)
    clear h k
    go_wp2
    go_ret
    exact ⟨rfl, hb1⟩
  have hl' : ((zs.length : Int) != (xs.length : Int)) = false := by simp; omega
  have HY : Hid (sung xs zs xs.length = true → sok xs zs = true) := fun h3 => sok_yes hv hl h3
  have HN : Hid (∀ j t, xs[j]? = some t → hsy (zs.getD j 0) t.1 t.2 < 0 → sok xs zs = false) := fun j t => sok_no3
  by_cases hx0 : xs.length = 0
  · have hxe : xs = [] := List.eq_nil_of_length_eq_zero hx0
    subst hxe
    have hz : zs = [] := List.eq_nil_of_length_eq_zero hl
    subst hz
    have HE := Lib.hid (HY.out rfl)
    clear HY HN hl hl' hx0
    go_enter Try.func46, Try.ntmps46
    go_wp2_with (fail)
    (go_at_call 61; refine (melodyValid_at a cap [] _ h hcap hmax).mono ?_; rintro e w1 ⟨rfl, hb1⟩)
    clear h k
    go_wp2
    go_rounds 1
    go_ret
    exact ⟨by rw [HE.out]; rfl, hb1⟩
  rcases id h with hh | ⟨g, off, rfl, hgs, hc⟩
  · exact absurd (by rw [hh]; rfl) hx0
  rcases id k with hh | ⟨g', off', rfl, hgs', hc'⟩
  · exact absurd (show xs.length = 0 by rw [← hl, hh]; rfl) hx0
  have HC := Lib.hid hc
  have HC' := Lib.hid hc'
  have HL := Lib.hid hl
  clear hc hc' hx0 hl k
  go_enter Try.func46, Try.ntmps46
  go_wp2_with (fail)
  (go_at_call 61; refine (melodyValid_at _ cap xs _ h hcap hmax).mono ?_; rintro e w1 ⟨rfl, hb1⟩)
  unfold maxLen at hmax
  clear h
  go_wp2
  go_loopw [19] (fun i wr => ∃ k : Nat, k ≤ xs.length ∧ i = .int .i64 k ∧ sung xs zs k = true ∧ Below w.heap.size w wr) (fun i _ => xs.length - (intOf i).toNat)
  case atStart => exact ⟨0, Nat.zero_le _, rfl, rfl, hb1⟩
  case round =>
    obtain ⟨k, hk, rfl, hs, hb⟩ := hrel
    by_cases hlt : k < xs.length
    · have ht : xs[k]? = some xs[k] := List.getElem?_eq_getElem hlt
      obtain ⟨e1, e2⟩ := HC.out k _ ht
      have e3 := HC'.out k (by have := HL.out; omega)
      have e1 := (hb.cell (p := ⟨g, off + k * 2, none⟩) hgs).trans e1
      have e2 := (hb.cell (p := ⟨g, off + k * 2 + 1, none⟩) hgs).trans e2
      have e3 := (hb.cell (p := ⟨g', off' + k, none⟩) hgs').trans e3
      have hk0 : (0 : Int) ≤ (k : Int) := by omega
      have hk1 : (k : Int) < (xs.length : Int) := by omega
      have hk2 : (k : Int) < (zs.length : Int) := by have := HL.out; omega
      by_cases hh : hsy (zs.getD k 0) xs[k].1 xs[k].2 < 0
      · have HF := Lib.hid (HN.out k _ ht hh)
        have hd : decide (hsy (zs.getD k 0) xs[k].1 xs[k].2 < 0) = true := by simpa using hh
        clear hs ht hh
        generalize xs[k] = t at e1 e2 hd
        obtain ⟨s, b⟩ := t
        generalize zs.getD k 0 = z at e3 hd
        go_wp2
        obtain ⟨W, hW⟩ : ∃ W, W = wr.alloc (.cells #[.int .i64 s, .bool b] 32) := ⟨_, rfl⟩
        have f1 : W.cell? ⟨wr.heap.size, 0, none⟩ = some (.int .i64 s) := by rw [hW]; go_simp
        have f2 : W.cell? ⟨wr.heap.size, 1, none⟩ = some (.bool b) := by rw [hW]; go_simp
        have f3 : W.cell? ⟨g', off' + k, none⟩ = some (.int .i64 z) := by rw [hW, World.cell?_alloc_lt _ _ _ (Nat.lt_of_lt_of_le hgs' hb.size)]; exact e3
        have fB : Below w.heap.size w W := by rw [hW]; exact hb.alloc hb.size _
        have fz : wr.heap.size < W.heap.size := by rw [hW]; simp
        have fg : g' < W.heap.size := Nat.lt_trans (Nat.lt_of_lt_of_le hgs' hb.size) fz
        rw [← hW]
        clear hW e1 e2 e3
        go_region_held3 (fun wx => wx.cell? ⟨wr.heap.size, 0, none⟩ = some (.int .i64 s) ∧ wx.cell? ⟨wr.heap.size, 1, none⟩ = some (.bool b) ∧ wx.cell? ⟨g', off' + k, none⟩ = some (.int .i64 z)) (go_keep)
          (first | (go_at_call 17; refine (hexSyllable_any z s b _).mono ?_; rintro e w2 ⟨rfl, hb2⟩; have d1 := (hb2.cell (p := ⟨wr.heap.size, 0, none⟩) fz).trans f1; have d2 := (hb2.cell (p := ⟨wr.heap.size, 1, none⟩) fz).trans f2; have d3 := (hb2.cell (p := ⟨g', off' + k, none⟩) fg).trans f3))
        have hbw := bl_step fB.drew hb2
        clear f1 f2 f3 fB fz fg d1 d2 d3 hb hb2
        go_wp2
        go_ret
        exact ⟨by rw [HF.out]; rfl, hbw⟩
      · have HS := Lib.hid (sung_snoc ht hs (by omega))
        have hd : decide (hsy (zs.getD k 0) xs[k].1 xs[k].2 < 0) = false := by simpa using hh
        clear hs ht hh
        generalize xs[k] = t at e1 e2 hd
        obtain ⟨s, b⟩ := t
        generalize zs.getD k 0 = z at e3 hd
        go_wp2
        obtain ⟨W, hW⟩ : ∃ W, W = wr.alloc (.cells #[.int .i64 s, .bool b] 32) := ⟨_, rfl⟩
        have f1 : W.cell? ⟨wr.heap.size, 0, none⟩ = some (.int .i64 s) := by rw [hW]; go_simp
        have f2 : W.cell? ⟨wr.heap.size, 1, none⟩ = some (.bool b) := by rw [hW]; go_simp
        have f3 : W.cell? ⟨g', off' + k, none⟩ = some (.int .i64 z) := by rw [hW, World.cell?_alloc_lt _ _ _ (Nat.lt_of_lt_of_le hgs' hb.size)]; exact e3
        have fB : Below w.heap.size w W := by rw [hW]; exact hb.alloc hb.size _
        have fz : wr.heap.size < W.heap.size := by rw [hW]; simp
        have fg : g' < W.heap.size := Nat.lt_trans (Nat.lt_of_lt_of_le hgs' hb.size) fz
        rw [← hW]
        clear hW e1 e2 e3
        go_region_held3 (fun wx => wx.cell? ⟨wr.heap.size, 0, none⟩ = some (.int .i64 s) ∧ wx.cell? ⟨wr.heap.size, 1, none⟩ = some (.bool b) ∧ wx.cell? ⟨g', off' + k, none⟩ = some (.int .i64 z)) (go_keep)
          (first | (go_at_call 17; refine (hexSyllable_any z s b _).mono ?_; rintro e w2 ⟨rfl, hb2⟩; have d1 := (hb2.cell (p := ⟨wr.heap.size, 0, none⟩) fz).trans f1; have d2 := (hb2.cell (p := ⟨wr.heap.size, 1, none⟩) fz).trans f2; have d3 := (hb2.cell (p := ⟨g', off' + k, none⟩) fg).trans f3))
        have hbw := bl_step fB.drew hb2
        clear f1 f2 f3 fB fz fg d1 d2 d3 hb hb2
        go_wp2
        go_roundw
        case rel => exact ⟨k + 1, by omega, by go_num, HS.out, hbw⟩
        case measure => simp [intOf]; omega
    · have hk0 : k = xs.length := by omega
      subst hk0
      have HE := Lib.hid (HY.out hs)
      clear hs
      go_wp2
      go_ret
      exact ⟨by rw [HE.out]; rfl, hb⟩

set_option maxHeartbeats 4000000 in
theorem singMutations_at (a : Option Addr) (cap : Nat) (a' : Option Addr) (cap' : Nat) (xs : List (Int × Bool)) (zs : List Int) (w : World) (h : ArgT w a xs) (hcap : xs.length ≤ cap) (hmax : cap ≤ maxLen) (k : ArgI w a' zs) :
    Calls Try.prog 15 #[.slice a xs.length cap, .slice a' zs.length cap'] w fun e w' => e = .returned (.int .i64 (smu xs zs)) ∧ Below w.heap.size w w' := by
  by_cases hv : sok xs zs = false
  · rw [smu_no hv]
    go_enter Try.func15, Try.ntmps15
    go_wp2_with (fail)
    (go_at_call 46; refine (singOk_at a cap a' cap' xs zs _ h hcap hmax k).mono ?_; rintro e w1 ⟨rfl, hb1⟩)
    clear h k
    go_wp2
    go_ret
    exact ⟨rfl, hb1⟩
  rw [Bool.not_eq_false] at hv
  rw [smu_yes hv]
  have hl := sok_len hv
  by_cases hz0 : zs.length = 0
  · have hze : zs = [] := List.eq_nil_of_length_eq_zero hz0
    subst hze
    clear hz0
    go_enter Try.func15, Try.ntmps15
    go_wp2_with (fail)
    (go_at_call 46; refine (singOk_at a cap a' cap' xs [] _ h hcap hmax k).mono ?_; rintro e w1 ⟨rfl, hb1⟩)
    clear h k
    go_wp2
    go_rounds 1
    go_ret
    exact ⟨rfl, hb1⟩
  rcases id k with hh | ⟨g', off', rfl, hgs', hc'⟩
  · exact absurd (by rw [hh]; rfl) hz0
  have HC' := Lib.hid hc'
  clear hc' hz0
  go_enter Try.func15, Try.ntmps15
  go_wp2_with (fail)
  (go_at_call 46; refine (singOk_at a cap _ cap' xs zs _ h hcap hmax k).mono ?_; rintro e w1 ⟨rfl, hb1⟩)
  clear h k hcap hmax
  go_wp2
  clear hv
  go_loopw [5, 6] (fun n i wr => ∃ k : Nat, k ≤ zs.length - 1 ∧ i = .int .i64 ((k : Int) + 1) ∧ n = .int .i64 (mutTo zs k) ∧ Below w.heap.size w wr) (fun _ i _ => zs.length - (intOf i).toNat)
  case atStart => exact ⟨0, Nat.zero_le _, rfl, by simp [mutTo], hb1⟩
  case round =>
    obtain ⟨k, hk, rfl, rfl, hb⟩ := hrel
    by_cases hlt : k + 1 < zs.length
    · have e0 := (hb.cell (p := ⟨g', off' + k, none⟩) hgs').trans (HC'.out k (by omega))
      have e1 := (hb.cell (p := ⟨g', off' + (k + 1), none⟩) hgs').trans (HC'.out (k + 1) hlt)
      obtain ⟨m0, m1⟩ := mutTo_bd zs k
      have hk0 : (0 : Int) ≤ (k : Int) := by omega
      have hk1 : (k : Int) + 1 < (zs.length : Int) := by omega
      have hk2 : (0 : Int) ≤ (k : Int) + 1 := by omega
      have hk3 : (k : Int) < (zs.length : Int) := by omega
      have s1w : IntKind.i64.wrap ((k : Int) + 1 - 1) = (k : Int) := by rw [show (k : Int) + 1 - 1 = (k : Int) by omega]; exact IntWalk.i64_in _ (by omega)
      have s4w : IntKind.i64.wrap (k : Int) = (k : Int) := IntWalk.i64_in _ (by omega)
      have s3w : ((k : Int) + 1).toNat = k + 1 := by omega
      by_cases hm : (zs.getD (k + 1) 0 != zs.getD k 0) = true
      · have HX := Lib.hid (mutTo_hit hm)
        generalize zs.getD (k + 1) 0 = y at e1 hm
        generalize zs.getD k 0 = x at e0 hm
        generalize mutTo zs k = n at m0 m1 HX
        go_wp2
        go_quiet (fail)
        go_wp2
        go_roundw
        case rel => exact ⟨k + 1, by omega, by go_num, by rw [HX.out], bl_drewN5 hb _⟩
        case measure => simp [intOf]; omega
      · rw [Bool.not_eq_true] at hm
        have HX := Lib.hid (mutTo_miss hm)
        generalize zs.getD (k + 1) 0 = y at e1 hm
        generalize zs.getD k 0 = x at e0 hm
        generalize mutTo zs k = n at m0 m1 HX
        go_wp2
        go_quiet (fail)
        go_wp2
        go_roundw
        case rel => exact ⟨k + 1, by omega, by go_num, by rw [HX.out], bl_drewN5 hb _⟩
        case measure => simp [intOf]; omega
    · have hk1 : (zs.length : Int) ≤ (k : Int) + 1 := by omega
      have HE : Hid (k = zs.length - 1) := (by omega : k = zs.length - 1)
      go_wp2
      go_ret
      exact ⟨by rw [← HE.out]; rfl, hb⟩

/-- a list of steps that is not as long as the list of tones -/
theorem sSingMutations_len (lo hi : Nat) (v : Value) (a : Option Addr) (n c : Nat) (xs : List (Int × Bool)) (w : World) (h : TRow w lo hi v xs) (hn : n ≠ xs.length) :
    Calls Try.prog 22 #[v, .slice a n c] w fun e w' => e = .returned (.int .i64 (-1)) ∧ Below w.heap.size w w' := by
  have KO : ∀ W, TRow W lo hi v xs → Calls Try.prog 51 #[v, .slice a n c] W fun e w' => e = .returned (.bool false) ∧ Below W.heap.size W w' := by
    intro W hW
    obtain ⟨va, vc, rfl, _⟩ := hW.argA
    have hl' : ((n : Int) != (xs.length : Int)) = true := by simp; omega
    cases hv : mv xs
    all_goals
      go_enter Try.func51, Try.ntmps51
      go_wp2_with (fail)
      (go_at_call 43; refine (sMelodyValid_any lo hi _ xs _ hW).mono ?_; rintro e w1 ⟨rfl, hb1⟩)
      clear hW h
      go_wp2
      go_ret
      exact ⟨rfl, hb1⟩
  have HK := Lib.hid (KO w h)
  clear KO h
  go_enter Try.func22, Try.ntmps22
  go_wp2_with (fail)
  (go_at_call 51; refine (HK.out).mono ?_; rintro e w1 ⟨rfl, hb1⟩)
  go_wp2
  go_ret
  exact ⟨rfl, hb1⟩
theorem singMutations_len (lo hi : Nat) (v : Value) (a : Option Addr) (n c : Nat) (xs : List (Int × Bool)) (w : World) (h : TRow w lo hi v xs) (hn : n ≠ xs.length) :
    Calls Try.prog 15 #[v, .slice a n c] w fun e w' => e = .returned (.int .i64 (-1)) ∧ Below w.heap.size w w' := by
  have KO : ∀ W, TRow W lo hi v xs → Calls Try.prog 46 #[v, .slice a n c] W fun e w' => e = .returned (.bool false) ∧ Below W.heap.size W w' := by
    intro W hW
    obtain ⟨va, vc, rfl, _⟩ := hW.argA
    have hl' : ((n : Int) != (xs.length : Int)) = true := by simp; omega
    cases hv : mv xs
    all_goals
      go_enter Try.func46, Try.ntmps46
      go_wp2_with (fail)
      (go_at_call 61; refine (melodyValid_any lo hi _ xs _ hW).mono ?_; rintro e w1 ⟨rfl, hb1⟩)
      clear hW h
      go_wp2
      go_ret
      exact ⟨rfl, hb1⟩
  have HK := Lib.hid (KO w h)
  clear KO h
  go_enter Try.func15, Try.ntmps15
  go_wp2_with (fail)
  (go_at_call 46; refine (HK.out).mono ?_; rintro e w1 ⟨rfl, hb1⟩)
  go_wp2
  go_ret
  exact ⟨rfl, hb1⟩

/-- the mutations of both parts -/
theorem mutTo_drop (zs : List Int) (i j : Nat) : mutTo zs (i + j) = mutTo zs i + mutTo (zs.drop i) j := by
  induction j with
  | zero => simp [mutTo]
  | succ j ih =>
    have e1 : (zs.drop i).getD (j + 1) 0 = zs.getD (i + j + 1) 0 := by rw [List.getD_eq_getElem?_getD, List.getElem?_drop, ← List.getD_eq_getElem?_getD, show i + (j + 1) = i + j + 1 by omega]
    have e0 : (zs.drop i).getD j 0 = zs.getD (i + j) 0 := by rw [List.getD_eq_getElem?_getD, List.getElem?_drop, ← List.getD_eq_getElem?_getD]
    cases h : (zs.getD (i + j + 1) 0 != zs.getD (i + j) 0)
    · rw [show i + (j + 1) = i + j + 1 by omega, mutTo_miss h, mutTo_miss (by rw [e1, e0]; exact h), ih]
    · rw [show i + (j + 1) = i + j + 1 by omega, mutTo_hit h, mutTo_hit (by rw [e1, e0]; exact h), ih]; omega
theorem mutTo_take (zs : List Int) (q j : Nat) (h : j + 1 ≤ q) : mutTo (zs.take q) j = mutTo zs j := by
  induction j with
  | zero => simp [mutTo]
  | succ j ih =>
    have e1 : (zs.take q).getD (j + 1) 0 = zs.getD (j + 1) 0 := by rw [List.getD_eq_getElem?_getD, List.getElem?_take_of_lt (by omega), ← List.getD_eq_getElem?_getD]
    have e0 : (zs.take q).getD j 0 = zs.getD j 0 := by rw [List.getD_eq_getElem?_getD, List.getElem?_take_of_lt (by omega), ← List.getD_eq_getElem?_getD]
    cases g : (zs.getD (j + 1) 0 != zs.getD j 0)
    · rw [mutTo_miss g, mutTo_miss (by rw [e1, e0]; exact g), ih (by omega)]
    · rw [mutTo_hit g, mutTo_hit (by rw [e1, e0]; exact g), ih (by omega)]
theorem mut_ends {zs : List Int} {q : Nat} (h : q = 0 ∨ q = zs.length) : mutTo zs (zs.length - 1) = mutTo (zs.take q) ((zs.take q).length - 1) + mutTo (zs.drop q) ((zs.drop q).length - 1) := by
  rcases h with rfl | rfl
  · simp [mutTo]
  · simp [mutTo]
theorem mut_mid {zs : List Int} {q : Nat} (h0 : 0 < q) (h1 : q < zs.length) : mutTo zs (zs.length - 1) = mutTo (zs.take q) ((zs.take q).length - 1) + mutTo (zs.drop q) ((zs.drop q).length - 1) + (if (zs.getD (q - 1) 0 != zs.getD q 0) = true then 1 else 0) := by
  obtain ⟨p, rfl⟩ : ∃ p, q = p + 1 := ⟨q - 1, by omega⟩
  rw [mutTo_take zs (p + 1) _ (by rw [List.length_take]; omega), List.length_take, List.length_drop]
  have e : zs.length - 1 = p + 1 + (zs.length - (p + 1) - 1) := by omega
  rw [show min (p + 1) zs.length - 1 = p by omega, show p + 1 - 1 = p by omega]
  have e2 := mutTo_drop zs (p + 1) (zs.length - (p + 1) - 1)
  rw [← e] at e2
  rw [e2]
  cases g : (zs.getD (p + 1) 0 != zs.getD p 0)
  · have g' : (zs.getD p 0 != zs.getD (p + 1) 0) = false := by rw [bne_comm]; exact g
    rw [mutTo_miss g, g']; simp
  · have g' : (zs.getD p 0 != zs.getD (p + 1) 0) = true := by rw [bne_comm]; exact g
    rw [mutTo_hit g, g']; simp; omega
theorem sok_parts {xs : List (Int × Bool)} {zs : List Int} {q : Nat} (h : sok xs zs = true) (hq : q ≤ xs.length) : sok (xs.take q) (zs.take q) = true ∧ sok (xs.drop q) (zs.drop q) = true ∧ zs.length = xs.length := by
  simp only [sok, Bool.and_eq_true, decide_eq_true_eq] at h
  obtain ⟨⟨hm, hl⟩, hs⟩ := h
  simp only [mv, Bool.and_eq_true, decide_eq_true_eq] at hm
  obtain ⟨hn, ha⟩ := hm
  unfold allv at ha
  rw [List.all_eq_true] at ha
  unfold sung at hs
  rw [List.all_eq_true] at hs
  refine ⟨sok_yes ?_ ?_ ?_, sok_yes ?_ ?_ ?_, hl⟩
  · refine mv_all (by rw [List.length_take]; omega) ?_
    unfold allv
    rw [List.all_eq_true]
    exact fun t ht => ha t (List.mem_of_mem_take ht)
  · rw [List.length_take, List.length_take, hl]
  · unfold sung
    rw [List.all_eq_true]
    intro i hi
    have hi' : i < q := by have := List.mem_range.1 hi; rw [List.length_take] at this; omega
    have := hs i (List.mem_range.2 (by omega))
    simpa [List.getD_eq_getElem?_getD, List.getElem?_take_of_lt hi'] using this
  · refine mv_all (by rw [List.length_drop]; omega) ?_
    unfold allv
    rw [List.all_eq_true]
    exact fun t ht => ha t (List.mem_of_mem_drop ht)
  · rw [List.length_drop, List.length_drop, hl]
  · unfold sung
    rw [List.all_eq_true]
    intro i hi
    have hi' : q + i < xs.length := by have := List.mem_range.1 hi; rw [List.length_drop] at this; omega
    have := hs (q + i) (List.mem_range.2 hi')
    simpa [List.getD_eq_getElem?_getD, List.getElem?_drop] using this
end Go.Proofs.Ytjodcaeohkjlnaa
