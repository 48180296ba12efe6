/-
  The likely mode of a melody, in both programs.
-/
import Derived.Test.YtmipkodgkldmbaaDoorMdAl
namespace Go.Proofs.YtmipkodgkldmbaaDoor
open Go.RowKit
set_option maxRecDepth 100000
set_option linter.unusedVariables false

theorem IRow.flatc {w : World} {lo hi n : Nat} {v : Value} {xs : List Int} (h : IRow w lo hi v xs) (hn : xs.length = n) : ∃ a cap, v = .slice a n cap ∧ (0 < n → ∃ g, a = some ⟨g, 0, none⟩ ∧ g < w.heap.size ∧ ∀ i, i < n → w.cell? ⟨g, i, none⟩ = some (.int .i64 (xs.getD i 0))) := by
  rcases h.form with ⟨rfl, rfl⟩ | ⟨g, cap, cur, rfl, _, _, hg, _, _, _, _, _, hc, _⟩
  · subst hn; exact ⟨none, 0, rfl, fun h => by simp at h⟩
  · subst hn; exact ⟨_, cap, rfl, fun _ => ⟨g, rfl, hg, hc⟩⟩

set_option maxHeartbeats 4000000 in
theorem tenors_at (f t0 l0 h0 : Int) (k : Int) (hk : t0 = mdT k) (a : Option Addr) (cap : Nat) (xs : List (Int × Bool)) (w : World) (h : ArgT w a xs) (hcap : xs.length ≤ cap) (hmax : cap ≤ maxLen) :
    Calls Tryd.prog 55 #[.agg #[.int .i64 f, .int .i64 t0, .int .i64 l0, .int .i64 h0], .slice a xs.length cap] w fun e w' => e = .returned (.int .i64 (tnM xs k)) ∧ Below w.heap.size w w' := by
  unfold maxLen at hmax
  by_cases hx : xs.length = 0
  · have hxe : xs = [] := List.eq_nil_of_length_eq_zero hx
    subst hxe
    clear h hk
    go_enter Tryd.func55, Tryd.ntmps55
    go_wp2
    go_rounds 1
    go_ret
    exact ⟨rfl, by (repeat' (first | (with_reducible assumption) | (with_reducible exact Below.refl _ _) | (with_reducible refine Below.alloc ?_ ?_ _) | (with_reducible refine Below.drew ?_) | (with_reducible refine bl_drewN ?_ _) | (with_reducible refine Below.setCell ?_ ?_ _) | (with_reducible refine bl_step ?_ (by assumption)) | go_size))⟩
  rcases h with rfl | ⟨g, off, rfl, hgs, hc⟩
  · simp at hx
  have HC := Lib.hid hc
  have HN := Lib.hid (fun (j : Nat) (t : Int × Bool) (ht : xs[j]? = some t) => (⟨fun e => tnM_hit (k := k) ht (e.trans hk), fun e => tnM_miss (k := k) ht (fun e' => e (e'.trans hk.symm)), tnM_bd (xs.take j) k⟩ : (t.1 = t0 → tnM (xs.take (j + 1)) k = tnM (xs.take j) k + 1) ∧ (t.1 ≠ t0 → tnM (xs.take (j + 1)) k = tnM (xs.take j) k) ∧ 0 ≤ tnM (xs.take j) k ∧ tnM (xs.take j) k ≤ (xs.take j).length))
  clear hc hx hk
  go_enter Tryd.func55, Tryd.ntmps55
  go_wp2
  go_loopw [5, 10] (fun m i wr => ∃ j : Nat, j ≤ xs.length ∧ i = .int .i64 j ∧ m = .int .i64 (tnM (xs.take j) k) ∧ wr.cell? ⟨w.heap.size, 1, none⟩ = some (.int .i64 t0) ∧ w.heap.size < wr.heap.size ∧ Below w.heap.size w wr) (fun _ i _ => xs.length - (intOf i).toNat)
  case atStart => exact ⟨0, Nat.zero_le _, rfl, rfl, by go_simp, by simp, by (repeat' (first | (with_reducible assumption) | (with_reducible exact Below.refl _ _) | (with_reducible refine Below.alloc ?_ ?_ _) | (with_reducible refine Below.drew ?_) | (with_reducible refine bl_drewN ?_ _) | (with_reducible refine Below.setCell ?_ ?_ _) | (with_reducible refine bl_step ?_ (by assumption)) | go_size))⟩
  case round =>
    obtain ⟨j, hj, rfl, rfl, c1, hz, hb⟩ := hrel
    by_cases hlt : j < xs.length
    · have ht : xs[j]? = some xs[j] := List.getElem?_eq_getElem hlt
      obtain ⟨e1, e2⟩ := HC.out j _ ht
      obtain ⟨n1, n2, n3, n4⟩ := HN.out j _ ht
      rw [List.length_take] at n4
      have e1 := (hb.cell (p := ⟨g, off + j * 2, none⟩) hgs).trans e1
      have e2 := (hb.cell (p := ⟨g, off + j * 2 + 1, none⟩) hgs).trans e2
      have hk0 : (0 : Int) ≤ (j : Int) := by omega
      have hk1 : (j : Int) < (xs.length : Int) := by omega
      have N1 := Lib.hid n1
      have N2 := Lib.hid n2
      clear n1 n2 ht
      generalize xs[j] = t at e1 e2 N1 N2
      obtain ⟨s, b⟩ := t
      generalize tnM (xs.take j) k = m at n3 n4 N1 N2
      have m1 : IntKind.i64.wrap (m + 1) = m + 1 := IntWalk.i64_in _ (by omega)
      have c2 : (wr.alloc (.cells #[.int .i64 s, .bool b] 33)).cell? ⟨w.heap.size, 1, none⟩ = some (.int .i64 t0) := (World.cell?_alloc_lt _ _ _ hz).trans c1
      have hb2 : Below w.heap.size w (wr.alloc (.cells #[.int .i64 s, .bool b] 33)) := hb.alloc hb.size _
      by_cases hs : s = t0
      · have g1 : (s == t0) = true := by simpa using hs
        have HX := Lib.hid (N1.out hs)
        clear hs
        go_wp2
        go_roundw
        case rel => exact ⟨j + 1, by omega, by go_num, by rw [HX.out], c2, by simp; omega, hb2⟩
        case measure => simp [intOf]; omega
      · have g1 : (s == t0) = false := by simpa using hs
        have HX := Lib.hid (N2.out hs)
        clear hs
        go_wp2
        go_roundw
        case rel => exact ⟨j + 1, by omega, by go_num, by rw [HX.out], c2, by simp; omega, hb2⟩
        case measure => simp [intOf]; omega
    · have hj0 : j = xs.length := by omega
      subst hj0
      rw [List.take_length]
      go_wp2
      go_ret
      exact ⟨rfl, hb⟩

set_option maxHeartbeats 4000000 in
theorem sTenors_at (k : Int) (a : Option Addr) (cap : Nat) (xs : List (Int × Bool)) (w : World) (h : ArgT w a xs) (hcap : xs.length ≤ cap) (hmax : cap ≤ maxLen) :
    Calls Tryd.prog 56 #[.slice a xs.length cap, .int .i64 k] w fun e w' => e = .returned (.int .i64 (tnM xs k)) ∧ Below w.heap.size w w' := by
  unfold maxLen at hmax
  by_cases hx : xs.length = 0
  · have hxe : xs = [] := List.eq_nil_of_length_eq_zero hx
    subst hxe
    clear h
    go_enter Tryd.func56, Tryd.ntmps56
    go_wp2
    go_rounds 1
    go_ret
    exact ⟨rfl, by (repeat' (first | (with_reducible assumption) | (with_reducible exact Below.refl _ _) | (with_reducible refine Below.alloc ?_ ?_ _) | (with_reducible refine Below.drew ?_) | (with_reducible refine bl_drewN ?_ _) | (with_reducible refine Below.setCell ?_ ?_ _) | (with_reducible refine bl_step ?_ (by assumption)) | go_size))⟩
  rcases h with rfl | ⟨g, off, rfl, hgs, hc⟩
  · simp at hx
  have HC := Lib.hid hc
  have HN := Lib.hid (fun (j : Nat) (t : Int × Bool) (ht : xs[j]? = some t) => (⟨fun e => tnM_hit (k := k) ht e, fun e => tnM_miss (k := k) ht e, tnM_bd (xs.take j) k⟩ : (t.1 = mdT k → tnM (xs.take (j + 1)) k = tnM (xs.take j) k + 1) ∧ (t.1 ≠ mdT k → tnM (xs.take (j + 1)) k = tnM (xs.take j) k) ∧ 0 ≤ tnM (xs.take j) k ∧ tnM (xs.take j) k ≤ (xs.take j).length))
  have KT := Lib.hid (fun W => sModeTenor_any k W)
  clear hc hx
  go_enter Tryd.func56, Tryd.ntmps56
  go_wp2
  go_loopw [5, 6] (fun m i wr => ∃ j : Nat, j ≤ xs.length ∧ i = .int .i64 j ∧ m = .int .i64 (tnM (xs.take j) k) ∧ Below w.heap.size w wr) (fun _ i _ => xs.length - (intOf i).toNat)
  case atStart => exact ⟨0, Nat.zero_le _, rfl, rfl, Below.refl _ _⟩
  case round =>
    obtain ⟨j, hj, rfl, rfl, hb⟩ := hrel
    by_cases hlt : j < xs.length
    · have ht : xs[j]? = some xs[j] := List.getElem?_eq_getElem hlt
      obtain ⟨e1, e2⟩ := HC.out j _ ht
      obtain ⟨n1, n2, n3, n4⟩ := HN.out j _ ht
      rw [List.length_take] at n4
      have hgw : g < wr.heap.size := Nat.lt_of_lt_of_le hgs hb.size
      have e1 := (hb.cell (p := ⟨g, off + j * 2, none⟩) hgs).trans e1
      have e2 := (hb.cell (p := ⟨g, off + j * 2 + 1, none⟩) hgs).trans e2
      have hk0 : (0 : Int) ≤ (j : Int) := by omega
      have hk1 : (j : Int) < (xs.length : Int) := by omega
      have N1 := Lib.hid n1
      have N2 := Lib.hid n2
      clear n1 n2 ht
      generalize xs[j] = t at e1 e2 N1 N2
      obtain ⟨s, b⟩ := t
      generalize tnM (xs.take j) k = m at n3 n4 N1 N2
      have m1 : IntKind.i64.wrap (m + 1) = m + 1 := IntWalk.i64_in _ (by omega)
      have hcase : ((s == mdT k) = true ∧ tnM (xs.take (j + 1)) k = m + 1) ∨ ((s == mdT k) = false ∧ tnM (xs.take (j + 1)) k = m) := by
        by_cases hs : s = mdT k
        · exact .inl ⟨by simpa using hs, N1.out hs⟩
        · exact .inr ⟨by simpa using hs, N2.out hs⟩
      clear N1 N2
      rcases hcase with ⟨g1, hX⟩ | ⟨g1, hX⟩
      all_goals
        have HX := Lib.hid hX
        clear hX
        go_wp2
        go_region_held3 (fun wx => wx.cell? ⟨g, off + j * 2, none⟩ = some (.int .i64 s) ∧ wx.cell? ⟨g, off + j * 2 + 1, none⟩ = some (.bool b)) (go_keep)
          (first | (go_at_call 38; refine (KT.out _).mono ?_; rintro e w3 ⟨rfl, hb3⟩; have f0 := (hb3.cell (p := ⟨g, off + j * 2, none⟩) hgw).trans e1; have f1 := (hb3.cell (p := ⟨g, off + j * 2 + 1, none⟩) hgw).trans e2))
        have hbw := bl_step hb.drew hb3
        clear e1 e2 f0 f1 hb3
        go_wp2
        go_roundw
        case rel => exact ⟨j + 1, by omega, by go_num, by rw [HX.out], hbw⟩
        case measure => simp [intOf]; omega
    · have hj0 : j = xs.length := by omega
      subst hj0
      rw [List.take_length]
      go_wp2
      go_ret
      exact ⟨rfl, hb⟩

theorem lkS_next {xs : List (Int × Bool)} {ys : List Int} {j : Nat} (h : j < ys.length) : lkS xs (ys.take (j + 1)) = lkF xs (lkS xs (ys.take j)) (ys.getD j 0) := by
  have e : ys[j]? = some (ys.getD j 0) := by rw [List.getD_eq_getElem?_getD, List.getElem?_eq_getElem h]; rfl
  exact lkS_snoc e

set_option maxHeartbeats 8000000 in
theorem modeLikely_at (a : Option Addr) (cap : Nat) (xs : List (Int × Bool)) (w : World) (h : ArgT w a xs) (hcap : xs.length ≤ cap) (hmax : cap ≤ maxLen) (ht : TenTab w) :
    Calls Tryd.prog 30 #[.slice a xs.length cap] w fun e w' => e = .returned (.tuple #[.int .i64 (lkM xs), .bool (lkB xs)]) ∧ Below w.heap.size w w' := by
  have HA := Lib.hid h
  have HT := Lib.hid ht
  clear ht h
  have hB := lkB_eq xs
  rw [hB]
  unfold lkM
  clear hB
  have hlen := allM_len xs 8
  have HV := Lib.hid (fun (k : Int) (hk : k ∈ allM xs 8) => (inM_last (allM_mem hk).1).1)
  go_enter Tryd.func30, Tryd.ntmps30
  go_wp2_with (fail)
  (go_at_call 26; refine (modeAll_at a cap xs _ HA.out hcap hmax HT.out).mono ?_; rintro e w1 ⟨u, rfl, hu, hb1⟩)
  generalize hY : allM xs 8 = ys at hu hlen HV
  have HY := Lib.hid hY
  clear hY
  obtain ⟨L, hL⟩ : ∃ L, ys.length = L := ⟨_, rfl⟩
  have HS := Lib.hid (fun (j : Nat) (h : j < L) => lkS_next (xs := xs) (ys := ys) (j := j) (by omega))
  have HV2 := Lib.hid (fun (j : Nat) (h : j < L) => HV.out (ys.getD j 0) (by
    rw [List.getD_eq_getElem?_getD, List.getElem?_eq_getElem (by omega)]; exact List.getElem_mem _))
  obtain ⟨aU, cU, rfl, fU⟩ := hu.flatc hL
  have FU := Lib.hid fU
  have HE : Hid (lkS xs (ys.take L) = lkS xs ys) := by rw [← hL, List.take_length]; exact Lib.hid rfl
  have hL8 : L ≤ 8 := by omega
  clear hu fU HV hL hlen
  go_wp2
  go_loopw [4, 5, 14] (fun x y i wr => ∃ j : Nat, j ≤ L ∧ i = .int .i64 j ∧ x = .int .i64 (lkS xs (ys.take j)).1 ∧ y = .int .i64 (lkS xs (ys.take j)).2 ∧ Below w1.heap.size w1 wr) (fun _ _ i _ => L - (intOf i).toNat)
  case atStart => exact ⟨0, Nat.zero_le _, rfl, rfl, rfl, Below.refl _ _⟩
  case round =>
    obtain ⟨j, hj, rfl, rfl, rfl, hb⟩ := hrel
    by_cases hlt : j < L
    · obtain ⟨gU, rfl, sU, eU⟩ := FU.out (by omega)
      have e1 := (hb.cell (p := ⟨gU, j, none⟩) sU).trans (eU j hlt)
      have hS := HS.out j hlt
      have hv := HV2.out j hlt
      generalize ys.getD j 0 = k at e1 hS hv
      have HTk := Lib.hid (md_yes hv).2
      have HX := Lib.hid hS
      have j0 : (0 : Int) ≤ (j : Int) := by omega
      have j1 : (j : Int) < (L : Int) := by omega
      have bw := bl_step hb1 hb
      clear hS eU
      generalize lkS xs (ys.take j) = p at HX
      obtain ⟨x, y⟩ := p
      go_wp2_with (fail)
      (go_at_call 49; refine (newMode_any k _ (HT.out.below bw)).mono ?_; rintro e w2 ⟨rfl, hb2⟩)
      have bw2 := bl_step bw hb2
      have hb2' := bl_step hb hb2
      have bw3 : Below w.heap.size w (w2.alloc (.cells #[.int .i64 (nF k), .int .i64 (nT k), .int .i64 (mdL k), .int .i64 (mdH k)] 55)) := bw2.alloc bw2.size _
      have hb3 : Below w1.heap.size w1 (w2.alloc (.cells #[.int .i64 (nF k), .int .i64 (nT k), .int .i64 (mdL k), .int .i64 (mdH k)] 55)) := hb2'.alloc hb2'.size _
      go_wp2_with (fail)
      (go_at_call 55; refine (tenors_at _ _ _ _ k HTk.out a cap xs _ (HA.out.below bw3) hcap hmax).mono ?_; rintro e w4 ⟨rfl, hb4⟩)
      have hb4' := bl_step hb3 hb4
      clear e1 hb2 hb4
      by_cases hc : y < tnM xs k
      · have HF : Hid (lkF xs (x, y) k = (k, tnM xs k)) := by unfold lkF; rw [if_pos hc]; exact Lib.hid rfl
        generalize tnM xs k = z at hc HF
        go_wp2
        go_roundw
        case rel => exact ⟨j + 1, by omega, by go_num, by rw [HX.out, HF.out], by rw [HX.out, HF.out], hb4'⟩
        case measure => simp [intOf]; omega
      · have HF : Hid (lkF xs (x, y) k = (x, y)) := by unfold lkF; rw [if_neg hc]; exact Lib.hid rfl
        generalize tnM xs k = z at hc HF
        have hc' : decide (y < z) = false := by simpa using hc
        go_wp2
        go_roundw
        case rel => exact ⟨j + 1, by omega, by go_num, by rw [HX.out, HF.out], by rw [HX.out, HF.out], hb4'⟩
        case measure => simp [intOf]; omega
    · have hjL : j = L := by omega
      subst hjL
      rw [HE.out]
      have bw := bl_step hb1 hb
      go_wp2
      go_ret2
      exact ⟨by rw [HY.out]; first | done | rfl, bw⟩

/-- the model's best one behind j of the modes -/
def bsM (xs : List (Int × Bool)) (ys : List Int) (j : Nat) : Int := if j = 0 then ys.getD 0 0 else (lkS xs (ys.take j)).1
theorem bsM_next {xs : List (Int × Bool)} {ys : List Int} {j : Nat} (h : j < ys.length) : bsM xs ys (j + 1) = if tnM xs (bsM xs ys j) < tnM xs (ys.getD j 0) then ys.getD j 0 else bsM xs ys j := by
  have e := lkS_next (xs := xs) h
  cases j with
  | zero =>
    have e0 : lkS xs (ys.take 0) = (0, -1) := rfl
    rw [e0] at e
    have hb := tnM_bd xs (ys.getD 0 0)
    have e1 : bsM xs ys (0 + 1) = ys.getD 0 0 := by
      unfold bsM; rw [if_neg (by omega), e]; unfold lkF; rw [if_pos (by show (-1 : Int) < _; omega)]
    have e2 : bsM xs ys 0 = ys.getD 0 0 := rfl
    rw [e1, e2, if_neg (Int.lt_irrefl _)]
  | succ i =>
    have hp := (lkS_pos (xs := xs) (L := ys) i (by omega)).1
    have e1 : bsM xs ys (i + 1 + 1) = (lkS xs (ys.take (i + 1 + 1))).1 := by unfold bsM; rw [if_neg (by omega)]
    have e2 : bsM xs ys (i + 1) = (lkS xs (ys.take (i + 1))).1 := by unfold bsM; rw [if_neg (by omega)]
    rw [e1, e2, e, ← hp]
    unfold lkF
    split <;> rfl

set_option maxHeartbeats 8000000 in
theorem sModeLikely_any (lo hi : Nat) (v : Value) (xs : List (Int × Bool)) (w : World) (h : TRow w lo hi v xs) :
    Calls Tryd.prog 31 #[v] w fun e w' => e = .returned (.tuple #[.int .i64 (lkM xs), .bool (lkB xs)]) ∧ Below w.heap.size w w' := by
  have HR := Lib.hid h
  obtain ⟨a, cap, rfl, hcap, hmax, hat⟩ := h.argA
  have HA := Lib.hid hat
  clear hat h
  have hno := lkM_no (xs := xs)
  have hye : allM xs 8 ≠ [] → lkB xs = true ∧ lkM xs = (lkS xs (allM xs 8)).1 := fun h => ⟨by simp [lkB, h], rfl⟩
  have hlen := allM_len xs 8
  by_cases hy : allM xs 8 = []
  · rw [(hno hy).1, (hno hy).2]
    clear hno hye
    go_enter Tryd.func31, Tryd.ntmps31
    go_wp2_with (fail)
    (go_at_call 27; refine (sModeAll_any lo hi _ xs _ HR.out).mono ?_; rintro e w1 ⟨u, rfl, hu, hb1⟩)
    rw [hy] at hu
    obtain ⟨aU, cU, rfl⟩ := hu.sl (n := 0) rfl
    clear hu
    go_wp2
    go_ret2
    exact ⟨rfl, hb1⟩
  rw [(hye hy).1, (hye hy).2]
  clear hno hye
  go_enter Tryd.func31, Tryd.ntmps31
  go_wp2_with (fail)
  (go_at_call 27; refine (sModeAll_any lo hi _ xs _ HR.out).mono ?_; rintro e w1 ⟨u, rfl, hu, hb1⟩)
  generalize hY : allM xs 8 = ys at hu hlen hy
  have HY := Lib.hid hY
  clear hY
  obtain ⟨L, hL⟩ : ∃ L, ys.length = L := ⟨_, rfl⟩
  have hLp : 0 < L := by rw [← hL]; exact List.length_pos_iff.2 hy
  have HS := Lib.hid (fun (j : Nat) (h : j < L) => bsM_next (xs := xs) (ys := ys) (j := j) (by omega))
  obtain ⟨aU, cU, rfl, fU⟩ := hu.flatc hL
  obtain ⟨gU, rfl, sU, eU⟩ := fU hLp
  have EU := Lib.hid eU
  have HE : Hid (bsM xs ys L = (lkS xs ys).1) := by
    unfold bsM; rw [if_neg (by omega), ← hL, List.take_length]; exact Lib.hid rfl
  have hL8 : L ≤ 8 := by omega
  have hL0 : ((L : Int) == 0) = false := by rw [beq_eq_false_iff_ne]; omega
  have hL1 : (0 : Int) < (L : Int) := by omega
  have e0 := eU 0 hLp
  have h0 : bsM xs ys 0 = ys.getD 0 0 := rfl
  rw [← h0] at e0
  have KT := Lib.hid (fun k W h => sTenors_at k a cap xs W h hcap hmax)
  clear hu fU eU hL hlen hy h0
  generalize hb0 : bsM xs ys 0 = z0 at e0
  have HB0 := Lib.hid hb0
  clear hb0
  go_wp2
  clear e0
  go_loopw [5, 6] (fun x i wr => ∃ j : Nat, j ≤ L ∧ i = .int .i64 j ∧ x = .int .i64 (bsM xs ys j) ∧ Below w1.heap.size w1 wr) (fun _ i _ => L - (intOf i).toNat)
  case atStart => exact ⟨0, Nat.zero_le _, rfl, by rw [HB0.out], Below.refl _ _⟩
  case round =>
    obtain ⟨j, hj, rfl, rfl, hb⟩ := hrel
    by_cases hlt : j < L
    · have e1 := (hb.cell (p := ⟨gU, j, none⟩) sU).trans (EU.out j hlt)
      have hS := HS.out j hlt
      have EJ := Lib.hid (EU.out j hlt)
      have j0 : (0 : Int) ≤ (j : Int) := by omega
      have j1 : (j : Int) < (L : Int) := by omega
      have bw := bl_step hb1 hb
      generalize ys.getD j 0 = k at e1 hS EJ
      have HX := Lib.hid hS
      clear hS
      generalize bsM xs ys j = x at HX
      go_wp2_with (fail)
      (go_at_call 56; refine (KT.out k _ (HA.out.below bw)).mono ?_; rintro e w2 ⟨rfl, hb2⟩)
      have bw2 := bl_step bw hb2
      have hb2' := bl_step hb hb2
      go_wp2_with (fail)
      (go_at_call 56; refine (KT.out x _ (HA.out.below bw2)).mono ?_; rintro e w3 ⟨rfl, hb3⟩)
      have hb3' := bl_step hb2' hb3
      clear e1
      have e1 := (hb3'.cell (p := ⟨gU, j, none⟩) sU).trans EJ.out
      by_cases hc : tnM xs x < tnM xs k
      · have HF := Lib.hid (HX.out.trans (if_pos hc))
        generalize tnM xs k = z at hc
        generalize tnM xs x = y at hc
        go_wp2
        go_roundw
        case rel => exact ⟨j + 1, by omega, by go_num, by rw [HF.out], hb3'⟩
        case measure => simp [intOf]; omega
      · have HF := Lib.hid (HX.out.trans (if_neg hc))
        generalize tnM xs k = z at hc
        generalize tnM xs x = y at hc
        have hc' : decide (y < z) = false := by simpa using hc
        go_wp2
        go_roundw
        case rel => exact ⟨j + 1, by omega, by go_num, by rw [HF.out], hb3'⟩
        case measure => simp [intOf]; omega
    · have hjL : j = L := by omega
      subst hjL
      rw [HE.out]
      have bw := bl_step hb1 hb
      go_wp2
      go_ret2
      exact ⟨by rw [HY.out]; first | done | rfl, bw⟩
end Go.Proofs.YtmipkodgkldmbaaDoor
