/-
  The groups of a melody, made in the program.
-/
import Derived.Test.YtkjimilapgkajabDoorGw
import Derived.Test.YtkjimilapgkajabDoorGv
import Derived.Test.YtkjimilapgkajabDoorMelV
import Derived.Test.YtkjimilapgkajabDoorMelT
namespace Go.Proofs.YtkjimilapgkajabDoor
open Go.RowKit
set_option maxRecDepth 100000
set_option linter.unusedVariables false

theorem elemTones : Tryd.prog.underlying 23 = some (.slice (Tryd.prog.elem 23)) := by simp [Program.elem, Tryd.underlying23]
theorem sizeTones (W : World) : (Go.sizeOf (Tryd.prog.elem 23)).run Tryd.prog W = .ok 2 W := by
  have e : Tryd.prog.elem 23 = 50 := by simp [Program.elem, Tryd.underlying23]
  rw [e]
  exact Tryd.sizeOf50 W
theorem slice_hi (a : Option Addr) (L cap q : Nat) (hq : q ≤ cap) (W : World) : (Instr.slice 23 (.slice a L cap) none (some (.int .i64 (q : Int))) none).run Tryd.prog W = .ok (.slice a q cap) W := by
  rw [run_slice_h W _ a L cap elemTones .i64 _ (by omega) (by omega), sizeTones]
  simp [Result.andThen, sliced, Addr.add]
theorem slice_lo (a : Option Addr) (L cap q : Nat) (hq : q ≤ L) (W : World) : (Instr.slice 23 (.slice a L cap) (some (.int .i64 (q : Int))) none none).run Tryd.prog W = .ok (.slice (if cap = q then a else a.map (·.add (q * 2))) (L - q) (cap - q)) W := by
  rw [run_slice_l W _ a L cap elemTones .i64 _ (by omega) (by omega), sizeTones]
  simp [Result.andThen, sliced]
theorem ArgT.take {w : World} {a : Option Addr} {ys : List (Int × Bool)} (h : ArgT w a ys) (q : Nat) : ArgT w a (ys.take q) := by
  rcases h with rfl | ⟨A, off, rfl, hA, hc⟩
  · exact .inl (by simp)
  · refine .inr ⟨A, off, rfl, hA, fun i t ht => hc i t ?_⟩
    rw [List.getElem?_take] at ht
    split at ht
    · exact ht
    · cases ht
theorem ArgT.drop {w : World} {a : Option Addr} {ys : List (Int × Bool)} {cap q : Nat} (h : ArgT w a ys) (hl : ys.length ≤ cap) (hq : q ≤ ys.length) : ArgT w (if cap = q then a else a.map (·.add (q * 2))) (ys.drop q) := by
  rcases h with rfl | ⟨A, off, rfl, hA, hc⟩
  · exact .inl (by simp)
  · by_cases e : cap = q
    · exact .inl (List.drop_of_length_le (by omega))
    · rw [if_neg e]
      refine .inr ⟨A, off + q * 2, by simp [Addr.add], hA, fun i t ht => ?_⟩
      rw [List.getElem?_drop] at ht
      have := hc (q + i) t ht
      rw [show off + q * 2 + i * 2 = off + (q + i) * 2 by omega]
      exact this
/-- the block of an address lies below n -/
def AdB (n : Nat) (a : Option Addr) : Prop := ∀ A, a = some A → A.block < n
theorem AdB.shift {n : Nat} {a : Option Addr} (h : AdB n a) (c q : Nat) : AdB n (if c = q then a else a.map (·.add (q * 2))) := by
  split
  · exact h
  · intro A hA
    obtain ⟨B, hB, rfl⟩ := Option.map_eq_some_iff.1 hA
    have e : (B.add (q * 2)).block = B.block := by unfold Addr.add; split <;> rfl
    rw [e]
    exact h B hB
theorem ArgT.grown {w w' : World} {a : Option Addr} {xs : List (Int × Bool)} {n : Nat} {row : Option Nat} {o : Obj} (h : ArgT w a xs) (hb : AdB n a) (hg : (w.alloc o).grownBy w' row) (hr : ∀ k, row = some k → n ≤ k) (hn : n ≤ w.heap.size) : ArgT w' a xs := by
  rcases h with h | ⟨A, off, rfl, hA, hc⟩
  · exact .inl h
  · have hAn : A < n := hb _ rfl
    have he : w'.heap[A]? = w.heap[A]? := (hg.block A (by simp; omega) (fun e => by have := hr A e.symm; omega)).trans (Below.heap_alloc w o A hA)
    refine .inr ⟨A, off, rfl, Nat.lt_of_lt_of_le hA (Nat.le_trans (by simp) hg.size), fun i t ht => ?_⟩
    exact ⟨(World.cell?_of_block (w := w) (a := ⟨A, off + i * 2, none⟩) he).trans (hc i t ht).1, (World.cell?_of_block (w := w) (a := ⟨A, off + i * 2 + 1, none⟩) he).trans (hc i t ht).2⟩
theorem two_lt2 {W : World} {n : Nat} {v : Value} (h : W.cell? ⟨n, 0, none⟩ = some v) : n < W.heap.size := World.block_lt_of_cell? W ⟨n, 0, none⟩ h
theorem TRow.arg {w : World} {lo hi : Nat} {v : Value} {xs : List (Int × Bool)} (h : TRow w lo hi v xs) : ∃ a c, v = .slice a xs.length c ∧ xs.length ≤ c ∧ c ≤ maxLen ∧ ArgT w a xs ∧ AdB w.heap.size a := by
  rcases h.form with ⟨rfl, rfl⟩ | ⟨g, cap, rfl, _, _, hg, hc, hm, hcell⟩
  · exact ⟨none, 0, rfl, Nat.le_refl _, Nat.zero_le _, .inl rfl, fun A hA => by cases hA⟩
  · refine ⟨_, cap, rfl, hc, hm, .inr ⟨g, 0, rfl, hg, fun i t ht => ?_⟩, fun A hA => by cases hA; exact hg⟩
    rw [Nat.zero_add]
    exact hcell i t ht

def NgRes (w : World) (xs gs : List (Int × Bool)) (e : Ending) (w' : World) : Prop :=
  ∃ r, e = .returned (.tuple #[r, .bool (gv xs gs)]) ∧ Below w.heap.size w w' ∧ (gv xs gs = true → ∃ ps, ps.length = gs.length ∧ NgInv w w' r xs gs ps) ∧ (gv xs gs = false → r = .slice none 0 0)
theorem ng_no {w w' : World} {xs gs : List (Int × Bool)} (h : gv xs gs = false) (hb : Below w.heap.size w w') : NgRes w xs gs (.returned (.tuple #[.slice none 0 0, .bool false])) w' :=
  ⟨_, by rw [h], hb, fun e => by rw [h] at e; (cases e), fun _ => rfl⟩
theorem ng_yes {w w' : World} {xs gs : List (Int × Bool)} {r : Value} {ps : List (Option Addr × Bool)} (h : gv xs gs = true) (hl : ps.length = gs.length) (hI : NgInv w w' r xs gs ps) : NgRes w xs gs (.returned (.tuple #[r, .bool true])) w' :=
  ⟨_, by rw [h], hI.bl, fun _ => ⟨ps, hl, hI⟩, fun e => by rw [h] at e; (cases e)⟩
theorem NgInv.start {w w1 : World} {xs gs : List (Int × Bool)} (hb : Below w.heap.size w w1) : NgInv w (w1.alloc (.cells #[] 125)) (.slice (some ⟨w1.heap.size, 0, none⟩) 0 0) xs gs [] :=
  ⟨⟨rfl, .inr ⟨w1.heap.size, 0, #[], rfl, hb.size, heap_alloc_new w1 _, by simp, by simp [maxLen], by simp, by simp [pcs]⟩⟩, fun i hi => by simp at hi, hb.alloc hb.size _⟩
theorem NgInv.below {w wr w1 : World} {v : Value} {xs gs : List (Int × Bool)} {ps : List (Option Addr × Bool)} (h : NgInv w wr v xs gs ps) (hb : Below wr.heap.size wr w1) : NgInv w w1 v xs gs ps :=
  ⟨tbelow h.own hb, h.made.keep fun p ys hm => hm.below hb, bl_step h.bl hb⟩
theorem NgInv.next {w w2 w3 : World} {v v' : Value} {xs gs : List (Int × Bool)} {ps : List (Option Addr × Bool)} {p : Option Addr} {g : Int × Bool} {o : Obj} (h : NgInv w w2 v xs gs ps) (hg : gs[ps.length]? = some g) (hm : Mel w2 w.heap.size p (mvl (prt xs gs ps.length)))
    (hown : w3.ownsRow w.heap.size 125 2 v' (ps.length + 1) (pcs ps ++ [.pointer p, .bool g.2])) (hgr : (w2.alloc o).grownBy w3 v.ownBlock) : NgInv w w3 v' xs gs (ps ++ [(p, g.2)]) := by
  refine ⟨?_, ?_, (h.bl.alloc h.bl.size o).grown hgr (by have := h.bl.size; simp; omega) (fun k hk => (h.own.lt k hk).1)⟩
  · rw [pcs_app]
    simpa [pcs] using hown
  · exact (h.made.keep fun p ys hm => hm.app (by decide) h.own hgr).snoc hg (hm.app (by decide) h.own hgr)

set_option maxHeartbeats 8000000 in
theorem newGroups_any (lo hi lo' hi' : Nat) (v u : Value) (xs gs : List (Int × Bool)) (w : World) (h : TRow w lo hi v xs) (k : GRw w lo' hi' u gs) :
    Calls Tryd.prog 86 #[v, u] w (NgRes w xs gs) := by
  obtain ⟨i0, hin, hq0, hq1, hq2⟩ := info_parts infoGroup
  by_cases hv : mv xs = false
  · have HF := Lib.hid (fun w' hb => ng_no (w := w) (w' := w') (gv_no1 (gs := gs) hv) hb)
    go_enter Tryd.func86, Tryd.ntmps86
    go_wp2_with (fail)
    (go_at_call 71; refine (melodyValid_any lo hi v xs _ h).mono ?_; rintro e w1 ⟨rfl, hb1⟩)
    clear h k
    go_wp2
    go_ret2
    exact HF.out _ hb1
  rw [Bool.not_eq_false] at hv
  have hmx : xs.length ≤ 24 := by simp [mv] at hv; exact hv.1
  have HV := Lib.hid hv
  obtain ⟨a, c, rfl, hac, hcm, hA, hAB⟩ := h.arg
  have HAB0 := Lib.hid hAB
  clear hAB
  have HH := Lib.hid h
  have HA0 := Lib.hid hA
  clear h hA
  unfold maxLen at hcm
  rcases k.form with ⟨rfl, rfl⟩ | ⟨g, go, gcap, rfl, hg, hg2, hgs, hgcap, hgmax, hc⟩
  · by_cases hx0 : xs.length = 0
    · have hgv : gv xs [] = true := gv_yes hv rfl (by simp [gsz, hx0])
      have HE := Lib.hid (fun w1 hb => ng_yes (w := w) (xs := xs) (gs := []) hgv rfl (NgInv.start (w1 := w1) hb))
      have hxe : xs = [] := List.eq_nil_of_length_eq_zero hx0
      subst hxe
      clear k hgv hx0
      go_enter Tryd.func86, Tryd.ntmps86
      go_wp2_with (fail)
      (go_at_call 71; refine (melodyValid_any lo hi _ _ _ HH.out).mono ?_; rintro e w1 ⟨rfl, hb1⟩)
      go_wp2
      go_rounds 1
      go_ret2
      exact HE.out _ hb1
    · have hgv : gv xs [] = false := gv_rest (by simp [gsz]; omega)
      have HF := Lib.hid (fun w' hb => ng_no (w := w) (w' := w') hgv hb)
      have hz : (0 : Int) < (xs.length : Int) := by omega
      clear k hgv hx0
      go_enter Tryd.func86, Tryd.ntmps86
      go_wp2_with (fail)
      (go_at_call 71; refine (melodyValid_any lo hi _ _ _ HH.out).mono ?_; rintro e w1 ⟨rfl, hb1⟩)
      have HB := Lib.hid (hb1.alloc hb1.size (.cells #[] 125))
      go_wp2
      go_rounds 1
      go_ret2
      exact HF.out _ HB.out
  unfold maxLen at hgmax
  have HC := Lib.hid hc
  clear hc k
  go_enter Tryd.func86, Tryd.ntmps86
  go_wp2_with (fail)
  (go_at_call 71; refine (melodyValid_any lo hi _ _ _ HH.out).mono ?_; rintro e w1 ⟨rfl, hb1⟩)
  have HI0 := Lib.hid (NgInv.start (xs := xs) (gs := gs) hb1)
  have HA1 : Hid (ArgT (w1.alloc (.cells #[] 125)) a xs) := HA0.out.below (hb1.alloc hb1.size _)
  go_wp2
  clear hv
  go_loopw [0, 6, 17] (fun m v i wr => ∃ (j N L : Nat) (a' : Option Addr) (c' : Nat) (ps : List (Option Addr × Bool)), j ≤ gs.length ∧ i = .int .i64 j ∧ m = .slice a' L c' ∧ L ≤ c' ∧ c' ≤ c ∧ N + L = xs.length ∧ ps.length = j ∧ Hid (N = gsz (gs.take j) ∧ (gs.take j).all gok = true ∧ ArgT wr a' (xs.drop N) ∧ NgInv w wr v xs gs ps ∧ AdB w.heap.size a')) (fun _ _ i _ => gs.length - (intOf i).toNat)
  case atStart => exact ⟨0, 0, xs.length, a, c, [], Nat.zero_le _, rfl, rfl, hac, Nat.le_refl _, by omega, rfl, ⟨rfl, rfl, by simpa using HA1.out, HI0.out, HAB0.out⟩⟩
  case round =>
    obtain ⟨j, N, L, a', c', ps, hj, rfl, rfl, hL, hc', hNL, hps, HK⟩ := hrel
    clear HI0 HA1
    by_cases hlt : j < gs.length
    · have ht : gs[j]? = some gs[j] := List.getElem?_eq_getElem hlt
      obtain ⟨a1, a2⟩ := HC.out j _ ht
      have e1 := (HK.out.2.2.2.1.bl.cell (p := ⟨g, go + j * 2, none⟩) hgs).trans a1
      have e2 := (HK.out.2.2.2.1.bl.cell (p := ⟨g, go + j * 2 + 1, none⟩) hgs).trans a2
      have hgr : g < wr.heap.size := Nat.lt_of_lt_of_le hgs HK.out.2.2.2.1.bl.size
      have hj0 : (0 : Int) ≤ (j : Int) := by omega
      have hj1 : (j : Int) < (gs.length : Int) := by omega
      have HG := Lib.hid ht
      have HBA := Lib.hid (HK.out.2.2.2.1.bl.alloc HK.out.2.2.2.1.bl.size (.cells #[.int .i64 gs[j].1, .bool gs[j].2] 52))
      clear ht a1 a2
      generalize gs[j] = t at e1 e2 HG HBA
      obtain ⟨z, b⟩ := t
      have hLn : (0 : Int) ≤ (L : Int) := by omega
      have hj24 : j ≤ 24 := by
        have h1 := (gall_len HK.out.2.1).1
        rw [List.length_take, ← HK.out.1] at h1
        omega
      by_cases h1 : z < 1
      · have HF := Lib.hid (ng_no (w := w) (gv_bad (xs := xs) HG.out (by simp [gok]; omega)) HBA.out)
        clear HK
        go_wp2
        go_ret2
        exact HF.out
      by_cases h4 : 4 < z
      · have HF := Lib.hid (ng_no (w := w) (gv_bad (xs := xs) HG.out (by simp [gok]; omega)) HBA.out)
        have h1' : (1 : Int) ≤ z := by omega
        have q0 : min 4 (L : Int) < z := by omega
        clear HK
        go_wp2
        all_goals go_ret2
        all_goals exact HF.out
      obtain ⟨q, rfl⟩ : ∃ q : Nat, z = q := ⟨z.toNat, by omega⟩
      have hqq : 1 ≤ q := by omega
      have hq4 : q ≤ 4 := by omega
      by_cases hqL : q ≤ L
      case neg =>
        have HF := Lib.hid (ng_no (w := w) (gv_over (xs := xs) HG.out (by rw [← HK.out.1]; show xs.length < N + (q : Int).toNat; omega)) HBA.out)
        have q0 : min 4 (L : Int) < (q : Int) := by omega
        have h1' : (1 : Int) ≤ (q : Int) := by omega
        clear HK
        go_wp2
        all_goals go_ret2
        all_goals exact HF.out
      obtain ⟨M, hM⟩ : ∃ M, (if (L : Int) < 4 then (L : Int) else 4) = M := ⟨_, rfl⟩
      have q0 : (q : Int) ≤ M := by rw [← hM]; split <;> omega
      have h1' : (1 : Int) ≤ (q : Int) := by omega
      have hs1 := slice_hi a' L c' q (by omega)
      have hs2 := slice_lo a' L c' q hqL
      have hlen : ((xs.drop N).take q).length = q := by rw [List.length_take, List.length_drop]; omega
      have KM : ∀ W : World, ArgT W a' ((xs.drop N).take q) → Calls Tryd.prog 55 #[.slice a' q c'] W (Made W ((xs.drop N).take q)) := fun W hW => by
        have := newMelody_at a' c' _ W hW (by rw [hlen]; omega) (by unfold maxLen; omega)
        rw [hlen] at this
        exact this
      have HKM := Lib.hid KM
      have HT : Hid ((xs.drop N).take q = prt xs gs ps.length ∧ N + q = gsz (gs.take (j + 1)) ∧ (gs.take (j + 1)).all gok = true ∧ (xs.drop N).drop q = xs.drop (N + q)) := by
        have e := gsz_snoc HG.out
        refine ⟨?_, ?_, gall_snoc HG.out HK.out.2.1 (by simp [gok]; omega), by rw [List.drop_drop]⟩
        · have hd : gs.getD j (0, false) = ((q : Int), b) := by rw [List.getD_eq_getElem?_getD, HG.out]; rfl
          unfold prt
          rw [hps, hd, ← HK.out.1]
          simp
        · rw [e, ← HK.out.1]; simp
      clear KM hlen
      have HD : Hid (∀ W, ArgT W a' (xs.drop N) → ArgT W (if c' = q then a' else a'.map (·.add (q * 2))) (xs.drop (N + q))) := by
        intro W hW
        have := hW.drop (cap := c') (q := q) (by rw [List.length_drop]; omega) (by rw [List.length_drop]; omega)
        rw [HT.out.2.2.2] at this
        exact this
      have HB2 := Lib.hid (HK.out.2.2.2.2.shift c' q)
      obtain ⟨a2, ha2⟩ : ∃ a2, (if c' = q then a' else a'.map (·.add (q * 2))) = a2 := ⟨_, rfl⟩
      rw [ha2] at hs2 HD HB2
      clear ha2
      go_wp2_with (fail)
      (go_at_call 55; refine (HKM.out _ ((HK.out.2.2.1.below ((Below.refl _ _).alloc (Nat.le_refl _) _)).take q)).mono ?_; rintro e w2 ⟨p, rfl, hm, hb2⟩)
      have m0 : w2.cell? ⟨wr.heap.size, 0, none⟩ = some (.int .i64 (q : Int)) := (hb2.cell (p := ⟨wr.heap.size, 0, none⟩) (by simp)).trans (by go_simp)
      have m1 : w2.cell? ⟨wr.heap.size, 1, none⟩ = some (.bool b) := (hb2.cell (p := ⟨wr.heap.size, 1, none⟩) (by simp)).trans (by go_simp)
      have hb2' : Below wr.heap.size wr w2 := ((Below.refl _ _).alloc (Nat.le_refl _) _).trans (hb2.mono (by simp))
      have HI2 := Lib.hid (HK.out.2.2.2.1.below hb2')
      have HA2 := Lib.hid (HD.out _ (HK.out.2.2.1.below hb2'))
      have hz2 := HI2.out.bl.size
      have HM2 : Hid (Mel w2 w.heap.size p (mvl (prt xs gs ps.length))) := by
        rw [HT.out.1] at hm
        exact hm.mono (by have := HK.out.2.2.2.1.bl.size; simp; omega)
      have hzr : wr.heap.size < w2.heap.size := two_lt2 m0
      have hown := HI2.out.own
      rw [hps] at hown
      have hh2 : w2.heap[wr.heap.size]? = some (.cells #[.int .i64 (q : Int), .bool b] 52 (0, 0)) := (hb2.block _ (by simp)).trans (heap_alloc_new wr _)
      clear hm e1 e2 hb2 hb2'
      go_wp2_with (at_builtin; refine wpList_append_own _ rfl _ _ 121 rfl w.heap.size 125 i0 (.agg #[.pointer none, .bool false]) 2 16 Tryd.underlying121 hin hq0 hq1 hq2 rfl (by decide) _ _ _ rfl (hown.alloc _) ⟨w2.heap.size, 0, none⟩ 1 1 [.pointer p, .bool b] rfl rfl pnews pnews_one (by unfold maxLen; omega) (by omega) (by simp; omega) ?_)
      intro v' w3 hown' hgrow _
      have HN : Hid (NgInv w w3 v' xs gs (ps ++ [(p, b)])) := HI2.out.next (g := ((q : Int), b)) (by rw [hps]; exact HG.out) HM2.out (by rw [hps]; exact hown') hgrow
      have HA3 : Hid (ArgT w3 a2 (xs.drop (N + q))) := HA2.out.grown HB2.out hgrow (fun k hk => (hown.lt k hk).1) hz2
      have hh3 := app_blk (by decide) hh2 hown hgrow
      have n0 : w3.cell? ⟨wr.heap.size, 0, none⟩ = some (.int .i64 (q : Int)) := by simp [World.cell?, hh3]
      clear hown hown' hgrow hh2 hh3
      go_wp2
      go_roundw
      case rel => exact ⟨j + 1, N + q, L - q, _, _, _, by omega, by go_num, rfl, by omega, by omega, by omega, by simp [hps], ⟨HT.out.2.1, HT.out.2.2.1, HA3.out, HN.out, HB2.out⟩⟩
      case measure => simp [intOf]; omega
    · have hje : j = gs.length := by omega
      subst hje
      have hN : N = gsz gs := by have := HK.out.1; rwa [List.take_length] at this
      have hal : gs.all gok = true := by have := HK.out.2.1; rwa [List.take_length] at this
      by_cases hL0 : L = 0
      · have HE := Lib.hid (ng_yes (gv_yes HV.out hal (by omega)) hps HK.out.2.2.2.1)
        subst hL0
        clear HK hN hal
        go_wp2
        go_ret2
        exact HE.out
      · have HE := Lib.hid (ng_no (w := w) (gv_rest (xs := xs) (gs := gs) (by omega)) HK.out.2.2.2.1.bl)
        have hL1 : (0 : Int) < (L : Int) := by omega
        clear HK hN hal
        go_wp2
        go_ret2
        exact HE.out
end Go.Proofs.YtkjimilapgkajabDoor
