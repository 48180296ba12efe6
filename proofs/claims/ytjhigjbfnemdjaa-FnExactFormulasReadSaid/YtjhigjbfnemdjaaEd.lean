/-
  The readings from a place on: the program's function that calls itself.
-/
import Derived.Test.YtjhigjbfnemdjaaEc
import Derived.Test.YtjhigjbfnemdjaaTb
import Derived.Deep.Cut
import Derived.Deep.CutRange
namespace Go.Proofs.Ytjhigjbfnemdjaa
open Go.RowKit Go.Maps
set_option maxRecDepth 100000
set_option linter.unusedVariables false

theorem Fr.below0 {b t : Nat} {w0 w w' : World} (h : Fr b t w w') (h0 : Below w0.heap.size w0 w) (hb : w0.heap.size ≤ b) (ht : w0.heap.size ≤ t) : Below w0.heap.size w0 w' :=
  ⟨h.os.trans h0.os, h.tape.trans h0.tape, h.output.trans h0.output, Nat.le_trans h0.size h.size, fun j hj => (h.block j (Nat.lt_of_lt_of_le hj h0.size) (by omega) (by omega)).trans (h0.block j hj)⟩
/-- what is told: the function of adding, to block t -/
def tellV (t : Nat) : Value := .func (.func 69) #[.pointer (some ⟨t, 0, none⟩)] #[]
def Told [Lo] (fs : List Fm) (s : List Int) (b t : Nat) (r : Rs) (w : World) (e : Ending) (w' : World) : Prop :=
  e = .returned (.tuple #[]) ∧ FInv fs s 0 w' b ∧ (∃ y, Kept w' t r y ∧ IB w' y r.best) ∧ Fr b t w w'
/-- where one formula's readings stand -/
structure Ere [Lo] (fs : List Fm) (s : List Int) (b t B1 B2 : Nat) (q : Nat) (acc : Rs) (xv : Value) (wt : Int) (W1 wx : World) : Prop where
  inv : FInv fs s 0 wx b
  rest : ∃ y, Kept wx B2 (R fs s q) y ∧ IB wx y (R fs s q).best
  told : ∃ y, Kept wx t acc y ∧ IB wx y acc.best
  fr : Fr b t W1 wx
  f0 : wx.cell? ⟨B1, 0, none⟩ = some xv
  f1 : wx.cell? ⟨B1, 1, none⟩ = some (.int .i64 wt)

set_option maxHeartbeats 16000000 in
theorem each_any [Lo] (fs : List Fm) (s : List Int) (hok : fok fs s = true) (v u : Value) (w0 : World) (HV0 : FV w0 v fs) (HU0 : IV w0 u s) (hlo0 : Lo.n ≤ w0.heap.size) (b : Nat) (hb0 : w0.heap.size ≤ b) : ∀ d p, s.length - p = d → p ≤ s.length →
    ∀ (t : Nat) (acc : Rs) (x : Value) (l : Nat) (w : World), w0.heap.size ≤ t → b ≠ t → Below w0.heap.size w0 w → FInv fs s l w b → Kept w t acc x → IB w x acc.best → acc.many ≤ 1000000000 →
    Calls Try.prog 42 #[.agg #[v, u, .map (some b)], .int .i64 p, tellV t] w (Told fs s b t (RkA fs s p acc fs.length) w) := by
  obtain ⟨hv, hs⟩ := fok_parts hok
  have HU := Lib.hid HU0
  obtain ⟨a, c, rfl, ha, hc1, hc2⟩ := HV0
  obtain ⟨a', c', rfl, ha', hc1', hc2'⟩ := HU0
  have HA := Lib.hid ha
  have HA' := Lib.hid ha'
  have HVV := Lib.hid hv
  clear ha ha' hok hv
  intro d
  induction d using Nat.strongRecOn with
  | ind d ih =>
  intro p hd hp t acc x l w ht0 hbt hbw hF hK hI hm
  have IH := Lib.hid ih
  clear ih
  have htl := hK.lt
  have hbl := hF.lt
  have hmapb := hF.isMap
  -- the start, behind the finder's box
  have hst : ∀ W1, W1 = w.alloc (.cells #[.slice a fs.length c, .slice a' s.length c', .map (some b)] 63) → FInv fs s 0 W1 b ∧ Kept W1 t acc x ∧ IB W1 x acc.best ∧ Below w0.heap.size w0 W1 ∧ Below w.heap.size w W1 ∧ W1.heap.size = w.heap.size + 1 ∧
      W1.heap[w.heap.size]? = some (.cells #[.slice a fs.length c, .slice a' s.length c', .map (some b)] 63 (0, 0)) := by
    rintro W1 rfl
    have hb1 : Below w.heap.size w (w.alloc (.cells #[.slice a fs.length c, .slice a' s.length c', .map (some b)] 63)) := (Below.refl _ _).alloc (Nat.le_refl _) _
    exact ⟨(hF.mono (Nat.zero_le _)).below hb1, hK.keep (hb1.block t htl), hI.below hb1, hbw.trans (hb1.mono hbw.size), hb1, by simp, heap_alloc_new w _⟩
  have HST := Lib.hid hst
  clear hst
  have hp0 : (0 : Int) ≤ (p : Int) := by omega
  unfold maxLen at hc2 hc2'
  have hmany : ∀ k, k ≤ fs.length → (RkA fs s p acc k).many ≤ 1000000000 + 8388608 := by
    intro k hk
    rw [RkA_many]
    by_cases hps : p < s.length
    · have h1 := byl_mono (k := k) hk HVV.out hps
      have h2 := R_small (s := s) (p := p) HVV.out hs hp
      omega
    · have hz : (Rk fs s p k).many = 0 := by
        rw [Rk_many HVV.out k hk]
        have hno : ∀ l, 1 ≤ l → hasL fs s p l k = false := fun l hl => by
          cases hh : hasL fs s p l k with
          | false => rfl
          | true => have := has_le _ hh; omega
        unfold byl
        rw [hno 1 (by omega), hno 2 (by omega), hno 3 (by omega), hno 4 (by omega), hno 5 (by omega)]
        rfl
      omega
  have HMANY := Lib.hid hmany
  clear hmany hF hK hI
  unfold tellV
  go_enter Try.func42, Try.ntmps42
  go_wp2_with (fail)
  obtain ⟨W1, hW1⟩ : ∃ W1, W1 = w.alloc (.cells #[.slice a fs.length c, .slice a' s.length c', .map (some b)] 63) := ⟨_, rfl⟩
  rw [← hW1]
  obtain ⟨g1, g2, g3, g4, g5, g6, g7⟩ := HST.out W1 hW1
  clear hW1
  have G1 := Lib.hid g1
  have G2 := Lib.hid g2
  have G3 := Lib.hid g3
  have G4 := Lib.hid g4
  have G5 := Lib.hid g5
  have G6 := Lib.hid g6
  have G7 := Lib.hid g7
  clear g1 g2 g3 g4 g5 g6 g7 HST
  go_loopw [14] (fun i wr => ∃ k : Nat, k ≤ fs.length ∧ i = .int .i64 k ∧ FInv fs s 0 wr b ∧ (∃ y, Kept wr t (RkA fs s p acc k) y ∧ IB wr y (RkA fs s p acc k).best) ∧ Fr b t W1 wr) (fun i _ => fs.length - (intOf i).toNat)
  case atStart => exact ⟨0, Nat.zero_le _, rfl, G1.out, ⟨x, G2.out, G3.out⟩, Fr.refl _ _ _⟩
  case round =>
    obtain ⟨k, hk, rfl, hinv, htold, hfr⟩ := hrel
    have HINV := Lib.hid hinv
    have HTOLD := Lib.hid htold
    have HFR := Lib.hid hfr
    clear hinv htold hfr
    by_cases hlt : k < fs.length
    · obtain ⟨xs, wt, hx⟩ := fs_get hlt
      have hxo := fo_parts (fv_fo HVV.out hx)
      simp only at hxo
      rcases HA.out with h | ⟨A, off, rfl, hA, hc⟩
      · subst h; simp at hlt
      obtain ⟨z, e1, hu, e2⟩ := hc k _ hx
      have hbr : Below w0.heap.size w0 wr := HFR.out.below0 G4.out hb0 ht0
      have e1 := (hbr.cell (p := ⟨A, off + k * 2, none⟩) hA).trans e1
      have e2 := (hbr.cell (p := ⟨A, off + k * 2 + 1, none⟩) hA).trans e2
      have HZ := Lib.hid hu
      obtain ⟨za, zc, rfl, _, _, _⟩ := hu
      have hB0 : wr.heap[w.heap.size]? = some (.cells #[.slice (some ⟨A, off, none⟩) fs.length c, .slice a' s.length c', .map (some b)] 63 (0, 0)) := (HFR.out.block _ (by have := G6.out; omega) (by omega) (by omega)).trans G7.out
      have hwr : w.heap.size + 1 ≤ wr.heap.size := by have := HFR.out.size; have := G6.out; omega
      have b0 : wr.cell? ⟨w.heap.size, 0, none⟩ = some (.slice (some ⟨A, off, none⟩) fs.length c) := by simp [World.cell?, hB0]
      have b1 : wr.cell? ⟨w.heap.size, 1, none⟩ = some (.slice a' s.length c') := by simp [World.cell?, hB0]
      have b2 : wr.cell? ⟨w.heap.size, 2, none⟩ = some (.map (some b)) := by simp [World.cell?, hB0]
      have HB0 := Lib.hid hB0
      have HX := Lib.hid hx
      have hk0 : (0 : Int) ≤ (k : Int) := by omega
      have hk1 : (k : Int) < (fs.length : Int) := by omega
      have HBR := Lib.hid hbr
      have hk8 : k < 8 := by have := fv_len HVV.out; omega
      clear hc hx hB0 hbr
      have hst2 : ∀ W2, W2 = wr.alloc (.cells #[.slice za xs.length zc, .int .i64 wt] 59) → Below wr.heap.size wr W2 ∧ W2.heap.size = wr.heap.size + 1 ∧ W2.heap[wr.heap.size]? = some (.cells #[.slice za xs.length zc, .int .i64 wt] 59 (0, 0)) := by
        rintro W2 rfl
        exact ⟨(Below.refl _ _).alloc (Nat.le_refl _) _, by simp, heap_alloc_new wr _⟩
      have HS2 := Lib.hid hst2
      clear hst2
      have hstay : ∀ W', Below wr.heap.size wr W' → FInv fs s 0 W' b ∧ (∃ y, Kept W' t (RkA fs s p acc k) y ∧ IB W' y (RkA fs s p acc k).best) ∧ Fr b t W1 W' := fun W' hb => by
        obtain ⟨y, hy1, hy2⟩ := HTOLD.out
        exact ⟨HINV.out.below hb, ⟨y, hy1.keep (hb.block t hy1.lt), hy2.below hb⟩, HFR.out.below hb⟩
      have HSTAY := Lib.hid hstay
      clear hstay
      go_wp2_with (fail)
      obtain ⟨W2, hW2⟩ : ∃ W2, W2 = wr.alloc (.cells #[.slice za xs.length zc, .int .i64 wt] 59) := ⟨_, rfl⟩
      rw [← hW2]
      obtain ⟨j1, j2, j3⟩ := HS2.out W2 hW2
      have b0 := (j1.cell (p := ⟨w.heap.size, 0, none⟩) (by show w.heap.size < _; omega)).trans b0
      have b1 := (j1.cell (p := ⟨w.heap.size, 1, none⟩) (by show w.heap.size < _; omega)).trans b1
      have b2 := (j1.cell (p := ⟨w.heap.size, 2, none⟩) (by show w.heap.size < _; omega)).trans b2
      have f0 : W2.cell? ⟨wr.heap.size, 0, none⟩ = some (.slice za xs.length zc) := by simp [World.cell?, j3]
      have f1 : W2.cell? ⟨wr.heap.size, 1, none⟩ = some (.int .i64 wt) := by simp [World.cell?, j3]
      have J1 := Lib.hid j1
      have J2 := Lib.hid j2
      clear hW2 j1 j2 j3 e1 e2 HS2
      by_cases hle : p + xs.length ≤ s.length
      · have t1 : decide ((s.length : Int) < (p : Int) + (xs.length : Int)) = false := decide_eq_false (by omega)
        have hS : ∃ A' off', a' = some ⟨A', off', none⟩ := by
          rcases HA'.out with h | ⟨A', off', e, _⟩
          · subst h; rw [List.length_nil] at hle; omega
          · exact ⟨A', off', e⟩
        obtain ⟨A', off', rfl⟩ := hS
        have hcut := IV.cut (n := 0) (p := p) (l := xs.length) HA'.out hc1' (by unfold maxLen; omega) hle
        have HL := Lib.hid (fun w' (hb : Below w0.heap.size w0 w') => slEqualQ_any _ _ _ xs w' (hcut.below hb) (HZ.out.below hb))
        have HW2 := Lib.hid (bl_step HBR.out J1.out)
        have i1 : (p : Int) ≤ (p : Int) + (xs.length : Int) := by omega
        have i2 : (p : Int) + (xs.length : Int) ≤ (c' : Int) := by omega
        have i3 : (p : Int) + (xs.length : Int) ≤ (s.length : Int) := by omega
        have hmt := mt_near hle
        clear hcut
        cases hb : ieq ((s.drop p).take xs.length) xs with
        | false =>
          rw [hb] at HL hmt
          have HN := Lib.hid (RkA_no acc HX.out hmt)
          clear hmt hb
          go_quiet ((go_at_call 68; exact Calls.quiet_of (HL.out _ (bl_drewN HW2.out _))))
          go_wp2_with (fail)
          go_roundw
          case rel =>
            obtain ⟨r1, r2, r3⟩ := HSTAY.out _ (bl_drewN J1.out nq)
            exact ⟨k + 1, by omega, by go_num, r1, by rw [HN.out]; exact r2, r3⟩
          case measure => simp [intOf]; omega
        | true =>
          rw [hb] at HL hmt
          have HMT := Lib.hid hmt
          clear hmt hb
          go_quiet ((go_at_call 68; exact Calls.quiet_of (HL.out _ (bl_drewN HW2.out _))))
          have hd : ∀ W3, W3 = W2.drewN nq → Below W2.heap.size W2 W3 := by rintro W3 rfl; exact bl_drewN (Below.refl _ _) _
          obtain ⟨W3, hW3⟩ : ∃ W3, W3 = W2.drewN nq := ⟨_, rfl⟩
          rw [← hW3]
          have hb23 := hd W3 hW3
          clear hW3 hd
          have hz23 := hb23.size
          have b0 := (hb23.cell (p := ⟨w.heap.size, 0, none⟩) (by show w.heap.size < _; have := J2.out; omega)).trans b0
          have b1 := (hb23.cell (p := ⟨w.heap.size, 1, none⟩) (by show w.heap.size < _; have := J2.out; omega)).trans b1
          have b2 := (hb23.cell (p := ⟨w.heap.size, 2, none⟩) (by show w.heap.size < _; have := J2.out; omega)).trans b2
          have f0 := (hb23.cell (p := ⟨wr.heap.size, 0, none⟩) (by show wr.heap.size < _; have := J2.out; omega)).trans f0
          have f1 := (hb23.cell (p := ⟨wr.heap.size, 1, none⟩) (by show wr.heap.size < _; have := J2.out; omega)).trans f1
          have hb3 := bl_step J1.out hb23
          obtain ⟨r1, r2, r3⟩ := HSTAY.out W3 hb3
          obtain ⟨lv, ok, hlk, hcase⟩ := r1.look (q := p + xs.length) hle hs
          rw [Int.natCast_add] at hlk
          have hone : ∃ r0 y0, lv = rdV r0 y0 ∧ IB W3 y0 r0.best ∧ ((ok = true ∧ r0 = R fs s (p + xs.length)) ∨ (ok = false ∧ p + xs.length < s.length ∧ r0 = Rs.zero)) := by
            rcases hcase with ⟨h1, y, h2, h3⟩ | ⟨h1, h2, h3⟩
            · exact ⟨_, y, h2, h3, .inl ⟨h1, rfl⟩⟩
            · exact ⟨_, _, h3, IB.nil W3, .inr ⟨h1, h2, rfl⟩⟩
          obtain ⟨r0, y0, rfl, hy0, hok0⟩ := hone
          clear hcase
          obtain ⟨ya, yc, rfl, _, _, _⟩ := hy0.view
          have HY0 := Lib.hid hy0
          have R1 := Lib.hid r1
          have R2 := Lib.hid r2
          have R3 := Lib.hid r3
          have HOK0 := Lib.hid hok0
          clear r1 r2 r3 hy0 hok0
          have hst4 : ∀ W4, W4 = W3.alloc (.cells (rdC r0 (.slice ya r0.best.length yc)) 69) → Below W3.heap.size W3 W4 ∧ Kept W4 W3.heap.size r0 (.slice ya r0.best.length yc) ∧ W4.heap.size = W3.heap.size + 1 := by
            rintro W4 rfl
            exact ⟨(Below.refl _ _).alloc (Nat.le_refl _) _, heap_alloc_new W3 _, by simp⟩
          have HS4 := Lib.hid hst4
          clear hst4
          unfold rdC at HS4
          unfold rdV rdC at hlk
          go_upto_if 48 with (fail)
          obtain ⟨W4, hW4⟩ : ∃ W4, W4 = W3.alloc (.cells #[.int .i64 r0.many, .int .i64 r0.few, .int .i64 r0.wt, .slice ya r0.best.length yc, .bool (r0.used 0), .bool (r0.used 1), .bool (r0.used 2), .bool (r0.used 3), .bool (r0.used 4), .bool (r0.used 5), .bool (r0.used 6), .bool (r0.used 7)] 69) := ⟨_, rfl⟩
          rw [← hW4]
          obtain ⟨m1, m2, m3⟩ := HS4.out W4 hW4
          have M1 := Lib.hid m1
          have M2 := Lib.hid m2
          have M3 := Lib.hid m3
          clear hW4 HS4 hlk
          have hz3 : wr.heap.size + 1 ≤ W3.heap.size := by have := J2.out; omega
          have b0 := (m1.cell (p := ⟨w.heap.size, 0, none⟩) (by show w.heap.size < _; omega)).trans b0
          have b1 := (m1.cell (p := ⟨w.heap.size, 1, none⟩) (by show w.heap.size < _; omega)).trans b1
          have b2 := (m1.cell (p := ⟨w.heap.size, 2, none⟩) (by show w.heap.size < _; omega)).trans b2
          have f0 := (m1.cell (p := ⟨wr.heap.size, 0, none⟩) (by show wr.heap.size < _; omega)).trans f0
          have f1 := (m1.cell (p := ⟨wr.heap.size, 1, none⟩) (by show wr.heap.size < _; omega)).trans f1
          clear m1 m2 m3
          have hW04 : Below w0.heap.size w0 W4 := bl_step (bl_step HBR.out hb3) M1.out
          have HW04 := Lib.hid hW04
          clear hW04
          go_cut [] from 15 to 67 (fun wx => Ere fs s b t wr.heap.size W3.heap.size (p + xs.length) (RkA fs s p acc k) (.slice za xs.length zc) wt W1 wx)
          case first =>
            rcases HOK0.out with ⟨h1, h2⟩ | ⟨h1, h2, h3⟩
            · subst h1
              have HERE : Hid (Ere fs s b t wr.heap.size W3.heap.size (p + xs.length) (RkA fs s p acc k) (.slice za xs.length zc) wt W1 W4) := by
                obtain ⟨y, hy1, hy2⟩ := R2.out
                have hk4 := M2.out
                have hi4 := HY0.out.below M1.out
                rw [h2] at hk4 hi4
                exact ⟨R1.out.below M1.out, ⟨_, hk4, hi4⟩, ⟨y, hy1.keep (M1.out.block t hy1.lt), hy2.below M1.out⟩, R3.out.below M1.out, f0, f1⟩
              clear h2
              go_wp2_with (fail)
              go_meet
              case rel => exact HERE.out
            · subst h1 h3
              have hk4 : Kept W4 W3.heap.size Rs.zero (.slice ya Rs.zero.best.length yc) := M2.out
              have hbb : b ≠ W3.heap.size := by have := R1.out.lt; omega
              have ihc := IH.out (s.length - (p + xs.length)) (by omega) (p + xs.length) rfl hle W3.heap.size Rs.zero (.slice ya Rs.zero.best.length yc) 0 W4 (by have := HBR.out.size; omega) hbb HW04.out (R1.out.below M1.out) hk4 (HY0.out.below M1.out) (by simp [Rs.zero])
              rw [RkA_zero, ← R_lt h2, Int.natCast_add] at ihc
              have IHC := Lib.hid ihc
              have hkk : keyOf Try.prog 3 (.int .i64 ((p : Int) + (xs.length : Int))) = some (kq (p + xs.length)) := by
                have := kq_key (q := p + xs.length) (by omega)
                rwa [Int.natCast_add] at this
              have HKK := Lib.hid hkk
              clear ihc hk4 hkk
              go_wp2_with (fail)
              (go_at_call 42; refine IHC.out.mono ?_; rintro e W5 ⟨rfl, hinv5, ⟨y5, hk5, hi5⟩, hfr5⟩)
              obtain ⟨y5a, y5c, rfl, _, _, _⟩ := hi5.view
              have h4s := M3.out
              have b2 : W5.cell? ⟨w.heap.size, 2, none⟩ = some (.map (some b)) := by
                rw [← b2]
                simp [World.cell?, hfr5.block w.heap.size (by omega) (by omega) (by omega)]
              have f0 : W5.cell? ⟨wr.heap.size, 0, none⟩ = some (.slice za xs.length zc) := by
                rw [← f0]
                simp [World.cell?, hfr5.block wr.heap.size (by omega) (by have := HINV.out.lt; omega) (by omega)]
              have f1 : W5.cell? ⟨wr.heap.size, 1, none⟩ = some (.int .i64 wt) := by
                rw [← f1]
                simp [World.cell?, hfr5.block wr.heap.size (by omega) (by have := HINV.out.lt; omega) (by omega)]
              have d0 := hk5.c0
              have d1 := hk5.c1
              have d2 := hk5.c2
              have d3 := hk5.c3
              have d4 := hk5.c4
              have d5 := hk5.c5
              have d6 := hk5.c6
              have d7 := hk5.c7
              have d8 := hk5.c8
              have d9 := hk5.c9
              have d10 := hk5.c10
              have d11 := hk5.c11
              have hmap5 := hinv5.isMap
              obtain ⟨D5, hown5, hfd5⟩ := hinv5
              have hsz5 := hfd5.lt hs
              have HK5 := Lib.hid hk5
              have HI5 := Lib.hid hi5
              have HFR5 := Lib.hid hfr5
              have HFD5 := Lib.hid hfd5
              have HMAP5 := Lib.hid hmap5
              have HOWN5 := Lib.hid hown5
              clear hk5 hi5 hfr5 hfd5 hmap5 b0 b1
              go_wp2_with (at_mapUpdate; refine wpList_mapUpdate_own _ rfl _ _ _ 61 rfl 3 69 keyedInt Try.underlying61 asIs b _ D5 rfl HOWN5.out hsz5 _ _ (kq (p + xs.length)) rfl rfl HKK.out _ [] rfl ?_)
              intro W6 hown6 hgrow6
              have HERE : Hid (Ere fs s b t wr.heap.size W3.heap.size (p + xs.length) (RkA fs s p acc k) (.slice za xs.length zc) wt W1 W6) := by
                have hints := grown_ints hgrow6 HMAP5.out
                obtain ⟨y, hy1, hy2⟩ := R2.out
                have hyt := hy1.lt
                have hz5 := HFR5.out.size
                have hT5 : Kept W5 t (RkA fs s p acc k) y := (hy1.keep (M1.out.block t hyt)).keep (HFR5.out.block t (by omega) (fun e => hbt e.symm) (by omega))
                have hI5 : IB W5 y (RkA fs s p acc k).best := (hy2.below M1.out).keepT (HFR5.out.ints ((R1.out.below M1.out).isMap) (.inr ⟨_, _, M2.out⟩))
                have hg : ∀ j, j < W5.heap.size → j ≠ b → W6.heap[j]? = W5.heap[j]? := fun j hj hne => hgrow6.block j hj (fun e => hne (by injection e))
                refine ⟨HFD5.out.put HOWN5.out hle HI5.out hown6 hints, ⟨_, HK5.out.keep (hg _ HK5.out.lt (fun e => hbb e.symm)), HI5.out.keepT hints⟩, ⟨y, hT5.keep (hg _ hT5.lt (fun e => hbt e.symm)), hI5.keepT hints⟩, ?_, ?_, ?_⟩
                · exact ((R3.out.below M1.out).trans HFR5.out (.inr (by have := R3.out.size; omega))).map hgrow6
                · rw [← f0]; simp [World.cell?, hg wr.heap.size (by omega) (by have := HINV.out.lt; omega)]
                · rw [← f1]; simp [World.cell?, hg wr.heap.size (by omega) (by have := HINV.out.lt; omega)]
              clear hown6 hgrow6 hown5
              go_wp2_with (fail)
              go_meet
              case rel => exact HERE.out
          case rest =>
            have HCUT := Lib.hid hcut
            have hbehind := RkA_yes (s := s) (p := p) acc HX.out hxo.1 HMT.out
            have hnone := RkA_none (s := s) (p := p) acc HX.out hxo.1 HMT.out
            simp only at hbehind hnone
            have hokR := R_ok (s := s) HVV.out _ (p + xs.length) rfl hle
            have hsm := R_small (s := s) (p := p + xs.length) HVV.out hs hle
            have hmk := HMANY.out k hk
            obtain ⟨yq, hkq, hiq⟩ := hcut.rest
            obtain ⟨yt, hkt, hit⟩ := hcut.told
            have g1 := hcut.f1
            have HBE := Lib.hid hbehind
            have HNO := Lib.hid hnone
            have hfew : 0 ≤ (R fs s (p + xs.length)).few ∧ (R fs s (p + xs.length)).few ≤ 1000 := by have := hokR.few0; have := hokR.few1; omega
            have hwts : 0 ≤ (R fs s (p + xs.length)).wt ∧ (R fs s (p + xs.length)).wt ≤ 1000 := by have := hokR.wt0; have := hokR.wt1; omega
            have hbln : (R fs s (p + xs.length)).best.length ≤ 1000 := by have := hokR.blen; omega
            clear hcut hbehind hnone f0 f1 b0 b1 b2
            have HB := Lib.hid (behind_any (R fs s (p + xs.length)) yq k wt hk8 ⟨hxo.2.2.2.1, hxo.2.2.2.2⟩ hfew hwts hbln wc (by have h1 := HCUT.out.fr.size; have h2 := G4.out.size; omega) hiq)
            have HAD := Lib.hid (fun w' y hT hx hy => add_any (RkA fs s p acc k) (behR k wt (R fs s (p + xs.length))) yt y t (by show _ + (R fs s (p + xs.length)).many ≤ _; omega) w' hT hx hy)
            have hbm : (behR k wt (R fs s (p + xs.length))).many = (R fs s (p + xs.length)).many := rfl
            obtain ⟨yqa, yqc, rfl, _, _, _⟩ := hiq.view
            have d0 := hkq.c0
            have d1 := hkq.c1
            have d2 := hkq.c2
            have d3 := hkq.c3
            have d4 := hkq.c4
            have d5 := hkq.c5
            have d6 := hkq.c6
            have d7 := hkq.c7
            have d8 := hkq.c8
            have d9 := hkq.c9
            have d10 := hkq.c10
            have d11 := hkq.c11
            have HKT := Lib.hid hkt
            have HIT := Lib.hid hit
            unfold rdV rdC at HB HAD
            clear hkt hit hkq hiq hokR hfew hwts hbln hbm
            by_cases hm0 : 0 < (R fs s (p + xs.length)).many
            · have t3 : decide (0 < ((R fs s (p + xs.length)).many : Int)) = true := decide_eq_true (by omega)
              have t4 : decide (0 < (R fs s (p + xs.length)).many) = true := decide_eq_true hm0
              have hB2 := HBE.out hm0
              have HB2 := Lib.hid hB2
              clear hB2
              generalize hRq : R fs s (p + xs.length) = rq at *
              go_wp2_with (fail)
              (go_at_call 70; refine HB.out.mono ?_; rintro e W7 ⟨y7, rfl, hi7, hb7⟩)
              have hk7 : Kept W7 t (RkA fs s p acc k) yt := HKT.out.keep (hb7.block t HKT.out.lt)
              have HC8 := Lib.hid (HAD.out W7 y7 hk7 (HIT.out.below hb7) hi7)
              have HK7 := Lib.hid hk7
              have HB7 := Lib.hid hb7
              clear hk7 hi7 hb7
              generalize behR k wt rq = rb at *
              go_wp2_with (fail)
              (go_at_call 69; refine HC8.out.mono ?_; rintro e W8 ⟨rfl, y8, hk8', hi8, hf8⟩)
              have HEND : Hid (FInv fs s 0 W8 b ∧ (∃ y, Kept W8 t (RkA fs s p acc (k + 1)) y ∧ IB W8 y (RkA fs s p acc (k + 1)).best) ∧ Fr b t W1 W8) := by
                rw [HB2.out]
                have hinv7 := HCUT.out.inv.below HB7.out
                refine ⟨hinv7.keep (hf8.block b hinv7.lt hbt) (hf8.ints HK7.out), ⟨y8, hk8', hi8⟩, (HCUT.out.fr.below HB7.out).tell hf8 (.inl rfl)⟩
              clear hk8' hi8 hf8
              go_wp2_with (fail)
              go_roundw
              case rel => exact ⟨k + 1, by omega, by go_num, HEND.out⟩
              case measure => simp [intOf]; omega
            · have t3 : decide (0 < ((R fs s (p + xs.length)).many : Int)) = false := decide_eq_false (by omega)
              have t4 : decide (0 < (R fs s (p + xs.length)).many) = false := decide_eq_false hm0
              have hB2 := HNO.out (by omega)
              have HB2 := Lib.hid hB2
              clear hB2
              go_wp2_with (fail)
              go_roundw
              case rel => exact ⟨k + 1, by omega, by go_num, HCUT.out.inv, by rw [HB2.out]; exact HCUT.out.told, HCUT.out.fr⟩
              case measure => simp [intOf]; omega
      · have t1 : decide ((s.length : Int) < (p : Int) + (xs.length : Int)) = true := decide_eq_true (by omega)
        have HN := Lib.hid (RkA_no acc HX.out (mt_far hle))
        go_quiet (fail)
        go_wp2_with (fail)
        go_roundw
        case rel =>
          obtain ⟨r1, r2, r3⟩ := HSTAY.out _ (bl_drewN J1.out nq)
          exact ⟨k + 1, by omega, by go_num, r1, by rw [HN.out]; exact r2, r3⟩
        case measure => simp [intOf]; omega
    · have hkn : k = fs.length := by omega
      subst hkn
      have hend : Fr b t w wr := by
        refine ⟨HFR.out.os.trans G5.out.os, HFR.out.tape.trans G5.out.tape, HFR.out.output.trans G5.out.output, Nat.le_trans G5.out.size HFR.out.size, fun j hj h1 h2 => ?_⟩
        exact (HFR.out.block j (by have := G6.out; omega) h1 h2).trans (G5.out.block j hj)
      have HE := Lib.hid (show Told fs s b t (RkA fs s p acc fs.length) w (.returned (.tuple #[])) wr from ⟨rfl, HINV.out, HTOLD.out, hend⟩)
      clear hend
      go_wp2_with (fail)
      go_end0
      exact HE.out
end Go.Proofs.Ytjhigjbfnemdjaa
