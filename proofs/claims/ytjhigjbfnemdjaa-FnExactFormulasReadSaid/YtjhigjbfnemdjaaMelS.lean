/-
  The differences of a melody's neighbours, in the program.
-/
import Derived.Test.YtjhigjbfnemdjaaMelT
import Derived.Test.YtjhigjbfnemdjaaMelV
import Derived.Test.YtjhigjbfnemdjaaInts
namespace Go.Proofs.Ytjhigjbfnemdjaa
open Go.RowKit
set_option maxRecDepth 100000
set_option linter.unusedVariables false

theorem infoInt' : (Try.prog.info? 3).map (fun i => (i.zero, i.size, i.bytes)) = some (some (.int .i64 0), 1, 8) := by kernel_rfl

/-- a list of integers that a call has built: its block is its own -/
def IBuilt (w : World) (xs : List Int) (e : Ending) (w' : World) : Prop :=
  ∃ v, e = .returned v ∧ IRow w' w.heap.size w'.heap.size v xs ∧ Below w.heap.size w w'

/-- the first k differences of neighbours -/
def difs (d : Int → Bool → Int → Bool → Int) (xs : List (Int × Bool)) (k : Nat) : List Int :=
  (List.range k).map fun i => d (xs.getD i (0, false)).1 (xs.getD i (0, false)).2 (xs.getD (i + 1) (0, false)).1 (xs.getD (i + 1) (0, false)).2
theorem difs_len (d : Int → Bool → Int → Bool → Int) (xs : List (Int × Bool)) (k : Nat) : (difs d xs k).length = k := by simp [difs]
theorem difs_succ (d : Int → Bool → Int → Bool → Int) {xs : List (Int × Bool)} {k : Nat} {t u : Int × Bool} (h : xs[k]? = some t) (g : xs[k + 1]? = some u) : difs d xs (k + 1) = difs d xs k ++ [d t.1 t.2 u.1 u.2] := by
  simp [difs, List.range_succ, List.getD_eq_getElem?_getD, h, g]
theorem inews {w : World} {z : Int} {t : TypeId} : ∀ j u, ([.int .i64 z] : List Value)[j]? = some u → (w.alloc (.cells #[.int .i64 z] t)).cell? ((⟨w.heap.size, 0, none⟩ : Addr).add j) = some u := by
  intro j u hj
  match j, hj with
  | 0, hj => simp at hj; subst hj; simp [Addr.add]
theorem inews_one {z : Int} : ∀ u ∈ ([.int .i64 z] : List Value), u.oneCell' = true := by
  intro u hu; simp at hu; subst hu; rfl
theorem allv_at {xs : List (Int × Bool)} {k : Nat} {t : Int × Bool} (h : allv xs = true) (hx : xs[k]? = some t) : vd t.1 t.2 = true := List.all_eq_true.1 h t (List.mem_of_getElem? hx)

def DfInv (d : Int → Bool → Int → Bool → Int) (w wr : World) (m v : Value) (xs : List (Int × Bool)) (j : Nat) : Prop :=
  ∃ p, m = .pointer p ∧ wr.ownsRow w.heap.size 3 1 v j ((difs d xs j).map (Value.int .i64)) ∧ (∃ lo, Mel wr lo p (xs.drop j)) ∧ Below w.heap.size w wr

set_option maxHeartbeats 4000000 in
theorem differencesSteps_any (d : Int → Bool → Int → Bool → Int) (p : Option Addr) (lo : Nat) (xs : List (Int × Bool)) (w : World) (h : Mel w lo p xs) (ha : allv xs = true) (hn : xs.length ≤ 24)
    (hf : ∀ s b t c (w1 : World), Below w.heap.size w w1 → vd s b = true → vd t c = true → Calls Try.prog 82 #[.agg #[.int .i64 s, .bool b], .agg #[.int .i64 t, .bool c]] w1 fun e w' => e = .returned (.tuple #[.int .i64 (d s b t c), .bool true]) ∧ Below w1.heap.size w1 w') :
    Calls Try.prog 81 #[.pointer p, .func (.func 82) #[] #[]] w (IBuilt w (difs d xs (xs.length - 1))) := by
  obtain ⟨i0, hi, hq0, hq1, hq2⟩ := info_parts infoInt'
  have HF := Lib.hid hf
  have HA := Lib.hid ha
  have h0 : DfInv d w (w.alloc (.cells #[] 3)) (.pointer p) (.slice (some ⟨w.heap.size, 0, none⟩) 0 0) xs 0 :=
    ⟨p, rfl, ⟨rfl, .inr ⟨w.heap.size, 0, #[], rfl, Nat.le_refl _, heap_alloc_new w _, by simp, by simp [maxLen], by simp, by simp [difs]⟩⟩, ⟨lo, by simpa using h.below ((Below.refl _ _).alloc (Nat.le_refl _) _)⟩, (Below.refl _ _).alloc (Nat.le_refl _) _⟩
  have HE : Hid (∀ (wr : World) (v : Value) (j : Nat), j = xs.length - 1 → wr.ownsRow w.heap.size 3 1 v j ((difs d xs j).map (Value.int .i64)) → Below w.heap.size w wr → IBuilt w (difs d xs (xs.length - 1)) (.returned v) wr) := by
    rintro wr v j rfl ho hb
    exact ⟨v, rfl, ⟨by rw [difs_len]; exact ho, fun g hg => (ho.lt g hg).2⟩, hb⟩
  clear h hf ha
  go_enter Try.func81, Try.ntmps81
  go_wp2
  go_loopg [0, 5] xs.length (fun k m v wr => ∃ j, j + k = xs.length ∧ j ≤ xs.length - 1 ∧ DfInv d w wr m v xs j)
  case atStart => exact ⟨0, by omega, by omega, h0⟩
  case round =>
    obtain ⟨j, hj, hjl, p, rfl, hown, ⟨lo', hm⟩, hb⟩ := hrel
    by_cases hlt : j < xs.length
    · have hd : xs.drop j = xs[j] :: xs.drop (j + 1) := List.drop_eq_getElem_cons hlt
      have ht : xs[j]? = some xs[j] := List.getElem?_eq_getElem hlt
      rw [hd] at hm
      clear hd
      generalize xs[j] = t at hm ht
      obtain ⟨s, b⟩ := t
      obtain ⟨B, q, rfl, hlo, hh, hr⟩ := hm
      have c0 : wr.cell? ⟨B, 0, none⟩ = some (.int .i64 s) := by simp [World.cell?, hh]
      have c1 : wr.cell? ⟨B, 1, none⟩ = some (.bool b) := by simp [World.cell?, hh]
      have c2 : wr.cell? ⟨B, 2, none⟩ = some (.pointer q) := by simp [World.cell?, hh]
      by_cases hlt1 : j + 1 < xs.length
      · have hd1 : xs.drop (j + 1) = xs[j + 1] :: xs.drop (j + 2) := List.drop_eq_getElem_cons hlt1
        have ht1 : xs[j + 1]? = some xs[j + 1] := List.getElem?_eq_getElem hlt1
        have hm1 := hr
        rw [hd1] at hm1
        clear hd1
        generalize xs[j + 1] = t1 at hm1 ht1
        obtain ⟨s1, b1⟩ := t1
        obtain ⟨B1, q1, rfl, hlo1, hB1, c3, c4, c5, _⟩ := hm1.head
        have HX : Hid (difs d xs (j + 1) = difs d xs j ++ [d s b s1 b1]) := difs_succ d ht ht1
        have v0 := allv_at HA.out ht
        have v1 := allv_at HA.out ht1
        have HB := Lib.hid hh
        have HR := Lib.hid hr
        have HJ := Lib.hid hj
        have HO := Lib.hid hown
        clear hh hr hm1 ht ht1 hown
        go_wp2
        have hBlt : B < wr.drew.heap.size := by
          have hh := HB.out
          rcases Nat.lt_or_ge B wr.heap.size with h | h
          · exact h
          · rw [Array.getElem?_eq_none h] at hh; cases hh
        go_region_held3 (fun wx => wx.cell? ⟨B, 0, none⟩ = some (.int .i64 s) ∧ wx.cell? ⟨B, 1, none⟩ = some (.bool b) ∧ wx.cell? ⟨B, 2, none⟩ = some (.pointer (some ⟨B1, 0, none⟩)) ∧ wx.cell? ⟨B1, 0, none⟩ = some (.int .i64 s1) ∧ wx.cell? ⟨B1, 1, none⟩ = some (.bool b1)) (go_keep)
          (first | (go_at_call 82; refine (HF.out s b s1 b1 _ (hb.drew) v0 v1).mono ?_; rintro e w1 ⟨rfl, hb1⟩; have k0 := (hb1.cell (p := ⟨B, 0, none⟩) hBlt).trans c0; have k1 := (hb1.cell (p := ⟨B, 1, none⟩) hBlt).trans c1; have k2 := (hb1.cell (p := ⟨B, 2, none⟩) hBlt).trans c2; have k3 := (hb1.cell (p := ⟨B1, 0, none⟩) hB1).trans c3; have k4 := (hb1.cell (p := ⟨B1, 1, none⟩) hB1).trans c4))
        have HO1 := Lib.hid (tbelow (HO.out.drew) hb1)
        have HB1 := Lib.hid (bl_step hb.drew hb1)
        have HR1 := Lib.hid (HR.out.drew.below hb1)
        have HB2 := Lib.hid ((hb1.block B hBlt).trans HB.out)
        have hown1 := HO1.out
        clear c0 c1 c2 c3 c4 c5 k0 k1 k2 k3 k4 hb hb1 HO HR HB
        all_goals
          go_wp2_with (at_builtin; refine wpList_append_own _ rfl _ _ 23 rfl w.heap.size 3 i0 (.int .i64 0) 1 8 Try.underlying23 hi hq0 hq1 hq2 rfl (by decide) _ _ _ rfl (hown1.alloc _) ⟨w1.heap.size, 0, none⟩ 1 1 [.int .i64 (d s b s1 b1)] rfl rfl inews inews_one (by unfold maxLen; omega) (by omega) (by have := HB1.out.size; simp; omega) ?_)
          intro v' w2 hown' hgrow _
          have hh2 := app_blk (by decide) HB2.out hown1 hgrow
          have d2 : w2.cell? ⟨B, 2, none⟩ = some (.pointer (some ⟨B1, 0, none⟩)) := by simp [World.cell?, hh2]
          have HI : Hid (DfInv d w w2 (.pointer (some ⟨B1, 0, none⟩)) v' xs (j + 1)) := ⟨_, rfl, by rw [HX.out, List.map_append]; exact hown', ⟨lo', HR1.out.app (by decide) hown1 hgrow⟩, (HB1.out.alloc HB1.out.size _).grown hgrow (by have := HB1.out.size; simp; omega) (fun k hk => (hown1.lt k hk).1)⟩
          clear hown' hgrow hown1 hh2
          go_wp2
          have hj := HJ.out
          go_roundg (gk - 1)
          case measure => omega
          case rel => exact ⟨j + 1, by omega, by omega, HI.out⟩
      · have hp : q = none := by
          have hz : xs.drop (j + 1) = [] := List.drop_eq_nil_of_le (by omega)
          rw [hz] at hr
          simpa [Mel] using hr
        subst hp
        have HF2 := Lib.hid (HE.out wr _ j (by omega) hown hb)
        clear hown hh hr ht
        go_wp2
        go_ret
        exact HF2.out
    · have hj0 : j = xs.length := by omega
      have hp : p = none := by
        have hz : xs.drop j = [] := List.drop_eq_nil_of_le (by omega)
        rw [hz] at hm
        simpa [Mel] using hm
      subst hp
      have HF2 := Lib.hid (HE.out wr _ j (by omega) hown hb)
      clear hown hm
      go_wp2
      go_ret
      exact HF2.out

def stepsOf (xs : List (Int × Bool)) : List Int := difs stp (mvl xs) ((mvl xs).length - 1)
theorem mvl_allv (xs : List (Int × Bool)) : allv (mvl xs) = true := List.all_eq_true.2 fun t ht => mvl_mem ht

set_option maxHeartbeats 2000000 in
theorem melodySteps_any (lo hi : Nat) (v : Value) (xs : List (Int × Bool)) (w : World) (h : TRow w lo hi v xs) :
    Calls Try.prog 62 #[v] w (IBuilt w (stepsOf xs)) := by
  have HV := Lib.hid (mvl_allv xs)
  have HL := Lib.hid (mvl_len xs)
  go_enter Try.func62, Try.ntmps62
  go_wp2_with (fail)
  (go_at_call 80; refine (newMelody_any lo hi v xs _ h).mono ?_; rintro e w1 ⟨p, rfl, hm, hb1⟩)
  go_wp2_with (fail)
  (go_at_call 81; refine (differencesSteps_any stp p _ _ _ hm HV.out HL.out (fun s b t c w2 _ h1 h2 => ?_)).mono ?_)
  · have := toneSteps_any s t b c w2
    rw [both_yes h1 h2] at this
    exact this
  rintro e w2 ⟨u, rfl, hr, hb2⟩
  have HE : Hid (IBuilt w (stepsOf xs) (.returned u) w2) := ⟨u, rfl, ⟨tmono hr.1 hb1.size, hr.2⟩, bl_step hb1 hb2⟩
  clear hm hr h
  go_wp2
  go_ret
  exact HE.out
end Go.Proofs.Ytjhigjbfnemdjaa
