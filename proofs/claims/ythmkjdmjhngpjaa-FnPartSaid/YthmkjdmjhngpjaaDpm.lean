/-
  The draw of a melody and beats.
-/
import Derived.Test.YthmkjdmjhngpjaaDrawM
import Derived.Test.YthmkjdmjhngpjaaDrm
import Derived.Test.YthmkjdmjhngpjaaIb
import Derived.BigQuiet
namespace Go.Proofs.Ythmkjdmjhngpjaa
open Go.RowKit
set_option maxRecDepth 100000
set_option linter.unusedVariables false

/-- the state of a loop that draws integers -/
structure DiInv (w wr : World) (B A q : Nat) (v : Value) (zs : List Int) : Prop where
  own : wr.ownsRow w.heap.size 3 1 v zs.length (zs.map (Value.int .i64))
  rd : Rd wr B A q
  gb : w.grownBy wr (some B)
theorem DiInv.pick {w wr w1 : World} {B A q q' : Nat} {v : Value} {zs : List Int} (h : DiInv w wr B A q v zs) (hr : Rd w1 B A q') (hg : wr.grownBy w1 (some B)) (hB : B < w.heap.size) : DiInv w w1 B A q' v zs := by
  refine ⟨h.own.kept hg ?_, hr, gb_step h.gb hg⟩
  right
  intro e
  have := (h.own.lt B e).1
  omega
theorem DiInv.app {w wr w2 : World} {B A q : Nat} {v v' : Value} {zs : List Int} {z : Int} {o : Obj} (h : DiInv w wr B A q v zs) (hB : B < w.heap.size) (hA : A < w.heap.size)
    (hown : w2.ownsRow w.heap.size 3 1 v' (zs.length + 1) (zs.map (Value.int .i64) ++ [.int .i64 z])) (hg : (wr.alloc o).grownBy w2 v.ownBlock) : DiInv w w2 B A q v' (zs ++ [z]) := by
  have hlt : ∀ g, v.ownBlock = some g → w.heap.size ≤ g := fun g hg => (h.own.lt g hg).1
  refine ⟨?_, (h.rd.alloc o).grown hg (fun e => by have := hlt B e.symm; omega) (fun e => by have := hlt A e.symm; omega), gb_own h.gb hg hlt⟩
  rw [List.map_append, List.length_append]
  exact hown
theorem DiInv.row {w wr : World} {B A q : Nat} {v : Value} {zs : List Int} (h : DiInv w wr B A q v zs) : IRow wr w.heap.size wr.heap.size v zs := ⟨h.own, fun g hg => (h.own.lt g hg).2⟩

/-- a melody and beats of a draw -/
def DrewPm (w : World) (e : Ending) (w' : World) : Prop :=
  ∃ (v u : Value) (ms : List (Int × Bool)) (zs : List Int) (lo hi : Nat), e = .returned (.tuple #[v, u]) ∧ TRow w' lo hi v ms ∧ IV w' u zs ∧ ms.length ≤ 7 ∧ zs.length ≤ 7 ∧ Below w.heap.size w w'

set_option maxHeartbeats 4000000 in
theorem drawPartMake_any (a : Option Addr) (n cap : Nat) (w : World) (h : CodeAt w a n) (hc : n ≤ cap) (hcap : cap ≤ maxLen) :
    Calls Try.prog 20 #[.slice a n cap] w (DrewPm w) := by
  obtain ⟨i0, hi0, hq0, hq1, hq2⟩ := info_parts infoIb
  go_enter Try.func20, Try.ntmps20
  go_wp2_with (fail)
  (go_at_call 36; refine (open_any a n cap _ h hc hcap).mono ?_; rintro e w1 ⟨A, rfl, hr1, hb1, hs1⟩)
  have hB1 := hr1.lt
  go_wp2_with (fail)
  (go_at_call 43; refine (l91Melody_any w.heap.size A 0 7 (by omega) (by omega) _ hr1).mono ?_; rintro e w2 ⟨v, ms, rfl, hd, hml⟩)
  have HT2 : Hid (TRow w2 w1.heap.size w2.heap.size v ms) := ⟨hd.own, fun g hg => (hd.own.lt g hg).2⟩
  have HE2 := Lib.hid (below_gb hb1 hd.gb (Nat.le_refl _))
  have hz2 := hd.gb.size
  have hB2 := hd.rd.lt
  have hA2 := hd.rd.ltA
  have HS : Hid (DiInv w2 (w2.alloc (.cells #[] 3)) w.heap.size A 18 (.slice (some ⟨w2.heap.size, 0, none⟩) 0 0) []) := ⟨(IbInv.start w2).own, hd.rd.alloc _, gb_alloc (gb_refl _ _) _⟩
  obtain ⟨av, cv, rfl⟩ : ∃ a c, v = .slice a ms.length c := by
    rcases HT2.out.form with ⟨rfl, rfl⟩ | ⟨g, cap, rfl, _⟩
    · exact ⟨none, 0, rfl⟩
    · exact ⟨_, cap, rfl⟩
  have HFIN : Hid (∀ w' u zs, w2.grownBy w' (some w.heap.size) → IV w' u zs → zs.length ≤ 7 → DrewPm w (.returned (.tuple #[.slice av ms.length cv, u])) w') := fun w' u zs hg hi hl =>
    ⟨_, u, ms, zs, _, _, rfl, HT2.out.keep fun k h1 h2 h3 => hg.block k (by omega) (fun e => by injection e; omega), hi, hml, hl, below_gb HE2.out hg (Nat.le_refl _)⟩
  clear hr1 hb1 hd
  go_wp2
  go_loopw [6, 7] (fun u i wr => ∃ (k : Nat) (zs : List Int), k ≤ ms.length ∧ zs.length = k ∧ i = .int .i64 (k : Int) ∧ DiInv w2 wr w.heap.size A (18 + k) u zs) (fun _ i _ => ms.length - (intOf i).toNat)
  case atStart => exact ⟨0, [], by omega, rfl, rfl, HS.out⟩
  case round =>
    obtain ⟨k, zs, hk, hzl, rfl, hI⟩ := hrel
    have HI := Lib.hid hI
    clear HS
    have hgz := hI.gb.size
    by_cases hlt : k < ms.length
    · clear hI
      go_wp2_with (fail)
      (go_at_call 38; refine (pick_any 3 w.heap.size A (18 + k) (by omega) (by omega) (by omega) _ HI.out.rd).mono ?_; rintro e w3 ⟨k3, rfl, k30, k31, hr3, hg3⟩)
      have H3 := Lib.hid (HI.out.pick hr3 hg3 hB2)
      have hgz3 := hg3.size
      have hown := H3.out.own
      rw [hzl] at hown
      have wk : IntKind.i64.wrap (1 + k3) = 1 + k3 := IntWalk.i64_in _ (by omega)
      have HZL := Lib.hid hzl
      clear hr3 hg3 hzl
      go_wp2_with (at_builtin; refine wpList_append_own _ rfl _ _ 25 rfl w2.heap.size 3 i0 (.int .i64 0) 1 8 Try.underlying25 hi0 hq0 hq1 hq2 rfl (by decide) _ _ _ rfl (hown.alloc _) ⟨w3.heap.size, 0, none⟩ 1 1 [.int .i64 (1 + k3)] rfl rfl ?c1 ?c2 ?c3 ?c4 ?c5 ?_)
      case c1 =>
        intro j u hj
        match j, hj with
        | 0, hj => simp at hj; subst hj; simp [Addr.add]
      case c2 => intro u hu; simp at hu; subst hu; rfl
      case c3 => unfold maxLen; omega
      case c4 => omega
      case c5 => simp; omega
      intro v' w4 hown' hgrow _
      have H4 := Lib.hid (H3.out.app (z := 1 + k3) hB2 hA2 (by rw [HZL.out]; exact hown') hgrow)
      clear hown' hgrow hown
      go_wp2
      go_roundw
      case rel => exact ⟨k + 1, zs ++ [1 + k3], by omega, by simp; exact HZL.out, by go_num, ⟨H4.out.own, H4.out.rd.more (by omega), H4.out.gb⟩⟩
      case measure => simp [intOf]; omega
    · obtain ⟨au, cu, rfl⟩ := hI.row.sl hzl
      have hkm : k = ms.length := by omega
      clear hI
      have HZL := Lib.hid hzl
      have HKM := Lib.hid hkm
      have hk7 : k ≤ 7 := by omega
      clear hzl hkm
      by_cases h0 : k = 0
      · subst h0
        have HX := Lib.hid (HFIN.out _ _ zs HI.out.gb HI.out.row.view (by have := HZL.out; omega))
        go_wp2
        go_ret2
        exact HX.out
      have g1 : decide ((0 : Int) < (k : Int)) = true := decide_eq_true (by omega)
      have g2 : decide (0 < k) = true := decide_eq_true (by omega)
      have g3 : 0 < k := by omega
      go_wp2_with (fail)
      (go_at_call 38; refine (pick_any 20 w.heap.size A (18 + k) (by omega) (by omega) (by omega) _ HI.out.rd).mono ?_; rintro e w3 ⟨k3, rfl, k30, k31, hr3, hg3⟩)
      have H3 := Lib.hid (HI.out.pick hr3 hg3 hB2)
      have hgz3 := hg3.size
      clear hr3 hg3
      by_cases e0 : k3 = 0
      · subst e0
        go_wp2_with (fail)
        (go_at_call 38; refine (pick_any 2 w.heap.size A (18 + k + 1) (by omega) (by omega) (by omega) _ (H3.out.rd.alloc _)).mono ?_; rintro e w4 ⟨k4, rfl, k40, k41, hr4, hg4⟩)
        have hwB : w3.heap.size ≠ w.heap.size := by omega
        have hn4 := (hg4.block w3.heap.size (by simp) (by simpa using hwB)).trans (heap_alloc_new w3 _)
        have e4 : w4.cell? ⟨w3.heap.size, k4.toNat, none⟩ = some (.int .i64 (sel3 0 4 0 k4)) := by simp [World.cell?, hn4, sel2_arr k40 k41]
        have Ha : DiInv w2 (w3.alloc (.cells #[.int .i64 0, .int .i64 4] 3)) w.heap.size A (18 + k + 1) (.slice au k cu) zs := ⟨H3.out.own.alloc _, H3.out.rd.alloc _, gb_alloc H3.out.gb _⟩
        have H4 := Lib.hid (Ha.pick hr4 hg4 hB2)
        obtain ⟨g, cap2, hv, hg, hg2, hgs, hcp, hmx, hcell, hfz, hset⟩ := irow_put H4.out.row (j := 0) (by have := HZL.out; omega)
        rw [HZL.out] at hv
        injection hv with hv1 _ hv3
        subst hv1 hv3
        have hst := hset w4 (sel3 0 4 0 k4) H4.out.row
        have hgb := gb_set H4.out.gb (p := ⟨g, 0, none⟩) (.inr hg) (.int .i64 (sel3 0 4 0 k4))
        have HX := Lib.hid (HFIN.out _ _ _ hgb hst.view (by have := HZL.out; simp; omega))
        have hk40 : (0 : Int) ≤ k4 := k40
        generalize zs.getD 0 0 = zz at hcell
        clear hn4 Ha hr4 hg4 hset hst hgb
        go_wp2
        go_ret2
        exact HX.out
      · have g5 : (k3 == 0) = false := beq_eq_false_iff_ne.2 e0
        have g6 : decide (k3 = 0) = false := decide_eq_false e0
        by_cases e1 : k3 = 1
        · subst e1
          obtain ⟨g, cap2, hv, hg, hg2, hgs, hcp, hmx, hcell, hfz, hset⟩ := irow_put H3.out.row (j := 0) (by have := HZL.out; omega)
          rw [HZL.out] at hv hcp
          injection hv with hv1 _ hv3
          subst hv1 hv3
          unfold maxLen at hmx
          have hview := H3.out.row.view
          clear hset
          by_cases hc1 : cu = 1
          · subst hc1
            have hk1 : k = 1 := by omega
            subst hk1
            have HX : Hid (∀ m, DrewPm w (.returned (.tuple #[.slice av ms.length cv, .slice (some ⟨g, 0, none⟩) 0 0])) (w3.drewN m)) := fun m => HFIN.out _ _ [] ⟨H3.out.gb.os, H3.out.gb.tape, H3.out.gb.output, H3.out.gb.size, H3.out.gb.block⟩ ⟨_, 0, rfl, .inl rfl, Nat.le_refl _, Nat.zero_le _⟩ (by simp)
            go_wp2
            go_quiet (fail)
            go_wp2
            go_ret2
            exact HX.out _
          · obtain ⟨cm, rfl⟩ : ∃ cm, cu = cm + 2 := ⟨cu - 2, by omega⟩
            obtain ⟨kp, rfl⟩ : ∃ kp, k = kp + 1 := ⟨k - 1, by omega⟩
            have HX : Hid (∀ m, DrewPm w (.returned (.tuple #[.slice av ms.length cv, .slice (some ⟨g, 1, none⟩) kp (cm + 1)])) (w3.drewN m)) := fun m => by
              have hzl := HZL.out
              obtain ⟨a9, c9, hv9, ha9, _, _⟩ := hview
              rw [hzl] at hv9
              injection hv9 with hv91 _ hv93
              subst hv91 hv93
              have hf := ha9.from_ 1
              have hd : (zs.drop 1).length = kp := by simp; omega
              exact HFIN.out _ _ (zs.drop 1) ⟨H3.out.gb.os, H3.out.gb.tape, H3.out.gb.output, H3.out.gb.size, H3.out.gb.block⟩ ⟨_, cm + 1, by rw [hd], hf, by omega, by unfold maxLen; omega⟩ (by rw [hd]; omega)
            clear hview
            go_wp2
            go_quiet (fail)
            go_wp2
            go_ret2
            exact HX.out _
        · have g7 : (k3 == 1) = false := beq_eq_false_iff_ne.2 e1
          have g8 : decide (k3 = 1) = false := decide_eq_false e1
          have HX := Lib.hid (HFIN.out _ _ zs H3.out.gb H3.out.row.view (by have := HZL.out; omega))
          go_wp2
          go_ret2
          exact HX.out
end Go.Proofs.Ythmkjdmjhngpjaa
