/-
  The steps between a melody's neighbours, in the model.
-/
import Derived.Test.YtjhigjbfnemdjaaMelS
import Derived.Deep.RegionHeld3
import Derived.Deep.AppendLies
import Derived.WalkSpells
import Derived.IntWalk
namespace Go.Proofs.Ytjhigjbfnemdjaa
open Go.RowKit
set_option maxRecDepth 100000
set_option linter.unusedVariables false

theorem difs_stp {xs : List (Int × Bool)} (h : allv xs = true) {k : Nat} {t u : Int × Bool} (ht : xs[k]? = some t) (hu : xs[k + 1]? = some u) : difs stp xs (k + 1) = difs stp xs k ++ [u.1 - t.1] := by
  rw [difs_succ stp ht hu, stp_yes (allv_at h ht) (allv_at h hu)]

set_option maxHeartbeats 4000000 in
theorem sMelodySteps_any (lo hi : Nat) (v : Value) (xs : List (Int × Bool)) (w : World) (h : TRow w lo hi v xs) :
    Calls Try.prog 59 #[v] w (IBuilt w (stepsOf xs)) := by
  obtain ⟨i0, hi, hq0, hq1, hq2⟩ := info_parts infoInt'
  have hb0 : Below w.heap.size w (w.alloc (.cells #[] 3)) := (Below.refl _ _).alloc (Nat.le_refl _) _
  have h1 := h.below hb0 (.inr (Nat.le_refl _))
  have hown0 : (w.alloc (.cells #[] 3)).ownsRow w.heap.size 3 1 (.slice (some ⟨w.heap.size, 0, none⟩) 0 0) 0 [] := ⟨rfl, .inr ⟨w.heap.size, 0, #[], rfl, Nat.le_refl _, heap_alloc_new w _, by simp, by simp [maxLen], by simp, by simp⟩⟩
  have HE : Hid (∀ (wr : World) (v : Value), wr.ownsRow w.heap.size 3 1 v (stepsOf xs).length ((stepsOf xs).map (Value.int .i64)) → Below w.heap.size w wr → IBuilt w (stepsOf xs) (.returned v) wr) :=
    fun wr v ho hb => ⟨v, rfl, ⟨ho, fun g hg => (ho.lt g hg).2⟩, hb⟩
  have hsl : (stepsOf xs).length = (mvl xs).length - 1 := difs_len _ _ _
  rcases h.form with ⟨rfl, rfl⟩ | ⟨g, cap, rfl, hg, hg2, hgs, hcap, hmax, hc⟩
  · have HF := Lib.hid (HE.out _ _ hown0 hb0)
    clear h h1 hown0 hb0 hsl
    go_enter Try.func59, Try.ntmps59
    go_wp2
    go_rounds 1
    go_ret
    exact HF.out
  unfold maxLen at hmax
  have hlen : xs.length ≤ 9223372036854775807 := by omega
  by_cases hv : mv xs = false
  · have hz : stepsOf xs = [] := List.eq_nil_of_length_eq_zero (by rw [hsl, mvl_no hv]; rfl)
    rw [hz] at HE
    rw [hz]
    have HO := Lib.hid hown0
    by_cases hs : xs.length ≤ 1
    · have hs1 : (xs.length : Int) ≤ 1 := by omega
      have HF := Lib.hid (HE.out _ _ hown0 hb0)
      clear h h1 hown0 hb0 hsl hz hc
      go_enter Try.func59, Try.ntmps59
      go_wp2
      go_rounds 1
      go_ret
      exact HF.out
    · have hs1 : (1 : Int) < (xs.length : Int) := by omega
      have HB := Lib.hid hb0
      have H1 := Lib.hid h1
      clear h h1 hown0 hb0 hsl hz hc
      go_enter Try.func59, Try.ntmps59
      go_wp2
      go_loopw [3, 4] (fun v i wr => v = .slice (some ⟨w.heap.size, 0, none⟩) 0 0 ∧ i = .int .i64 1 ∧ w.alloc (.cells #[] 3) = wr) (fun _ _ _ => 0)
      case atStart => exact ⟨rfl, rfl, rfl⟩
      case round =>
        obtain ⟨rfl, rfl, rfl⟩ := hrel
        go_wp2_with (fail)
        (go_at_call 54; refine (sMelodyValid_any _ _ _ xs _ H1.out).mono ?_; rintro e w1 ⟨rfl, hb1⟩)
        have HF := Lib.hid (HE.out w1 _ (tbelow HO.out hb1) (bl_step HB.out hb1))
        clear hb1
        go_wp2
        go_ret
        exact HF.out
  rw [Bool.not_eq_false] at hv
  have hsx : stepsOf xs = difs stp xs (xs.length - 1) := by unfold stepsOf; rw [mvl_yes hv]
  have hmx : xs.length ≤ 24 := by have := mvl_len xs; rwa [mvl_yes hv] at this
  have hav : allv xs = true := by have := mvl_allv xs; rwa [mvl_yes hv] at this
  have HK : Hid (∀ (wr : World) (v : Value) (k : Nat), k = xs.length - 1 → wr.ownsRow w.heap.size 3 1 v k ((difs stp xs k).map (Value.int .i64)) → Below w.heap.size w wr → IBuilt w (stepsOf xs) (.returned v) wr) := by
    rintro wr v k rfl ho hb
    refine HE.out wr v ?_ hb
    rw [hsl, mvl_yes hv, hsx]
    exact ho
  have HO := Lib.hid hown0
  have HB := Lib.hid hb0
  have HT := Lib.hid h
  have HC := Lib.hid hc
  have HA := Lib.hid hav
  clear h h1 hown0 hb0 hsl hc HE hsx hav
  go_enter Try.func59, Try.ntmps59
  go_wp2
  go_loopw [3, 4] (fun v i wr => ∃ k : Nat, k ≤ xs.length - 1 ∧ i = .int .i64 ((k : Int) + 1) ∧ wr.ownsRow w.heap.size 3 1 v k ((difs stp xs k).map (Value.int .i64)) ∧ Below w.heap.size w wr) (fun _ i _ => xs.length - (intOf i).toNat)
  case atStart => exact ⟨0, Nat.zero_le _, rfl, HO.out, HB.out⟩
  case round =>
    obtain ⟨k, hk, rfl, hown, hb⟩ := hrel
    by_cases hlt : k + 1 < xs.length
    · have ht0 : xs[k]? = some xs[k] := List.getElem?_eq_getElem (by omega)
      have ht1 : xs[k + 1]? = some xs[k + 1] := List.getElem?_eq_getElem hlt
      have HX : Hid (difs stp xs (k + 1) = difs stp xs k ++ [xs[k + 1].1 - xs[k].1]) := difs_stp HA.out ht0 ht1
      obtain ⟨a0, _⟩ := HC.out _ _ ht0
      obtain ⟨a1, _⟩ := HC.out _ _ ht1
      have b0 := vd_in (allv_at HA.out ht0)
      have b1 := vd_in (allv_at HA.out ht1)
      clear ht0 ht1
      generalize xs[k].1 = s0 at HX a0 b0
      generalize xs[k + 1].1 = s1 at HX a1 b1
      have e0 := (hb.cell (p := ⟨g, k * 2, none⟩) hgs).trans a0
      have e1 := (hb.cell (p := ⟨g, (k + 1) * 2, none⟩) hgs).trans a1
      have hk0 : (0 : Int) ≤ (k : Int) := by omega
      have hk1 : (k : Int) + 1 < (xs.length : Int) := by omega
      have hT := HT.out.below hb (.inr (Nat.le_refl _))
      clear a0 a1
      go_wp2_with (fail)
      (go_at_call 54; refine (sMelodyValid_any _ _ _ xs _ hT).mono ?_; rintro e w1 ⟨rfl, hb1⟩)
      have hgs1 : g < wr.heap.size := Nat.lt_of_lt_of_le hgs hb.size
      have d0 := (hb1.cell (p := ⟨g, k * 2, none⟩) hgs1).trans e0
      have d1 := (hb1.cell (p := ⟨g, (k + 1) * 2, none⟩) hgs1).trans e1
      have hown1 := tbelow hown hb1
      have hbw := bl_step hb hb1
      clear e0 e1 hown hb hT
      go_wp2
      have s1w : IntKind.i64.wrap ((k : Int) + 1 - 1) = (k : Int) := by rw [show (k : Int) + 1 - 1 = (k : Int) by omega]; exact IntWalk.i64_in _ (by omega)
      have s2w : IntKind.i64.wrap (s1 - s0) = s1 - s0 := IntWalk.i64_in _ (by omega)
      have s3w : ((k : Int) + 1).toNat = k + 1 := by omega
      have s4w : IntKind.i64.wrap (k : Int) = (k : Int) := IntWalk.i64_in _ (by omega)
      have hk2 : (0 : Int) ≤ (k : Int) + 1 := by omega
      have hk3 : (k : Int) < (xs.length : Int) := by omega
      have hgs2 : g < w1.heap.size := Nat.lt_of_lt_of_le hgs1 hb1.size
      have ag : u3.ownBlock ≠ some g := fun e => by have := (hown1.lt g e).1; omega
      go_region_held3 (fun wx => wx.cell? ⟨g, k * 2, none⟩ = some (.int .i64 s0) ∧ wx.cell? ⟨g, (k + 1) * 2, none⟩ = some (.int .i64 s1))
        (first
          | go_keep
          | (go_split_ands
             refine ⟨?_, ?_⟩
             · (rw [hgrow.cell_far _ (by simp; omega) (Ne.symm ag)]; assumption)
             · (rw [hgrow.cell_far _ (by simp; omega) (Ne.symm ag)]; assumption)))
        ((refine step_append_lies _ (by rfl) _ _ _ (by rfl) w.heap.size 3 i0 _ 1 8 Try.underlying23 hi hq0 hq1 hq2 rfl (by omega) u3 k _ (by rfl) ((hown1.alloc _).drew) ⟨w1.heap.size, 0, none⟩ 1 1 [.int .i64 (s1 - s0)] (by rfl) (by rfl) (World.news_of_block (cs := #[.int .i64 (s1 - s0)]) (t := 3) (fr := (0, 0)) (heap_alloc_new w1 _)) (by simp [Value.oneCell']) (by omega) (by unfold maxLen; omega) (by omega) (by have := hbw.size; simp; omega) (w1.heap.size + 1) (by simp) ?_; intro gg cap2 w2 hown2 hgrow hat hlt2))
      have HD : Hid (w2.ownsRow w.heap.size 3 1 (.slice (some ⟨gg, 0, none⟩) (k + 1) cap2) (k + 1) ((difs stp xs (k + 1)).map (Value.int .i64))) := by rw [HX.out, List.map_append]; exact hown2
      have HB2 := Lib.hid ((hbw.drew.alloc hbw.size (.cells #[.int .i64 (s1 - s0)] 3)).grown hgrow (by have := hbw.size; simp; omega) (fun k hk => (hown1.lt k hk).1))
      clear hown2 hgrow hown1 hbw d0 d1 hat hlt2
      go_wp2
      go_roundw
      case rel => exact ⟨k + 1, by omega, by go_num, HD.out, HB2.out⟩
      case measure => simp [intOf]; omega
    · have HF := Lib.hid (HK.out wr _ k (by omega) hown hb)
      have hk1 : (xs.length : Int) ≤ (k : Int) + 1 := by omega
      clear hown
      go_wp2
      go_ret
      exact HF.out
end Go.Proofs.Ytjhigjbfnemdjaa
