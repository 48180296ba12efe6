/-
  The draw of a melody and a mode that it is often in.
-/
import Derived.Test.YtmipkodgkldmbaaDoorDrawMd
namespace Go.Proofs.YtmipkodgkldmbaaDoor
open Go.RowKit
set_option maxRecDepth 100000
set_option linter.unusedVariables false

theorem IRow.flatb {w : World} {lo hi n : Nat} {v : Value} {xs : List Int} (h : IRow w lo hi v xs) (hn : xs.length = n) : ∃ a cap, v = .slice a n cap ∧ (0 < n → ∃ g, a = some ⟨g, 0, none⟩ ∧ g < w.heap.size ∧ ∀ i, i < n → w.cell? ⟨g, i, none⟩ = some (.int .i64 (xs.getD i 0))) := by
  rcases h.form with ⟨rfl, rfl⟩ | ⟨g, cap, cur, rfl, _, _, hg, _, _, _, _, _, hc, _⟩
  · subst hn; exact ⟨none, 0, rfl, fun h => by simp at h⟩
  · subst hn; exact ⟨_, cap, rfl, fun _ => ⟨g, rfl, hg, hc⟩⟩

def DrewMi (w : World) (e : Ending) (w' : World) : Prop :=
  ∃ v xs k, e = .returned (.tuple #[v, .int .i64 k]) ∧ TRow w' w.heap.size w'.heap.size v xs ∧ xs.length ≤ 8 ∧ Below w.heap.size w w'

set_option maxHeartbeats 4000000 in
theorem drawModeIn_any (a : Option Addr) (n cap : Nat) (w : World) (h : CodeAt w a n) (hc : n ≤ cap) (hcap : cap ≤ maxLen) :
    Calls Tryd.prog 22 #[.slice a n cap] w (DrewMi w) := by
  go_enter Tryd.func22, Tryd.ntmps22
  go_wp2_with (fail)
  (go_at_call 48; refine (open_any a n cap _ h hc hcap).mono ?_; rintro e w1 ⟨A, rfl, hr1, hb1, hs1⟩)
  have hB1 := hr1.lt
  have hA1 := hr1.ltA
  go_wp2_with (fail)
  (go_at_call 51; refine (l92Chant_any w.heap.size A 0 (by omega) _ hr1).mono ?_; rintro e w2 ⟨v, xs, rfl, hI, hl⟩)
  have z2 : w.heap.size < w2.heap.size := Nat.lt_of_lt_of_le hB1 hI.gb.size
  have ht2 : TRow w2 w.heap.size w2.heap.size v xs := ⟨tmono hI.own hb1.size, fun g hg => (hI.own.lt g hg).2⟩
  have hlen := allM_len xs 8
  go_wp2_with (fail)
  (go_at_call 27; refine (sModeAll_any _ _ v xs _ ht2).mono ?_; rintro e w3 ⟨u, rfl, hu, hb3⟩)
  have hI3 : DmInv w1 w3 w.heap.size A (0 + 20) v xs := ⟨(TRow.below (lo := w1.heap.size) (hi := w2.heap.size) ⟨hI.own, fun g hg => (hI.own.lt g hg).2⟩ hb3 (.inl (Nat.le_refl _))).1, hI.rd.below hb3, gb_bl hI.gb hb3⟩
  generalize allM xs 8 = ys at hu hlen
  obtain ⟨L, hL⟩ : ∃ L, ys.length = L := ⟨_, rfl⟩
  obtain ⟨aU, cU, rfl, fU⟩ := hu.flatb hL
  have zu := hb3.size
  have hulo : ∀ g, aU = some ⟨g, 0, none⟩ → w2.heap.size ≤ g := fun g hg => (hu.1.lt g (by rw [hg]; rfl)).1
  clear hI ht2 hu
  have KM : Hid (∀ (w9 : World) (q : Nat) (k : Int), DmInv w1 w9 w.heap.size A q v xs → DrewMi w (.returned (.tuple #[v, .int .i64 k])) w9) := fun w9 q k h9 =>
    ⟨v, xs, k, rfl, ⟨tmono h9.own hb1.size, fun g hg => (h9.own.lt g hg).2⟩, hl, below_gb hb1 h9.gb (Nat.le_refl _)⟩
  by_cases hL0 : L = 0
  · subst hL0
    clear fU
    go_wp2_with (fail)
    (go_at_call 47; refine (l92Mode_any w.heap.size A (0 + 20) (by omega) _ hI3.rd).mono ?_; rintro e w4 ⟨k, rfl, h0, h9, hr4, hb4⟩)
    have HE := Lib.hid (KM.out _ _ k (hI3.pick hr4 hb4 hB1))
    clear hr4 hb4 hI3
    go_wp2
    go_ret2
    exact HE.out
  have hLp : (0 : Int) < (L : Int) := by omega
  obtain ⟨gU, rfl, sU, eU⟩ := fU (by omega)
  have hgU := hulo gU rfl
  go_wp2_with (fail)
  (go_at_call 52; refine (pick_any 2 w.heap.size A (0 + 20) (by omega) (by omega) (by omega) _ hI3.rd).mono ?_; rintro e w4 ⟨k4, rfl, h40, h41, hr4, hb4⟩)
  have hI4 := hI3.pick hr4 hb4 hB1
  clear hr4 hI3
  by_cases g4 : k4 = 0
  · subst g4
    have hI4d := hI4.drew
    have hrd := hI4d.rd
    have sU4 : gU < w4.heap.size := Nat.lt_of_lt_of_le sU hb4.size
    have EU4 := Lib.hid (fun i (hi : i < L) => ((World.cell?_of_block (w := w3) (a := ⟨gU, i, none⟩) (hb4.block gU sU (fun e => by injection e with e; omega))).trans (eU i hi) : w4.cell? ⟨gU, i, none⟩ = some (.int .i64 (ys.getD i 0))))
    have HI4 := Lib.hid hI4d
    clear hI4 hI4d eU
    go_wp2
    go_region_with (go_at_call 52; refine (pick_any (L : Int) w.heap.size A (0 + 20 + 1) (by omega) (by omega) (by omega) _ hrd).mono ?_; rintro e w5 ⟨k5, rfl, h50, h51, hr5, hb5⟩; have e5 : w5.cell? ⟨gU, k5.toNat, none⟩ = some (.int .i64 (ys.getD k5.toNat 0)) := (World.cell?_of_block (w := w4.drew) (a := ⟨gU, k5.toNat, none⟩) (hb5.block gU sU4 (fun e => by injection e with e; omega))).trans (EU4.out _ (by omega)); obtain ⟨z, hz⟩ : ∃ z, ys.getD k5.toNat 0 = z := ⟨_, rfl⟩; rw [hz] at e5; clear hz)
    all_goals
      have HE := Lib.hid (KM.out _ _ z (HI4.out.pick hr5 hb5 hB1))
      clear hr5 hb5
      go_wp2
      go_ret2
      exact HE.out
  · have e4 : (k4 == 0) = false := by simpa using g4
    clear g4
    go_wp2_with (fail)
    (go_at_call 47; refine (l92Mode_any w.heap.size A (0 + 20 + 1) (by omega) _ hI4.rd).mono ?_; rintro e w5 ⟨k, rfl, h0, h9, hr5, hb5⟩)
    have HE := Lib.hid (KM.out _ _ k (hI4.pick hr5 hb5 hB1))
    clear hr5 hb5 hI4
    go_wp2
    go_ret2
    exact HE.out
end Go.Proofs.YtmipkodgkldmbaaDoor
