/-
  The laws' comparison of equal lists of tones; the draw of MelodyBack's argument.
-/
import Derived.Test.YthnofdkkocpjhaaDoorDrawM
import Derived.Test.YthnofdkkocpjhaaDoorTL3
namespace Go.Proofs.YthnofdkkocpjhaaDoor
open Go.RowKit
set_option maxRecDepth 100000
set_option linter.unusedVariables false

theorem sameTones_yes (lo hi lo' hi' : Nat) (v u : Value) (xs : List (Int × Bool)) (w : World) (h : TRow w lo hi v xs) (k : TRow w lo' hi' u xs) :
    Calls Tryd.prog 8 #[v, u] w fun e w' => e = .returned (.bool true) ∧ Below w.heap.size w w' := by
  rcases h.form with ⟨rfl, rfl⟩ | ⟨g, cap, rfl, hg, hg2, hgs, hcap, hmax, hc⟩
  · rcases k.form with ⟨rfl, _⟩ | ⟨g', cap', rfl, _, _, _, _, _, _⟩
    all_goals
      go_enter Tryd.func8, Tryd.ntmps8
      go_wp2
      go_rounds 1
      go_ret
      exact ⟨rfl, Below.refl _ _⟩
  · rcases k.form with ⟨rfl, hx⟩ | ⟨g', cap', rfl, hg', hg2', hgs', hcap', hmax', hc'⟩
    · subst hx
      go_enter Tryd.func8, Tryd.ntmps8
      go_wp2
      go_rounds 1
      go_ret
      exact ⟨rfl, Below.refl _ _⟩
    · unfold maxLen at hmax hmax'
      have hlen : xs.length ≤ 9223372036854775807 := by omega
      have HG : Hid (∀ i, i < xs.length → ∃ s b, xs[i]? = some (s, b)) := fun i hi => ⟨xs[i].1, xs[i].2, List.getElem?_eq_getElem hi⟩
      clear h k
      generalize hn : xs.length = n at *
      clear hn
      have HC := Lib.hid hc
      have HC' := Lib.hid hc'
      clear hc hc'
      go_enter Tryd.func8, Tryd.ntmps8
      go_wp2
      go_loopw [5] (fun i wr => ∃ k : Nat, k ≤ n ∧ i = .int .i64 k ∧ Below w.heap.size w wr) (fun i _ => n - (intOf i).toNat)
      case atStart => exact ⟨0, Nat.zero_le _, rfl, Below.refl _ _⟩
      case round =>
        obtain ⟨k, hk, rfl, hb⟩ := hrel
        by_cases hlt : k < n
        · obtain ⟨s, b, hg0⟩ := HG.out k hlt
          have e1 : wr.cell? ⟨g, k * 2, none⟩ = some (.int .i64 s) := (hb.cell (p := ⟨g, k * 2, none⟩) hgs).trans (HC.out k _ hg0).1
          have e2 : wr.cell? ⟨g, k * 2 + 1, none⟩ = some (.bool b) := (hb.cell (p := ⟨g, k * 2 + 1, none⟩) hgs).trans (HC.out k _ hg0).2
          have e3 : wr.cell? ⟨g', k * 2, none⟩ = some (.int .i64 s) := (hb.cell (p := ⟨g', k * 2, none⟩) hgs').trans (HC'.out k _ hg0).1
          have e4 : wr.cell? ⟨g', k * 2 + 1, none⟩ = some (.bool b) := (hb.cell (p := ⟨g', k * 2 + 1, none⟩) hgs').trans (HC'.out k _ hg0).2
          have hk0 : (0 : Int) ≤ (k : Int) := by omega
          have hk1 : (k : Int) < (n : Int) := by omega
          clear hg0
          go_wp2
          go_quiet (fail)
          all_goals
            go_wp2
            go_roundw
            case rel => exact ⟨k + 1, by omega, by go_num, by first | exact hb | exact hb.drew | exact ⟨hb.os, hb.tape, hb.output, hb.size, hb.block⟩⟩
            case measure => simp [intOf]; omega
        · go_wp2
          go_ret
          exact ⟨rfl, hb⟩

def DrewMel (most : Nat) (w : World) (e : Ending) (w' : World) : Prop :=
  ∃ v xs, e = .returned v ∧ TRow w' w.heap.size w'.heap.size v xs ∧ xs.length ≤ most ∧ Below w.heap.size w w'
theorem drewMel {B A q most : Nat} {w w1 w2 : World} {v : Value} {xs : List (Int × Bool)} (h : DmInv w1 w2 B A q v xs) (hl : xs.length ≤ most) (hb : Below w.heap.size w w1) (hB : w.heap.size ≤ B) : DrewMel most w (.returned v) w2 :=
  ⟨v, xs, rfl, ⟨tmono h.own hb.size, fun g hg => (h.own.lt g hg).2⟩, hl, below_gb hb h.gb hB⟩
end Go.Proofs.YthnofdkkocpjhaaDoor
