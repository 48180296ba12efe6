/-
  The draws of tones and hexachords return: the code may be any bytes.
-/
import Derived.Test.YtcmcdomfmmjogaaPick
import Derived.Test.YtcmcdomfmmjogaaTones
import Derived.Deep.RegionHeld3
import Derived.Deep.RegionWith
namespace Go.Proofs.Ytcmcdomfmmjogaa
open Go.RowKit
set_option maxRecDepth 100000
set_option linter.unusedVariables false

/-- a []byte that came in -/
def CodeAt (w : World) (a : Option Addr) (n : Nat) : Prop :=
  n = 0 ∨ ∃ A off, a = some ⟨A, off, none⟩ ∧ A < w.heap.size ∧ ∀ i, i < n → ∃ z : Int, 0 ≤ z ∧ z ≤ 255 ∧ w.cell? ⟨A, off + i, none⟩ = some (.int .u8 z)

/-- what opening gives: a reader in the new block -/
def Opened (w : World) (e : Ending) (w' : World) : Prop :=
  ∃ A, e = .returned (.pointer (some ⟨w.heap.size, 0, none⟩)) ∧ Rd w' w.heap.size A 0 ∧ Below w.heap.size w w' ∧ w.heap.size < w'.heap.size

theorem opened {w : World} {a : Option Addr} {n m cap : Nat} (h : CodeAt w a n) (hm : m ≤ n) (hl : m ≤ 2000) :
    Opened w (.returned (.pointer (some ⟨w.heap.size, 0, none⟩))) (w.alloc (.cells #[.slice a m cap, .int .i64 0] 95)) := by
  have hh : (w.alloc (.cells #[.slice a m cap, .int .i64 0] 95)).heap[w.heap.size]? = some (.cells #[.slice a m cap, .int .i64 ((0 : Nat) : Int)] 95 (0, 0)) := heap_alloc_new w _
  have hb : Below w.heap.size w (w.alloc (.cells #[.slice a m cap, .int .i64 0] 95)) := (Below.refl _ _).alloc (Nat.le_refl _) _
  rcases h with rfl | ⟨A, off, rfl, hA, hc⟩
  · exact ⟨w.heap.size, rfl, ⟨0, Nat.le_refl _, _, _, _, hh, hl, by simp, .inl (by omega)⟩, hb, by simp⟩
  · refine ⟨A, rfl, ⟨0, Nat.le_refl _, _, _, _, hh, hl, by simp; omega, .inr ⟨off, rfl, by omega, fun i hi => ?_⟩⟩, hb, by simp⟩
    obtain ⟨z, h0, h1, hz⟩ := hc i (by omega)
    exact ⟨z, h0, h1, (hb.cell (p := ⟨A, off + i, none⟩) hA).trans hz⟩

theorem open_any (a : Option Addr) (n cap : Nat) (w : World) (h : CodeAt w a n) (hc : n ≤ cap) (hcap : cap ≤ maxLen) :
    Calls Try.prog 47 #[.slice a n cap] w (Opened w) := by
  unfold maxLen at hcap
  have H : ∀ m c, m ≤ n → m ≤ 2000 → Opened w (.returned (.pointer (some ⟨w.heap.size, 0, none⟩))) (w.alloc (.cells #[.slice a m c, .int .i64 0] 95)) := fun m c h1 h2 => opened h h1 h2
  by_cases hn : n ≤ 2000
  · have g : decide ((2000 : Int) < (n : Int)) = false := by simp; omega
    go_enter Try.func47, Try.ntmps47
    go_wp2
    go_ret
    exact H n cap (Nat.le_refl _) hn
  · have g : (2000 : Int) < (n : Int) := by omega
    have g2 : (2000 : Int) ≤ (cap : Int) := by omega
    go_enter Try.func47, Try.ntmps47
    go_wp2
    go_ret
    exact H 2000 cap (by omega) (Nat.le_refl _)

/-- a tone that was drawn: its step lies near the gamut -/
def TonePicked (B A q : Nat) (w : World) (e : Ending) (w' : World) : Prop :=
  ∃ (s : Int) (b : Bool), e = .returned (.agg #[.int .i64 s, .bool b]) ∧ -1 ≤ s ∧ s ≤ 21 ∧ Rd w' B A (q + 3) ∧ w.grownBy w' (some B)
end Go.Proofs.Ytcmcdomfmmjogaa
