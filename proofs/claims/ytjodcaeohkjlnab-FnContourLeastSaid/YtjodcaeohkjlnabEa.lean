/-
  The program's next row of numbers: how many lists end at each step, of those with one way more.
-/
import Derived.Test.YtjodcaeohkjlnabCn

namespace Go.Proofs.Ytjodcaeohkjlnab
open Go.RowKit
set_option maxRecDepth 100000
set_option linter.unusedVariables false

theorem wayOf_nat (a b : Nat) (w : World) : Calls Try.prog 88 #[.int .i64 (a : Int), .int .i64 (b : Int)] w fun e w' => e = .returned (.int .u8 ((wy a b).toNat : Int)) ∧ w = w' := by
  by_cases h : a < b
  · rw [wy_lit.1 h]
    have h1 : (a : Int) < (b : Int) := by omega
    go_enter Try.func88, Try.ntmps88
    go_wp2
    go_ret
    exact ⟨rfl, rfl⟩
  have h1 : decide ((a : Int) < (b : Int)) = false := by simp; omega
  by_cases k : b < a
  · rw [wy_lit.2.1 k]
    have h2 : (b : Int) < (a : Int) := by omega
    go_enter Try.func88, Try.ntmps88
    go_wp2
    go_ret
    exact ⟨rfl, rfl⟩
  · rw [wy_lit.2.2 (by omega)]
    have h2 : decide ((b : Int) < (a : Int)) = false := by simp; omega
    go_enter Try.func88, Try.ntmps88
    go_wp2
    go_ret
    exact ⟨rfl, rfl⟩

def EaBuilt (w : World) (N : Nat) (f : Nat → Int) (e : Ending) (w' : World) : Prop :=
  ∃ B, e = .returned (.slice (some ⟨B, 0, none⟩) N N) ∧ FR w' B N N f ∧ w.heap.size ≤ B ∧ Below w.heap.size w w'

set_option maxHeartbeats 8000000 in
theorem endingAfter_fr (B c m : Nat) (l : List UInt8) (way : UInt8) (hm : m ≤ 20) (hl : l.length ≤ 7) (w : World) (h : FR w B (m + 1) c (cfin m l cone)) :
    Calls Try.prog 65 #[.slice (some ⟨B, 0, none⟩) (m + 1) c, .int .u8 (way.toNat : Int)] w (EaBuilt w (m + 1) (cfin m (l ++ [way]) cone)) := by
  obtain ⟨i0, hi, hq0, hq1, hq2⟩ := info_parts infoIntN
  have HF := Lib.hid h
  have hBw := h.lt
  have HBD : Hid (∀ b a, a ≤ 21 → 0 ≤ cpart way (cfin m l cone) b a ∧ cpart way (cfin m l cone) b a ≤ 794280046581) := fun b a ha => ea_bd hm (by omega) way b a ha
  have HED : Hid (∀ a, 0 ≤ cfin m l cone a ∧ cfin m l cone a ≤ 37822859361) := fun a => cfin_one_bd hm (by omega) a
  have HDN : Hid (∀ (wr : World) B', FR wr B' (m + 1) (m + 1) (eaf way (cfin m l cone) (m + 1) 0) → FR wr B' (m + 1) (m + 1) (cfin m (l ++ [way]) cone)) := fun wr B' h => ea_done h
  generalize cfin m (l ++ [way]) cone = G at HDN
  generalize cfin m l cone = E at HF HBD HED HDN
  clear h
  obtain ⟨N, hN⟩ : ∃ N, m + 1 = N := ⟨_, rfl⟩
  rw [hN] at HF HDN ⊢
  have hN9 : N ≤ 21 := by omega
  clear hN hm hl
  go_enter Try.func65, Try.ntmps65
  go_wp2_with (at_make; refine wpList_make_full _ rfl _ _ 30 rfl w.heap.size 3 i0 (.int .i64 0) 1 Try.underlying30 hi hq0 hq1 _ _ _ _ N rfl rfl rfl rfl ?c1 ?c2 ?c3 ?_)
  case c1 => rw [hq2]; omega
  case c2 => unfold maxLen; omega
  case c3 => exact Nat.le_refl _
  intro w2 hown hg2
  have hf0 := FR.made hown
  have hb2 : Below w.heap.size w w2 := ⟨hg2.os, hg2.tape, hg2.output, hg2.size, fun i hi => hg2.block i hi (fun e => by cases e)⟩
  have HI0 : Hid (FR w2 w.heap.size N N (eaf way E 0 0) ∧ Below w.heap.size w w2) := ⟨ea_start way E hf0, hb2⟩
  clear hown hg2 hf0 hb2
  go_wp2
  go_loopw [14] (fun i wr => ∃ a : Nat, a ≤ N ∧ i = .int .i64 a ∧ Hid (FR wr w.heap.size N N (eaf way E a 0) ∧ Below w.heap.size w wr)) (fun i _ => N - (intOf i).toNat)
  case atStart => exact ⟨0, Nat.zero_le _, rfl, HI0.out⟩
  case round =>
    obtain ⟨a, ha, rfl, HK⟩ := hrel
    clear HI0
    by_cases hlt : a < N
    · have e0 := (HK.out.2.cell (p := ⟨B, a, none⟩) hBw).trans (HF.out.cell hlt)
      have a0 : (0 : Int) ≤ (a : Int) := by omega
      have a1 : (a : Int) < (N : Int) := by omega
      have x0 := HED.out a
      generalize hx : E a = x at e0 x0
      have HX := Lib.hid hx
      clear hx
      go_wp2
      go_loopw [21] (fun i wr' => ∃ b : Nat, b ≤ N ∧ i = .int .i64 b ∧ Hid (FR wr' w.heap.size N N (eaf way E a b) ∧ Below w.heap.size w wr')) (fun i _ => N - (intOf i).toNat)
      case atStart => exact ⟨0, Nat.zero_le _, rfl, HK.out⟩
      case round =>
        obtain ⟨b, hb, rfl, HQ⟩ := hrel
        by_cases hlb : b < N
        · have b0 : (0 : Int) ≤ (b : Int) := by omega
          have b1 : (b : Int) < (N : Int) := by omega
          by_cases hw : wy a b = way
          · have t1 : (((wy a b).toNat : Int) == (way.toNat : Int)) = true := by rw [hw]; simp
            have c0 := HQ.out.1.cell hlb
            rw [eaf_at] at c0
            have cf := HQ.out.1.free
            have y0 := HBD.out b a (by omega)
            have HS : Hid (FR (wr.setCell ⟨w.heap.size, b, none⟩ (.int .i64 (cpart way E b a + E a))) w.heap.size N N (eaf way E a (b + 1)) ∧ Below w.heap.size w (wr.setCell ⟨w.heap.size, b, none⟩ (.int .i64 (cpart way E b a + E a)))) := ⟨ea_hit HQ.out.1 hlb hw, HQ.out.2.setCell (Nat.le_refl _) _⟩
            rw [HX.out] at HS
            generalize cpart way E b a = y at c0 y0 HS
            have s1 : IntKind.i64.wrap (y + x) = y + x := IntWalk.i64_in _ (by omega)
            clear hw
            go_wp2_with (fail)
            (go_at_call 88; refine (wayOf_nat a b _).mono ?_; rintro e wx ⟨rfl, rfl⟩)
            go_wp2
            go_roundw
            case rel => exact ⟨b + 1, by omega, by go_num, HS.out⟩
            case measure => simp [intOf]; omega
          · have t1 : (((wy a b).toNat : Int) == (way.toNat : Int)) = false := by
              rw [beq_eq_false_iff_ne]
              intro e
              exact hw (UInt8.toNat_inj.1 (by omega))
            have HS : Hid (FR wr w.heap.size N N (eaf way E a (b + 1)) ∧ Below w.heap.size w wr) := ⟨ea_miss HQ.out.1 hw, HQ.out.2⟩
            clear hw
            go_wp2_with (fail)
            (go_at_call 88; refine (wayOf_nat a b _).mono ?_; rintro e wx ⟨rfl, rfl⟩)
            go_wp2
            go_roundw
            case rel => exact ⟨b + 1, by omega, by go_num, HS.out⟩
            case measure => simp [intOf]; omega
        · have hbe : b = N := by omega
          subst hbe
          have HS : Hid (FR wr w.heap.size b b (eaf way E (a + 1) 0) ∧ Below w.heap.size w wr) := ⟨ea_row HQ.out.1, HQ.out.2⟩
          go_wp2
          go_roundw
          case rel => exact ⟨a + 1, by omega, by go_num, HS.out⟩
          case measure => simp [intOf]; omega
    · have hae : a = N := by omega
      subst hae
      have HE : Hid (EaBuilt w a G (.returned (.slice (some ⟨w.heap.size, 0, none⟩) a a)) wr) := ⟨_, rfl, HDN.out _ _ HK.out.1, Nat.le_refl _, HK.out.2⟩
      go_wp2
      go_ret
      exact HE.out
theorem endingAfter_N {N m : Nat} (hN : m + 1 = N) (hm : m ≤ 20) (B : Nat) (l : List UInt8) (way : UInt8) (hl : l.length ≤ 7) (W : World) (h : FR W B N N (cfin m l cone)) :
    Calls Try.prog 65 #[.slice (some ⟨B, 0, none⟩) N N, .int .u8 (way.toNat : Int)] W (EaBuilt W N (cfin m (l ++ [way]) cone)) := by
  subst hN
  exact endingAfter_fr B (m + 1) m l way hm hl W h
end Go.Proofs.Ytjodcaeohkjlnab
