/-
  A pick of the reader lies in its range, whatever the code's bytes are.
-/
import Derived.Test.YtcmcdomfmmjogaaRd
import Derived.IntWalk
namespace Go.Proofs.Ytcmcdomfmmjogaa
open Go.RowKit
set_option maxRecDepth 100000
set_option linter.unusedVariables false

/-- the exclusive or of two numbers that are not negative is not negative -/
theorem xor_nn (a b : Int) (ha : 0 ≤ a) (ha1 : a < 4611686018427387904) (hb : 0 ≤ b) (hb1 : b < 4611686018427387904) : 0 ≤ bits .xor .i64 a b := by
  obtain ⟨m, rfl⟩ := Int.eq_ofNat_of_zero_le ha
  obtain ⟨n, rfl⟩ := Int.eq_ofNat_of_zero_le hb
  have e : ∀ k : Nat, k < 4611686018427387904 → (BitVec.ofInt 64 (k : Int)).toNat = k := fun k hk => by
    rw [BitVec.ofInt_natCast, BitVec.toNat_ofNat]; exact Nat.mod_eq_of_lt (by omega)
  have hx : m ^^^ n < 2 ^ 62 := Nat.xor_lt_two_pow (by omega) (by omega)
  show 0 ≤ IntKind.i64.wrap ((BitVec.ofInt 64 (m : Int) ^^^ BitVec.ofInt 64 (n : Int)).toNat : Int)
  rw [BitVec.toNat_xor, e m (by omega), e n (by omega), IntWalk.i64_in _ (by omega)]
  omega

theorem picked {n : Int} {B A q p nq : Nat} {w : World} (h : RdAt w B A p) (hp : p ≤ q) {k : Int} (h0 : 0 ≤ k) (h1 : k < n) : Picked n B A q w (.returned (.int .i64 k)) ((w.setCell ⟨B, 1, none⟩ (.int .i64 ((p : Int) + 1))).drewN nq) :=
  ⟨k, rfl, h0, h1, ⟨p + 1, by omega, (h.set_ nq).1⟩, (h.set_ nq).2⟩

set_option maxHeartbeats 1000000 in
theorem pick_any (n : Int) (B A q : Nat) (hn : 1 ≤ n) (hn2 : n ≤ 1000000) (hq : q ≤ 1000000) (w : World) (h : Rd w B A q) :
    Calls Try.prog 63 #[.pointer (some ⟨B, 0, none⟩), .int .i64 n] w (Picked n B A q w) := by
  obtain ⟨p, hp, h⟩ := h
  obtain ⟨a, m, cap, c0, c1, f1, hm, hby⟩ := h.cells
  have HP : ∀ nq (k : Int), 0 ≤ k → k < n → Picked n B A q w (.returned (.int .i64 k)) ((w.setCell ⟨B, 1, none⟩ (.int .i64 ((p : Int) + 1))).drewN nq) := fun nq k h0 h1 => picked h hp h0 h1
  rcases hby with rfl | ⟨off, rfl, hne, hc⟩
  · go_enter Try.func63, Try.ntmps63
    go_wp2
    go_ret
    exact HP 0 0 (by omega) (by omega)
  by_cases hm0 : m = 0
  · subst hm0
    go_enter Try.func63, Try.ntmps63
    go_wp2
    go_ret
    exact HP 0 0 (by omega) (by omega)
  have em : ((m : Int) == 0) = false := by simp; omega
  have en : decide (n < 1) = false := by simp; omega
  by_cases hpm : p < m
  · obtain ⟨z, hz0, hz1, hz⟩ := hc p hpm
    have hz' : (w.setCell ⟨B, 1, none⟩ (.int .i64 ((p : Int) + 1))).cell? ⟨A, off + p, none⟩ = some (.int .u8 z) := by
      rw [World.cell?_setCell_other _ _ _ _ (fun e => hne (by injection e with e; exact e.symm))]; exact hz
    go_enter Try.func63, Try.ntmps63
    go_wp2
    go_ret
    exact HP 0 _ (Int.emod_nonneg _ (by omega)) (Int.emod_lt_of_pos _ (by omega))
  obtain ⟨i, hi, him⟩ : ∃ i : Nat, (p : Int).tmod (m : Int) = (i : Int) ∧ i < m := ⟨p % m, by rw [Int.tmod_eq_emod_of_nonneg (by omega)]; rfl, Nat.mod_lt _ (by omega)⟩
  obtain ⟨j, hj, hjm⟩ : ∃ j : Nat, ((p : Int) * 7 + 3).tmod (m : Int) = (j : Int) ∧ j < m := ⟨(p * 7 + 3) % m, by rw [Int.tmod_eq_emod_of_nonneg (by omega)]; rfl, Nat.mod_lt _ (by omega)⟩
  obtain ⟨d, hd, hdp⟩ : ∃ d : Nat, (p : Int).tdiv (m : Int) = (d : Int) ∧ d ≤ p := ⟨p / m, by rw [Int.tdiv_eq_ediv_of_nonneg (by omega)]; rfl, Nat.div_le_self _ _⟩
  obtain ⟨z, hz0, hz1, hz⟩ := hc i him
  obtain ⟨y, hy0, hy1, hy⟩ := hc j hjm
  have hz' : (w.setCell ⟨B, 1, none⟩ (.int .i64 ((p : Int) + 1))).cell? ⟨A, off + i, none⟩ = some (.int .u8 z) := by
    rw [World.cell?_setCell_other _ _ _ _ (fun e => hne (by injection e with e; exact e.symm))]; exact hz
  have hy' : (w.setCell ⟨B, 1, none⟩ (.int .i64 ((p : Int) + 1))).cell? ⟨A, off + j, none⟩ = some (.int .u8 y) := by
    rw [World.cell?_setCell_other _ _ _ _ (fun e => hne (by injection e with e; exact e.symm))]; exact hy
  have b0 : (0 : Int) ≤ (i : Int) := by omega
  have b1 : (i : Int) < (m : Int) := by omega
  have b2 : (0 : Int) ≤ (j : Int) := by omega
  have b3 : (j : Int) < (m : Int) := by omega
  have s1 : IntKind.i64.wrap z = z := IntWalk.i64_in _ (by omega)
  have s2 : IntKind.i64.wrap y = y := IntWalk.i64_in _ (by omega)
  have s3 : IntKind.i64.wrap (z * 131) = z * 131 := IntWalk.i64_in _ (by omega)
  have s4 : IntKind.i64.wrap (y * 1117) = y * 1117 := IntWalk.i64_in _ (by omega)
  have s5 : IntKind.i64.wrap ((p : Int) * 7) = (p : Int) * 7 := IntWalk.i64_in _ (by omega)
  have s6 : IntKind.i64.wrap ((p : Int) * 7 + 3) = (p : Int) * 7 + 3 := IntWalk.i64_in _ (by omega)
  have s7 : IntKind.i64.wrap (z * 131 + y * 1117) = z * 131 + y * 1117 := IntWalk.i64_in _ (by omega)
  have s8 : IntKind.i64.wrap ((p : Int) * 29) = (p : Int) * 29 := IntWalk.i64_in _ (by omega)
  have s9 : IntKind.i64.wrap (z * 131 + y * 1117 + (p : Int) * 29) = z * 131 + y * 1117 + (p : Int) * 29 := IntWalk.i64_in _ (by omega)
  have s10 : IntKind.i64.wrap (d : Int) = (d : Int) := IntWalk.i64_in _ (by omega)
  have s11 : IntKind.i64.wrap ((d : Int) * 53) = (d : Int) * 53 := IntWalk.i64_in _ (by omega)
  have s12 : IntKind.i64.wrap (z * 131 + y * 1117 + (p : Int) * 29 + (d : Int) * 53) = z * 131 + y * 1117 + (p : Int) * 29 + (d : Int) * 53 := IntWalk.i64_in _ (by omega)
  clear hc hz hy
  go_enter Try.func63, Try.ntmps63
  go_wp2
  go_quiet (fail)
  go_wp2
  go_ret
  have hx := xor_nn (z * 131 + y * 1117 + (p : Int) * 29 + (d : Int) * 53) ((z * 131 + y * 1117 + (p : Int) * 29 + (d : Int) * 53) / 64) (by omega) (by omega) (by omega) (by omega)
  exact HP nq _ (Int.tmod_nonneg _ hx) (Int.tmod_lt_of_pos _ (by omega))
end Go.Proofs.Ytcmcdomfmmjogaa
