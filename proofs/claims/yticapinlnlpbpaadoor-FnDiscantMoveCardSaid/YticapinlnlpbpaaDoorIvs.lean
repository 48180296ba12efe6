/-
  The interval of two tones in the model.
-/
import Derived.Test.YticapinlnlpbpaaDoorSemis
import Derived.Test.YticapinlnlpbpaaDoorTxt
import Derived.Test.YticapinlnlpbpaaDoorIvm
import Derived.Deep.QuietTactic
import Derived.BigQuiet
namespace Go.Proofs.YticapinlnlpbpaaDoor
open Go.RowKit
set_option maxRecDepth 100000
set_option linter.unusedVariables false

theorem hgm_hgt (s : Int) (b : Bool) : hgm s b = hgt s b := rfl
theorem lS_arr (i : Nat) (h : i < 7) : (#[.int .i64 0, .int .i64 1, .int .i64 3, .int .i64 5, .int .i64 7, .int .i64 8, .int .i64 10] : Array Value)[i]? = some (.int .i64 (lS i)) := by
  have : i = 0 ∨ i = 1 ∨ i = 2 ∨ i = 3 ∨ i = 4 ∨ i = 5 ∨ i = 6 := by omega
  rcases this with rfl | rfl | rfl | rfl | rfl | rfl | rfl <;> rfl
theorem lS_list (i : Nat) (h : i < 7) : ([.int .i64 0, .int .i64 1, .int .i64 3, .int .i64 5, .int .i64 7, .int .i64 8, .int .i64 10] : List Value)[i]? = some (.int .i64 (lS i)) := by
  have : i = 0 ∨ i = 1 ∨ i = 2 ∨ i = 3 ∨ i = 4 ∨ i = 5 ∨ i = 6 := by omega
  rcases this with rfl | rfl | rfl | rfl | rfl | rfl | rfl <;> rfl
theorem lS_get (i : Nat) (h : i < 7) (h' : i < ([.int .i64 0, .int .i64 1, .int .i64 3, .int .i64 5, .int .i64 7, .int .i64 8, .int .i64 10] : List Value).length) :
    ([.int .i64 0, .int .i64 1, .int .i64 3, .int .i64 5, .int .i64 7, .int .i64 8, .int .i64 10] : List Value)[i] = .int .i64 (lS i) := by
  have := lS_list i h
  rw [List.getElem?_eq_getElem h'] at this
  exact Option.some.inj this

/-- a number in decimals -/
def decS (k : Int) : ByteArray := ⟨(dec2 k.toNat).toArray⟩
theorem dig_u8 : ∀ d, d < 10 → (48 + d.toUInt8 : UInt8).toNat = 48 + d := by decide
theorem decS_one {d : Nat} (h : d < 10) : decS (d : Int) = ⟨#[48 + d.toUInt8]⟩ := by
  unfold decS dec2
  rw [if_pos (by omega)]
  simp
theorem decS_two {q r : Nat} (hq : 1 ≤ q) (hr : r < 10) : decS ((10 * q + r : Nat) : Int) = ⟨#[48 + q.toUInt8, 48 + r.toUInt8]⟩ := by
  have e0 : (((10 * q + r : Nat)) : Int).toNat = 10 * q + r := by omega
  unfold decS dec2
  rw [e0, if_neg (by omega)]
  have e1 : (10 * q + r) / 10 = q := by omega
  have e2 : (10 * q + r) % 10 = r := by omega
  simp [e1, e2]

set_option maxHeartbeats 1000000 in
theorem l6Dec_one (d : Nat) (h : d < 10) (w : World) :
    Calls Tryd.prog 96 #[.int .i64 (d : Int)] w fun e w' => e = .returned (.string ⟨#[48 + d.toUInt8]⟩) ∧ Below w.heap.size w w' := by
  have cc := conv_one (48 + d.toUInt8)
  rw [dig_u8 d h] at cc
  have k0 : ((48 + d : Nat) : Int) = 48 + (d : Int) := by omega
  rw [k0] at cc
  have s1 : IntKind.i64.wrap (48 + (d : Int)) = 48 + (d : Int) := IntWalk.i64_in _ (by omega)
  have s2 : IntKind.u8.wrap (48 + (d : Int)) = 48 + (d : Int) := IntWalk.u8_in _ (by omega)
  have g1 : (d : Int) < 10 := by omega
  have g0 : (0 : Int) ≤ (d : Int) := by omega
  clear k0 h
  generalize (48 + d.toUInt8) = c at cc
  go_enter Tryd.func96, Tryd.ntmps96
  go_wp2_with (fail)
  go_ret
  exact ⟨rfl, by (repeat' (first | (with_reducible exact Below.refl _ _) | (with_reducible refine Below.alloc ?_ ?_ _) | (with_reducible refine Below.drew ?_) | (with_reducible refine Below.setCell ?_ ?_ _) | (with_reducible refine bl_step ?_ (by assumption)) | go_size))⟩

theorem conv_at (c : UInt8) (z : Int) (hz : (c.toNat : Int) = z) (B : Nat) (W : World) (h : W.cell? ⟨B, 0, none⟩ = some (.int .u8 z)) :
    (convert 37 9 (.slice (some ⟨B, 0, none⟩) 1 1)).run Tryd.prog W = .ok (.string ⟨#[c]⟩) W :=
  run_convert_bytes_back (P := Tryd.prog) W 37 9 5 ⟨B, 0, none⟩ 1 [c] Tryd.underlying37 Tryd.underlying5 Tryd.underlying9 (fun j hj => by
    have : j = 0 := by simpa using hj
    subst this
    simpa [Addr.add, hz] using h)

set_option maxHeartbeats 2000000 in
theorem l6Dec_two (q r : Nat) (hq : 1 ≤ q) (hq9 : q < 10) (hr : r < 10) (w : World) :
    Calls Tryd.prog 96 #[.int .i64 (10 * (q : Int) + (r : Int))] w fun e w' => e = .returned (.string (⟨#[48 + q.toUInt8, 48 + r.toUInt8]⟩)) ∧ Below w.heap.size w w' := by
  have cc := conv_one (48 + r.toUInt8)
  rw [dig_u8 r hr] at cc
  have k0 : ((48 + r : Nat) : Int) = 48 + (r : Int) := by omega
  have HC : Hid (((48 + r.toUInt8 : UInt8).toNat : Int) = 48 + (r : Int)) := by show (((48 + r.toUInt8 : UInt8).toNat : Nat) : Int) = _; rw [dig_u8 r hr, k0]
  rw [k0] at cc
  have HD := Lib.hid (l6Dec_one q hq9)
  obtain ⟨n, hn⟩ : ∃ n : Int, 10 * (q : Int) + (r : Int) = n := ⟨_, rfl⟩
  have s1 : IntKind.i64.wrap (48 + (r : Int)) = 48 + (r : Int) := IntWalk.i64_in _ (by omega)
  have s2 : IntKind.u8.wrap (48 + (r : Int)) = 48 + (r : Int) := IntWalk.u8_in _ (by omega)
  have s3 : n.tdiv 10 = (q : Int) := by rw [Int.tdiv_eq_ediv_of_nonneg (by omega)]; omega
  have s4 : n.tmod 10 = (r : Int) := by rw [Int.tmod_eq_emod_of_nonneg (by omega)]; omega
  have s5 : IntKind.i64.wrap (q : Int) = (q : Int) := IntWalk.i64_in _ (by omega)
  have s6 : IntKind.i64.wrap (r : Int) = (r : Int) := IntWalk.i64_in _ (by omega)
  have s7 : n / 10 = (q : Int) := by omega
  have s8 : n % 10 = (r : Int) := by omega
  have g1 : ¬ (n < 10) := by omega
  have g0 : (0 : Int) ≤ n := by omega
  have hadd : ∀ W : World, (Op.stringOp .add ⟨#[48 + q.toUInt8]⟩ ⟨#[48 + r.toUInt8]⟩).run Tryd.prog W = .ok (.string ⟨#[48 + q.toUInt8, 48 + r.toUInt8]⟩) W := fun W =>
    run_string_add_sum W _ _ (by show 1 + 1 ≤ 9223372036854775807; omega)
  rw [hn]
  clear k0 hq hq9 hr hn
  generalize (48 + r.toUInt8) = c at cc hadd HC
  generalize (48 + q.toUInt8) = c2 at hadd HD
  have cc2 : (convert 37 9 (.slice (some ⟨w.heap.size, 0, none⟩) 1 1)).run Tryd.prog (w.alloc (.cells #[.int .u8 (48 + (r : Int))] 5)).drew = .ok (.string ⟨#[c]⟩) (w.alloc (.cells #[.int .u8 (48 + (r : Int))] 5)).drew := conv_at c _ HC.out w.heap.size _ (by go_simp)
  have cc3 : (convert 37 9 (.slice (some ⟨w.heap.size, 0, none⟩) 1 1)).run Tryd.prog (w.drew.alloc (.cells #[.int .u8 (48 + (r : Int))] 5)) = .ok (.string ⟨#[c]⟩) (w.drew.alloc (.cells #[.int .u8 (48 + (r : Int))] 5)) := conv_at c _ HC.out w.heap.size _ (by go_simp)
  go_enter Tryd.func96, Tryd.ntmps96
  go_wp2_with (fail)
  go_region_with (go_at_call 96; refine (HD.out _).mono ?_; rintro e w1 ⟨rfl, hb1⟩; (try (refine got (p := w1.cell? ⟨w.heap.size, 0, none⟩ = some (.int .u8 (48 + (r : Int)))) ?_ ?_; (focus (refine (hb1.cell (p := ⟨w.heap.size, 0, none⟩) ?_).trans ?_; (focus (go_size; done)); go_simp; done)); intro cz; have cc1 := conv_at c _ HC.out w.heap.size w1 cz)))
  all_goals go_wp2
  all_goals go_ret
  all_goals exact ⟨rfl, by ((repeat' (first | (with_reducible exact Below.refl _ _) | (with_reducible refine Below.alloc ?_ ?_ _) | (with_reducible refine Below.drew ?_) | (with_reducible refine Below.setCell ?_ ?_ _) | (with_reducible refine bl_step ?_ (by assumption)) | go_size)); all_goals (have := hb1.size; simp at this; omega))⟩

theorem l6DecN_any (n : Int) (h0 : 0 ≤ n) (h1 : n ≤ 99) (w : World) :
    Calls Tryd.prog 96 #[.int .i64 n] w fun e w' => e = .returned (.string (decS n)) ∧ Below w.heap.size w w' := by
  by_cases h : n < 10
  · obtain ⟨d, rfl⟩ : ∃ d : Nat, n = d := ⟨n.toNat, by omega⟩
    rw [decS_one (by omega)]
    exact l6Dec_one d (by omega) w
  · obtain ⟨q, r, rfl, hq, hq9, hr⟩ : ∃ q r : Nat, n = 10 * (q : Int) + (r : Int) ∧ 1 ≤ q ∧ q < 10 ∧ r < 10 := ⟨(n / 10).toNat, (n % 10).toNat, by omega, by omega, by omega, by omega⟩
    have e : (10 * (q : Int) + (r : Int)) = ((10 * q + r : Nat) : Int) := by omega
    have := l6Dec_two q r hq hq9 hr w
    rw [← decS_two hq hr, ← e] at this
    exact this

theorem ivl_d {n x : Int} (h : ovr n x < 0) : ivl n x = 100 := by simp [ivl, h]
theorem ivl_p {n x : Int} (h : ovr n x = 0) (k : pur n = true) : ivl n x = 112 := by simp [ivl, h, k]
theorem ivl_s {n x : Int} (h : ovr n x = 0) (k : pur n = false) : ivl n x = 115 := by simp [ivl, h, k]
theorem ivl_g {n x : Int} (h : ovr n x = 1) (k : pur n = false) : ivl n x = 103 := by simp [ivl, h, k]
theorem ivl_a {n x : Int} (h : 1 < ovr n x ∨ (ovr n x = 1 ∧ pur n = true)) : ivl n x = 97 := by
  unfold ivl
  rw [if_neg (by omega), if_neg (by omega), if_neg]
  rintro ⟨h1, h2⟩
  rcases h with h | ⟨_, h⟩
  · omega
  · rw [h] at h2; cases h2

set_option maxHeartbeats 4000000 in
theorem l1Quality_any (n x : Int) (h0 : 0 ≤ n) (h1 : n ≤ 20) (x0 : -100 ≤ x) (x1 : x ≤ 100) (w : World) :
    Calls Tryd.prog 97 #[.int .i64 n, .int .i64 x] w fun e w' => e = .returned (.string ⟨#[ivl n x]⟩) ∧ Below w.heap.size w w' := by
  obtain ⟨i, q, e1, e2, e3, e4, hi, hq⟩ := seven n h0 h1
  have y1 := lS_arr i hi
  have y2 := lS_list i hi
  have y3 := lS_get i hi
  obtain ⟨z0, z1⟩ := lS_bd i hi
  have HV : Hid (ovr n x = x - (q : Int) * 12 - lS i) := by show ovr n x = _; unfold ovr; rw [e3, e4]; rfl
  have HP : Hid (pur n = ((i : Int) == 0 || (i : Int) == 3 || (i : Int) == 4)) := by show pur n = _; unfold pur; rw [e3]
  generalize lS i = z at y1 y2 y3 z0 z1 HV
  have i0 : (0 : Int) ≤ (i : Int) := by omega
  have i1 : (i : Int) < 7 := by omega
  have s1 : IntKind.i64.wrap (q : Int) = (q : Int) := IntWalk.i64_in _ (by omega)
  have s2 : IntKind.i64.wrap (12 * (q : Int)) = 12 * (q : Int) := IntWalk.i64_in _ (by omega)
  obtain ⟨l, hl⟩ : ∃ l : Int, z + 12 * (q : Int) = l := ⟨_, rfl⟩
  have hl' : 12 * (q : Int) + z = l := by omega
  have s3 : IntKind.i64.wrap l = l := IntWalk.i64_in _ (by omega)
  have s4 : IntKind.i64.wrap (l + 1) = l + 1 := IntWalk.i64_in _ (by omega)
  have HO : Hid (ovr n x = x - l) := by show ovr n x = _; rw [HV.out]; omega
  have hp : (((i : Int) == 0) = true ∧ pur n = true) ∨ (((i : Int) == 0) = false ∧ ((i : Int) == 3) = true ∧ pur n = true) ∨ (((i : Int) == 0) = false ∧ ((i : Int) == 3) = false ∧ ((i : Int) == 4) = true ∧ pur n = true) ∨ (((i : Int) == 0) = false ∧ ((i : Int) == 3) = false ∧ ((i : Int) == 4) = false ∧ pur n = false) := by
    rw [HP.out]
    cases ((i : Int) == 0) <;> cases ((i : Int) == 3) <;> cases ((i : Int) == 4) <;> simp
  have HT : Hid (∀ c : UInt8, ivl n x = c → ivl n x = c) := fun c h => h
  have ho : x - l < 0 ∨ x - l = 0 ∨ x - l = 1 ∨ 1 < x - l := by omega
  clear HV z0 z1 hi hq
  rcases hp with ⟨p1, HPo⟩ | ⟨p1, p2, HPo⟩ | ⟨p1, p2, p3, HPo⟩ | ⟨p1, p2, p3, HPo⟩
  all_goals
    rcases ho with o1 | o1 | o1 | o1
    all_goals
      have hx1 : (decide (x < l)) = decide (x - l < 0) := by congr 1; apply propext; omega
      have hx2 : (x == l) = (x - l == 0) := by rw [Bool.eq_iff_iff]; simp; omega
      have hx3 : (x == l + 1) = (x - l == 1) := by rw [Bool.eq_iff_iff]; simp; omega
      have HOo := HO.out
      first
        | (have HR := Lib.hid (ivl_d (n := n) (x := x) (by omega)))
        | (have HR := Lib.hid (ivl_p (n := n) (x := x) (by omega) HPo))
        | (have HR := Lib.hid (ivl_s (n := n) (x := x) (by omega) HPo))
        | (have HR := Lib.hid (ivl_g (n := n) (x := x) (by omega) HPo))
        | (have HR := Lib.hid (ivl_a (n := n) (x := x) (.inl (by omega))))
        | (have HR := Lib.hid (ivl_a (n := n) (x := x) (.inr ⟨by omega, HPo⟩)))
      (try rw [o1] at hx1); (try rw [o1] at hx2); (try rw [o1] at hx3)
      clear HPo HOo HP HO HT
      go_enter Tryd.func97, Tryd.ntmps97
      go_wp2
      all_goals (try (go_quiet (fail); go_wp2))
      all_goals go_ret
      all_goals exact ⟨by rw [HR.out]; rfl, by (repeat' (first | (with_reducible exact Below.refl _ _) | (with_reducible refine Below.alloc ?_ ?_ _) | (with_reducible refine Below.drew ?_) | (with_reducible refine Below.setCell ?_ ?_ _) | (with_reducible refine bl_step ?_ (by assumption)) | go_size))⟩
end Go.Proofs.YticapinlnlpbpaaDoor
