/-
  The program's map of commands: how it is made, and what is found in it.
-/
import Derived.Test.YtaelkgpebhdlhaaGreatDoorExm
import Derived.Maps.Own
import Derived.Maps.OwnOps
import Derived.Maps.OwnSet
import Derived.Maps.Views
namespace Go.Proofs.YtaelkgpebhdlhaaGreatDoor
open Go.RowKit Go.Maps
set_option maxRecDepth 100000
set_option linter.unusedVariables false

/-- a value of the map reads as itself -/
def asIs (v : Value) : Option (DataW Value × List MemPlace) := some (.held v, [])
theorem keyedStr : Keyed Tryz.prog 9 := string_keyed Tryz.underlying9
theorem keyStr (s : ByteArray) (h : s.size ≤ maxLen) : keyOf Tryz.prog 9 (.string s) = some (.string s.data.toList) := by
  rw [keyOf_string Tryz.underlying9]
  unfold mapKey
  rw [show Tryz.prog.underlying 9 = some .string from Tryz.underlying9]
  simp [h]
theorem wpList_insert_own {w : World} {ops : Array Oper} {rest : List Oper} {o : Oper} {a : Act} {Q : Exit → Act → World → Prop} (hg : o.guard = none) (m x v : Operand) (t : TypeId) (hop : o.op = Op.insert t m x v)
    (e : TypeId) (ht : Tryz.prog.underlying t = some (.map 9 e)) (b n : Nat) (D : DataW Value) (hm : a.eval m = .map (some b)) (hown : w.ownsMap Tryz.prog 9 asIs b n D) (hn : n < maxLen) (s : ByteArray) (hs : s.size ≤ maxLen) (val : Value) (hx : a.eval x = .string s) (hv : a.eval v = val)
    (hK : ∀ w', w'.ownsMap Tryz.prog 9 asIs b (n + 1) (D.put (.string s.data.toList) (.held val)) → w.grownBy w' (some b) → wpList Tryz.prog ops Q rest (a.put o.dst undef) w') : wpList Tryz.prog ops Q (o :: rest) a w := by
  refine wpList_plain hg fun K' hK' => ?_
  obtain ⟨w', hrun, r1, r2⟩ := hown.update keyedStr ht hn (key := .string s) (val := val) (keyStr s hs) rfl
  have hk := hK' _ _ (hK w' r1 r2)
  unfold Oper.wp
  simp [execOp, hop, hm, hx, hv, hrun, Result.andThen]
  exact hk

/-- what the map holds for a command -/
def cmdV (n : Int) (f : Nat) : Value := .agg #[.int .i64 n, .func (.func f) #[] #[]]
/-- the commands, the last one first -/
def cmdTab : List (List UInt8 × Int × Nat) := [
  ([111, 114, 100, 111], 2, 154),
  ([102, 105, 110, 100], 0, 153),
  ([101, 110, 116, 101, 114], 1, 152),
  ([109, 111, 100, 101], 0, 151),
  ([109, 111, 100, 101, 115], 0, 150),
  ([110, 101, 117, 109, 101], 0, 149),
  ([115, 105, 110, 103], 0, 148),
  ([115, 116, 101, 112, 115], 0, 147),
  ([115, 104, 111, 119], 0, 146),
  ([109, 111, 118, 101], 1, 145),
  ([97, 100, 100], 1, 144),
  ([109, 101, 108, 111, 100, 121], (-1), 143)]
def tabD (l : List (List UInt8 × Int × Nat)) : DataW Value := l.foldr (fun p D => D.put (.string p.1) (.held (cmdV p.2.1 p.2.2))) (.map [])
theorem tabD_map : ∀ l, IsMap (tabD l)
  | [] => isMap_empty
  | p :: l => (tabD_map l).put _ _
theorem tabD_look (x : List UInt8) (z : DataW Value) : ∀ l, Maps.has (tabD l) (.string x) = (l.find? fun p => p.1 == x).isSome ∧ (tabD l).atKey (.string x) z = (match l.find? fun p => p.1 == x with | some p => .held (cmdV p.2.1 p.2.2) | none => z)
  | [] => by
    have h : Maps.has (tabD []) (.string x) = false := by simp [tabD, Maps.has]
    exact ⟨h, atKey_of_not_has h z⟩
  | p :: l => by
    obtain ⟨h1, h2⟩ := tabD_look x z l
    by_cases e : p.1 = x
    · have eb : (p.1 == x) = true := by rw [beq_iff_eq]; exact e
      rw [List.find?_cons_of_pos (by simpa using e)]
      subst e
      exact ⟨has_put_same (tabD_map l) (show WideAt.IsKeyLit (.string p.1) from trivial) _, atKey_put_same (tabD_map l) (show WideAt.IsKeyLit (.string p.1) from trivial) _ _⟩
    · rw [List.find?_cons_of_neg (by simpa using e)]
      have hne : Lit.string x ≠ Lit.string p.1 := fun h => e (by injection h with h; exact h.symm)
      exact ⟨(has_put_other hne _).trans h1, (atKey_put_other hne _ _).trans h2⟩
/-- the command that a word stands for -/
def cmdOf (x : List UInt8) : Option (Int × Nat) := (cmdTab.find? fun p => p.1 == x).map fun p => p.2

set_option maxHeartbeats 4000000 in
theorem commands_any (w : World) : Calls Tryz.prog 114 #[] w fun e w' => ∃ b, e = .returned (.map (some b)) ∧ w'.ownsMap Tryz.prog 9 asIs b 12 (tabD cmdTab) ∧ Below w.heap.size w w' ∧ w.heap.size ≤ b := by
  have hmk := @run_makeMap Tryz.prog
  have h0 := World.ownsMap_made w Tryz.prog 9 asIs
  have b0 : Below w.heap.size w (w.alloc (.map #[] 0)) := (Below.refl _ _).alloc (Nat.le_refl _) _
  have HB0 := Lib.hid b0
  clear b0
  go_enter Tryz.func114, Tryz.ntmps114
  go_wp2_with (refine wpList_insert_own rfl _ _ _ _ rfl 127 Tryz.underlying156 w.heap.size 0 _ rfl h0 (by unfold maxLen; omega) ⟨#[109, 101, 108, 111, 100, 121]⟩ (by decide) _ rfl rfl ?_)
  intro w1 m1 g1
  have HM1 := Lib.hid m1
  have HB1 : Hid (Below w.heap.size w w1) := HB0.out.grown g1 HB0.out.size (fun k hk => by injection hk with hk; omega)
  clear m1 g1
  go_wp2_with (refine wpList_insert_own rfl _ _ _ _ rfl 127 Tryz.underlying156 w.heap.size 1 _ rfl HM1.out (by unfold maxLen; omega) ⟨#[97, 100, 100]⟩ (by decide) _ rfl rfl ?_)
  intro w2 m2 g2
  have HM2 := Lib.hid m2
  have HB2 : Hid (Below w.heap.size w w2) := HB1.out.grown g2 HB1.out.size (fun k hk => by injection hk with hk; omega)
  clear m2 g2
  go_wp2_with (refine wpList_insert_own rfl _ _ _ _ rfl 127 Tryz.underlying156 w.heap.size 2 _ rfl HM2.out (by unfold maxLen; omega) ⟨#[109, 111, 118, 101]⟩ (by decide) _ rfl rfl ?_)
  intro w3 m3 g3
  have HM3 := Lib.hid m3
  have HB3 : Hid (Below w.heap.size w w3) := HB2.out.grown g3 HB2.out.size (fun k hk => by injection hk with hk; omega)
  clear m3 g3
  go_wp2_with (refine wpList_insert_own rfl _ _ _ _ rfl 127 Tryz.underlying156 w.heap.size 3 _ rfl HM3.out (by unfold maxLen; omega) ⟨#[115, 104, 111, 119]⟩ (by decide) _ rfl rfl ?_)
  intro w4 m4 g4
  have HM4 := Lib.hid m4
  have HB4 : Hid (Below w.heap.size w w4) := HB3.out.grown g4 HB3.out.size (fun k hk => by injection hk with hk; omega)
  clear m4 g4
  go_wp2_with (refine wpList_insert_own rfl _ _ _ _ rfl 127 Tryz.underlying156 w.heap.size 4 _ rfl HM4.out (by unfold maxLen; omega) ⟨#[115, 116, 101, 112, 115]⟩ (by decide) _ rfl rfl ?_)
  intro w5 m5 g5
  have HM5 := Lib.hid m5
  have HB5 : Hid (Below w.heap.size w w5) := HB4.out.grown g5 HB4.out.size (fun k hk => by injection hk with hk; omega)
  clear m5 g5
  go_wp2_with (refine wpList_insert_own rfl _ _ _ _ rfl 127 Tryz.underlying156 w.heap.size 5 _ rfl HM5.out (by unfold maxLen; omega) ⟨#[115, 105, 110, 103]⟩ (by decide) _ rfl rfl ?_)
  intro w6 m6 g6
  have HM6 := Lib.hid m6
  have HB6 : Hid (Below w.heap.size w w6) := HB5.out.grown g6 HB5.out.size (fun k hk => by injection hk with hk; omega)
  clear m6 g6
  go_wp2_with (refine wpList_insert_own rfl _ _ _ _ rfl 127 Tryz.underlying156 w.heap.size 6 _ rfl HM6.out (by unfold maxLen; omega) ⟨#[110, 101, 117, 109, 101]⟩ (by decide) _ rfl rfl ?_)
  intro w7 m7 g7
  have HM7 := Lib.hid m7
  have HB7 : Hid (Below w.heap.size w w7) := HB6.out.grown g7 HB6.out.size (fun k hk => by injection hk with hk; omega)
  clear m7 g7
  go_wp2_with (refine wpList_insert_own rfl _ _ _ _ rfl 127 Tryz.underlying156 w.heap.size 7 _ rfl HM7.out (by unfold maxLen; omega) ⟨#[109, 111, 100, 101, 115]⟩ (by decide) _ rfl rfl ?_)
  intro w8 m8 g8
  have HM8 := Lib.hid m8
  have HB8 : Hid (Below w.heap.size w w8) := HB7.out.grown g8 HB7.out.size (fun k hk => by injection hk with hk; omega)
  clear m8 g8
  go_wp2_with (refine wpList_insert_own rfl _ _ _ _ rfl 127 Tryz.underlying156 w.heap.size 8 _ rfl HM8.out (by unfold maxLen; omega) ⟨#[109, 111, 100, 101]⟩ (by decide) _ rfl rfl ?_)
  intro w9 m9 g9
  have HM9 := Lib.hid m9
  have HB9 : Hid (Below w.heap.size w w9) := HB8.out.grown g9 HB8.out.size (fun k hk => by injection hk with hk; omega)
  clear m9 g9
  go_wp2_with (refine wpList_insert_own rfl _ _ _ _ rfl 127 Tryz.underlying156 w.heap.size 9 _ rfl HM9.out (by unfold maxLen; omega) ⟨#[101, 110, 116, 101, 114]⟩ (by decide) _ rfl rfl ?_)
  intro w10 m10 g10
  have HM10 := Lib.hid m10
  have HB10 : Hid (Below w.heap.size w w10) := HB9.out.grown g10 HB9.out.size (fun k hk => by injection hk with hk; omega)
  clear m10 g10
  go_wp2_with (refine wpList_insert_own rfl _ _ _ _ rfl 127 Tryz.underlying156 w.heap.size 10 _ rfl HM10.out (by unfold maxLen; omega) ⟨#[102, 105, 110, 100]⟩ (by decide) _ rfl rfl ?_)
  intro w11 m11 g11
  have HM11 := Lib.hid m11
  have HB11 : Hid (Below w.heap.size w w11) := HB10.out.grown g11 HB10.out.size (fun k hk => by injection hk with hk; omega)
  clear m11 g11
  go_wp2_with (refine wpList_insert_own rfl _ _ _ _ rfl 127 Tryz.underlying156 w.heap.size 11 _ rfl HM11.out (by unfold maxLen; omega) ⟨#[111, 114, 100, 111]⟩ (by decide) _ rfl rfl ?_)
  intro w12 m12 g12
  have HM12 := Lib.hid m12
  have HB12 : Hid (Below w.heap.size w w12) := HB11.out.grown g12 HB11.out.size (fun k hk => by injection hk with hk; omega)
  clear m12 g12
  go_wp2
  go_ret
  exact ⟨w.heap.size, rfl, HM12.out, HB12.out, Nat.le_refl _⟩
end Go.Proofs.YtaelkgpebhdlhaaGreatDoor
