/-
  Halves sung: the program's functions as values.
-/
import Derived.Test.YtcmcdomfmmjogaaPsb
import Derived.Test.YtcmcdomfmmjogaaVw
import Derived.Deep.RegionHeld3
namespace Go.Proofs.Ytcmcdomfmmjogaa
open Go.RowKit
set_option maxRecDepth 100000
set_option linter.unusedVariables false

theorem TRow.set {w : World} {lo hi : Nat} {v : Value} {xs : List (Int × Bool)} (h : TRow w lo hi v xs) {B o : Nat} {x : Value} (hB : B < lo) : TRow (w.setCell ⟨B, o, none⟩ x) lo hi v xs :=
  h.keep fun k _ h2 _ => Below.heap_setCell _ _ _ _ (fun e => by have e : k = B := e; omega)
theorem cell_bl {w w' : World} {p : Nat × Nat} {x : Value} (h : w.cell? ⟨p.1, p.2, none⟩ = some x) (hb : Below w.heap.size w w') : w'.cell? ⟨p.1, p.2, none⟩ = some x :=
  (hb.cell (p := ⟨p.1, p.2, none⟩) (World.block_lt_of_cell? w _ h)).trans h
/-- a function that sings a half, in memory -/
structure HalfT (w : World) (b0 b1 b2 : Nat) (st : List (Int × Bool)) (tn : Int × Bool) (en : List (Int × Bool)) : Prop where
  h0 : ∃ a c, w.cell? ⟨b0, 0, none⟩ = some (.slice a st.length c) ∧ LV w (.slice a st.length c) st
  h1 : w.cell? ⟨b1, 0, none⟩ = some (.int .i64 tn.1) ∧ w.cell? ⟨b1, 1, none⟩ = some (.bool tn.2)
  h2 : ∃ a c, w.cell? ⟨b2, 0, none⟩ = some (.slice a en.length c) ∧ LV w (.slice a en.length c) en
theorem HalfT.below {w w' : World} {b0 b1 b2 : Nat} {st : List (Int × Bool)} {tn : Int × Bool} {en : List (Int × Bool)} (h : HalfT w b0 b1 b2 st tn en) (hb : Below w.heap.size w w') : HalfT w' b0 b1 b2 st tn en := by
  obtain ⟨⟨a, c, e, l⟩, ⟨k1, k2⟩, a', c', e', l'⟩ := h
  exact ⟨⟨a, c, cell_bl (p := (b0, 0)) e hb, l.below hb⟩, ⟨cell_bl (p := (b1, 0)) k1 hb, cell_bl (p := (b1, 1)) k2 hb⟩, a', c', cell_bl (p := (b2, 0)) e' hb, l'.below hb⟩
def halfF (b0 b1 b2 : Nat) : Value := .func (.func 91) #[] #[.pointer (some ⟨b0, 0, none⟩), .pointer (some ⟨b2, 0, none⟩), .pointer (some ⟨b1, 0, none⟩)]

theorem newHalfTone_any (v0 v2 : Value) (st : List (Int × Bool)) (tn : Int × Bool) (en : List (Int × Bool)) (w : World) (h0 : LV w v0 st) (h2 : LV w v2 en) :
    Calls Try.prog 86 #[v0, .agg #[.int .i64 tn.1, .bool tn.2], v2] w fun e w' => ∃ b0 b1 b2, e = .returned (halfF b0 b1 b2) ∧ HalfT w' b0 b1 b2 st tn en ∧ Below w.heap.size w w' := by
  obtain ⟨s, b⟩ := tn
  have H0 := Lib.hid (fun W (hb : Below w.heap.size w W) => h0.below hb)
  have H2 := Lib.hid (fun W (hb : Below w.heap.size w W) => h2.below hb)
  obtain ⟨a0, c0, rfl, _, _⟩ := h0.sl
  obtain ⟨a2, c2, rfl, _, _⟩ := h2.sl
  have hmf : ∀ (fn : Fn) (first cap : Array Value) (w : World), (Instr.makeFunc fn first cap).run Try.prog w = .ok (.func fn first cap) w := fun _ _ _ _ => rfl
  have HL0 : Hid (∃ n, st.length = n) := ⟨_, rfl⟩
  clear h0 h2
  go_enter Try.func86, Try.ntmps86
  go_wp2
  go_ret
  have hb : Below w.heap.size w (((w.alloc (.cells #[.slice a0 st.length c0] 23)).alloc (.cells #[.int .i64 s, .bool b] 25)).alloc (.cells #[.slice a2 en.length c2] 23)) := by (repeat' (first | (with_reducible exact Below.refl _ _) | (with_reducible refine Below.alloc ?_ ?_ _) | (with_reducible refine Below.drew ?_) | (with_reducible refine Below.setCell ?_ ?_ _) | (with_reducible refine bl_step ?_ (by assumption)) | go_size))
  refine ⟨w.heap.size, w.heap.size + 1, w.heap.size + 2, rfl, ⟨⟨a0, c0, ?_, H0.out _ hb⟩, ⟨?_, ?_⟩, a2, c2, ?_, H2.out _ hb⟩, hb⟩
  all_goals go_simp

/-- a half as it is sung, in memory -/
structure SingH (w : World) (b0 b1 b2 bh be : Nat) (st : List (Int × Bool)) (tn : Int × Bool) (en : List (Int × Bool)) (half : ByteArray) : Prop where
  tone : HalfT w b0 b1 b2 st tn en
  hh : w.cell? ⟨bh, 0, none⟩ = some (.string half)
  he : w.cell? ⟨be, 0, none⟩ = some (.int .i64 ((half.size - en.length : Nat) : Int))
theorem SingH.below {w w' : World} {b0 b1 b2 bh be : Nat} {st : List (Int × Bool)} {tn : Int × Bool} {en : List (Int × Bool)} {half : ByteArray} (h : SingH w b0 b1 b2 bh be st tn en half) (hb : Below w.heap.size w w') : SingH w' b0 b1 b2 bh be st tn en half :=
  ⟨h.tone.below hb, cell_bl (p := (bh, 0)) h.hh hb, cell_bl (p := (be, 0)) h.he hb⟩
def singF (b0 b1 b2 bh be : Nat) : Value := .func (.func 92) #[] #[.pointer (some ⟨b1, 0, none⟩), .pointer (some ⟨bh, 0, none⟩), .pointer (some ⟨b0, 0, none⟩), .pointer (some ⟨be, 0, none⟩), .pointer (some ⟨b2, 0, none⟩)]
def HalfAns (w : World) (b0 b1 b2 : Nat) (st : List (Int × Bool)) (tn : Int × Bool) (en : List (Int × Bool)) (half : ByteArray) (e : Ending) (w' : World) : Prop :=
  Below w.heap.size w w' ∧ ((st.length + en.length ≤ half.size ∧ ∃ bh be, e = .returned (.tuple #[singF b0 b1 b2 bh be, .bool true]) ∧ SingH w' b0 b1 b2 bh be st tn en half) ∨ (half.size < st.length + en.length ∧ e = .returned (.tuple #[Value.nilFunc, .bool false])))

set_option maxHeartbeats 2000000 in
theorem newHalf1_any (b0 b1 b2 : Nat) (st : List (Int × Bool)) (tn : Int × Bool) (en : List (Int × Bool)) (half : ByteArray) (hh : half.size ≤ 1048577) (hl : st.length + en.length ≤ 100) (w : World) (h : HalfT w b0 b1 b2 st tn en) :
    Calls Try.prog 91 #[.string half, .pointer (some ⟨b0, 0, none⟩), .pointer (some ⟨b2, 0, none⟩), .pointer (some ⟨b1, 0, none⟩)] w (HalfAns w b0 b1 b2 st tn en half) := by
  have HT := Lib.hid (fun W (hb : Below w.heap.size w W) => h.below hb)
  obtain ⟨⟨a, c, e0, l⟩, ⟨k1, k2⟩, a', c', e2, l'⟩ := h
  have q0 : b0 < w.heap.size := World.block_lt_of_cell? w _ e0
  have q2 : b2 < w.heap.size := World.block_lt_of_cell? w _ e2
  have hmf : ∀ (fn : Fn) (first cap : Array Value) (w : World), (Instr.makeFunc fn first cap).run Try.prog w = .ok (.func fn first cap) w := fun _ _ _ _ => rfl
  clear l l' k1 k2
  obtain ⟨n0, hn0⟩ : ∃ n, st.length = n := ⟨_, rfl⟩
  obtain ⟨n2, hn2⟩ : ∃ n, en.length = n := ⟨_, rfl⟩
  rw [hn0] at e0 hl
  rw [hn2] at e2 hl
  have HN0 := Lib.hid hn0
  have HN2 := Lib.hid hn2
  clear hn0 hn2
  by_cases hf : n0 + n2 ≤ half.size
  · have g1 : decide ((half.size : Int) < (n0 : Int) + (n2 : Int)) = false := decide_eq_false (by omega)
    have g2 : decide (half.size < n0 + n2) = false := decide_eq_false (by omega)
    have s1 : IntKind.i64.wrap ((half.size : Int) - (n2 : Int)) = ((half.size - n2 : Nat) : Int) := by rw [IntWalk.i64_in _ (by omega)]; omega
    have s2 : IntKind.i64.wrap ((n0 : Int) + (n2 : Int)) = (n0 : Int) + (n2 : Int) := IntWalk.i64_in _ (by omega)
    go_enter Try.func91, Try.ntmps91
    go_wp2
    go_ret2
    refine ⟨by (repeat' (first | (with_reducible exact Below.refl _ _) | (with_reducible refine Below.alloc ?_ ?_ _) | (with_reducible refine Below.drew ?_) | (with_reducible refine Below.setCell ?_ ?_ _) | (with_reducible refine bl_step ?_ (by assumption)) | go_size)), .inl ⟨by rw [HN0.out, HN2.out]; exact hf, w.heap.size, w.heap.size + 1, rfl, HT.out _ (by (repeat' (first | (with_reducible exact Below.refl _ _) | (with_reducible refine Below.alloc ?_ ?_ _) | (with_reducible refine Below.drew ?_) | (with_reducible refine Below.setCell ?_ ?_ _) | (with_reducible refine bl_step ?_ (by assumption)) | go_size))), ?_, ?_⟩⟩
    · go_simp
    · rw [HN2.out]; go_simp
  · have g1 : (half.size : Int) < (n0 : Int) + (n2 : Int) := by omega
    have g2 : half.size < n0 + n2 := by omega
    have s2 : IntKind.i64.wrap ((n0 : Int) + (n2 : Int)) = (n0 : Int) + (n2 : Int) := IntWalk.i64_in _ (by omega)
    go_enter Try.func91, Try.ntmps91
    go_wp2
    go_ret2
    exact ⟨by (repeat' (first | (with_reducible exact Below.refl _ _) | (with_reducible refine Below.alloc ?_ ?_ _) | (with_reducible refine Below.drew ?_) | (with_reducible refine Below.setCell ?_ ?_ _) | (with_reducible refine bl_step ?_ (by assumption)) | go_size)), .inr ⟨by rw [HN0.out, HN2.out]; exact g2, rfl⟩⟩

/-- a note's value -/
def ntv (n : Note) : Value := .agg #[.int .i64 n.1.1, .bool n.1.2, .int .i64 n.2.1, .bool n.2.2]
theorem byte_at {s : ByteArray} {i : Nat} (hi : i < s.size) : (s.data.toList.getD i 0 == 47) = ((s[i].toNat : Int) == 47) := by
  have e : s.data.toList.getD i 0 = s[i] := by rw [List.getD_eq_getElem?_getD, at_list s i hi]; rfl
  rw [e]
  by_cases h : s[i] = 47
  · rw [h]; rfl
  · have h2 : s[i].toNat ≠ 47 := fun e => h (UInt8.toNat_inj.1 e)
    rw [beq_eq_false_iff_ne.2 h, beq_eq_false_iff_ne.2 (by omega)]

set_option maxHeartbeats 4000000 in
theorem singH_any (b0 b1 b2 bh be : Nat) (st : List (Int × Bool)) (tn : Int × Bool) (en : List (Int × Bool)) (half : ByteArray) (hh : half.size ≤ 1048577) (hl : st.length + en.length ≤ half.size) (i : Nat) (hi : i < half.size) (w : World) (h : SingH w b0 b1 b2 bh be st tn en half) :
    Calls Try.prog 92 #[.int .i64 (i : Int), .pointer (some ⟨b1, 0, none⟩), .pointer (some ⟨bh, 0, none⟩), .pointer (some ⟨b0, 0, none⟩), .pointer (some ⟨be, 0, none⟩), .pointer (some ⟨b2, 0, none⟩)] w fun e w' => e = .returned (ntv (noH st tn en half i)) ∧ Below w.heap.size w w' := by
  obtain ⟨⟨⟨a, c, e0, l⟩, ⟨k1, k2⟩, a', c', e2, l'⟩, f1, f2⟩ := h
  have q0 : b0 < w.heap.size := World.block_lt_of_cell? w _ e0
  have q1 : b1 < w.heap.size := World.block_lt_of_cell? w _ k1
  have q2 : b2 < w.heap.size := World.block_lt_of_cell? w _ e2
  have q3 : bh < w.heap.size := World.block_lt_of_cell? w _ f1
  have q4 : be < w.heap.size := World.block_lt_of_cell? w _ f2
  obtain ⟨s, b⟩ := tn
  have hi0 : (0 : Int) ≤ (i : Int) := by omega
  have hi1 : (i : Int) < (half.size : Int) := by omega
  have HB : Hid (∃ x, x = ((half[i].toNat : Int) == 47) ∧ (half.data.toList.getD i 0 == 47) = x) := ⟨_, rfl, byte_at hi⟩
  by_cases hA : i < st.length
  · have HN : Hid (noH st (s, b) en half i = (st.getD i (0, false), 0, half.data.toList.getD i 0 == 47)) := by
      show _ = _
      unfold noH ntH roH
      rw [if_pos hA, if_pos hA]
    obtain ⟨⟨s', b'⟩, hx⟩ : ∃ t, st[i]? = some t := ⟨st[i], List.getElem?_eq_getElem hA⟩
    obtain ⟨g, rfl, hg, d0, d1⟩ := l.cells hx
    have HX : Hid (st.getD i (0, false) = (s', b')) := by show _ = _; rw [List.getD_eq_getElem?_getD, hx]; rfl
    have g1 : (i : Int) < (st.length : Int) := by omega
    clear l l' hx hl
    generalize st.length = n0 at *
    generalize en.length = n2 at *
    go_enter Try.func92, Try.ntmps92
    go_wp2
    go_region
    all_goals go_wp2
    all_goals
      refine bodyPost_ret (v := .agg #[.int .i64 s', .bool b', .int .i64 0, .bool ((half[i].toNat : Int) == 47)]) (by simp only [results, Try.results92]; go_simp) rfl ⟨?_, ?_⟩
      · rw [HN.out, HX.out, byte_at hi]; rfl
      · (repeat' (first | (with_reducible exact Below.refl _ _) | (with_reducible refine Below.alloc ?_ ?_ _) | (with_reducible refine Below.drew ?_) | (with_reducible refine Below.setCell ?_ ?_ _) | (with_reducible refine bl_step ?_ (by assumption)) | go_size))
  · have ga : decide ((i : Int) < (st.length : Int)) = false := decide_eq_false (by omega)
    have gb : decide (i < st.length) = false := decide_eq_false hA
    obtain ⟨q, hq⟩ : ∃ q, half.size - en.length = q := ⟨_, rfl⟩
    by_cases hC : q ≤ i
    · obtain ⟨j, hj⟩ : ∃ j, i - q = j := ⟨_, rfl⟩
      have hjl : j < en.length := by omega
      have HN : Hid (noH st (s, b) en half i = (en.getD j (0, false), 2, half.data.toList.getD i 0 == 47)) := by
        show _ = _
        unfold noH ntH roH
        rw [if_neg hA, if_neg hA, hq, if_pos hC, if_pos hC, hj]
      obtain ⟨⟨s', b'⟩, hx⟩ : ∃ t, en[j]? = some t := ⟨en[j], List.getElem?_eq_getElem hjl⟩
      obtain ⟨g, rfl, hg, d0, d1⟩ := l'.cells hx
      have HX : Hid (en.getD j (0, false) = (s', b')) := by show _ = _; rw [List.getD_eq_getElem?_getD, hx]; rfl
      rw [hq] at f2
      have g1 : (q : Int) ≤ (i : Int) := by omega
      have g2 : IntKind.i64.wrap ((i : Int) - (q : Int)) = (j : Int) := by rw [IntWalk.i64_in _ (by omega)]; omega
      have g3 : (0 : Int) ≤ (j : Int) := by omega
      have g4 : (j : Int) < (en.length : Int) := by omega
      clear l l' hx hl hq hj
      generalize st.length = n0 at *
      generalize en.length = n2 at *
      go_enter Try.func92, Try.ntmps92
      go_wp2
      go_region
      all_goals go_wp2
      all_goals
        refine bodyPost_ret (v := .agg #[.int .i64 s', .bool b', .int .i64 2, .bool ((half[i].toNat : Int) == 47)]) (by simp only [results, Try.results92]; go_simp) rfl ⟨?_, ?_⟩
        · rw [HN.out, HX.out, byte_at hi]; rfl
        · (repeat' (first | (with_reducible exact Below.refl _ _) | (with_reducible refine Below.alloc ?_ ?_ _) | (with_reducible refine Below.drew ?_) | (with_reducible refine Below.setCell ?_ ?_ _) | (with_reducible refine bl_step ?_ (by assumption)) | go_size))
    · have HN : Hid (noH st (s, b) en half i = ((s, b), 1, half.data.toList.getD i 0 == 47)) := by
        show _ = _
        unfold noH ntH roH
        rw [if_neg hA, if_neg hA, hq, if_neg hC, if_neg hC]
      rw [hq] at f2
      have g1 : decide ((q : Int) ≤ (i : Int)) = false := decide_eq_false (by omega)
      have g2 : decide (q ≤ i) = false := decide_eq_false hC
      clear l l' hl hq
      generalize st.length = n0 at *
      generalize en.length = n2 at *
      go_enter Try.func92, Try.ntmps92
      go_wp2
      go_region
      all_goals go_wp2
      all_goals
        refine bodyPost_ret (v := .agg #[.int .i64 s, .bool b, .int .i64 1, .bool ((half[i].toNat : Int) == 47)]) (by simp only [results, Try.results92]; go_simp) rfl ⟨?_, ?_⟩
        · rw [HN.out, byte_at hi]; rfl
        · (repeat' (first | (with_reducible exact Below.refl _ _) | (with_reducible refine Below.alloc ?_ ?_ _) | (with_reducible refine Below.drew ?_) | (with_reducible refine Below.setCell ?_ ?_ _) | (with_reducible refine bl_step ?_ (by assumption)) | go_size))
end Go.Proofs.Ytcmcdomfmmjogaa
