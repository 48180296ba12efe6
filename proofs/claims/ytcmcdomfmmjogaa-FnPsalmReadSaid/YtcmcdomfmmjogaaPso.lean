/-
  Verses sung: the program's functions as values.
-/
import Derived.Test.YtcmcdomfmmjogaaPsn
namespace Go.Proofs.Ytcmcdomfmmjogaa
open Go.RowKit
set_option maxRecDepth 100000
set_option linter.unusedVariables false

theorem store_fn (a : Addr) (fn : Fn) (x y : Array Value) (m : Mode) (w : World) : (store a (.func fn x y) m).run Try.prog w = stored Try.prog w a (.func fn x y) m := run_store Try.prog w a _ m rfl
theorem store_nofn (a : Addr) (m : Mode) (w : World) : (store a Value.nilFunc m).run Try.prog w = stored Try.prog w a Value.nilFunc m := run_store Try.prog w a _ m rfl
theorem keepc {w w' : World} {b o : Nat} {x : Value} (h : w.cell? ⟨b, o, none⟩ = some x) (hb : Below w.heap.size w w') : w'.cell? ⟨b, o, none⟩ = some x := cell_bl (p := (b, o)) h hb
/-- a psalm tone's function, in memory -/
structure PsT (w : World) (c0 c1 : Nat) (p : Psa) : Prop where
  t0 : ∃ b0 b1 b2, w.cell? ⟨c0, 0, none⟩ = some (halfF b0 b1 b2) ∧ HalfT w b0 b1 b2 p.st p.tn p.mi
  t1 : ∃ b0 b1 b2, w.cell? ⟨c1, 0, none⟩ = some (halfF b0 b1 b2) ∧ HalfT w b0 b1 b2 [] p.tn p.en
theorem PsT.below {w w' : World} {c0 c1 : Nat} {p : Psa} (h : PsT w c0 c1 p) (hb : Below w.heap.size w w') : PsT w' c0 c1 p := by
  obtain ⟨⟨b0, b1, b2, e0, t0⟩, a0, a1, a2, e1, t1⟩ := h
  exact ⟨⟨b0, b1, b2, keepc e0 hb, t0.below hb⟩, a0, a1, a2, keepc e1 hb, t1.below hb⟩
def psF (c0 c1 : Nat) : Value := .func (.func 87) #[] #[.pointer (some ⟨c0, 0, none⟩), .pointer (some ⟨c1, 0, none⟩)]
theorem nil_lv (w : World) : LV w (.slice none 0 0) [] := ⟨0, 0, ⟨rfl, .inl ⟨rfl, rfl⟩⟩, fun g hg => by cases hg⟩

set_option maxHeartbeats 4000000 in
theorem newPsalmTone_any (v : Value) (p : Psa) (w : World) (h : PV w v p) :
    Calls Try.prog 76 #[v] w fun e w' => ∃ c0 c1, e = .returned (psF c0 c1) ∧ PsT w' c0 c1 p ∧ Below w.heap.size w w' := by
  obtain ⟨v0, v1, v2, rfl, hs, hm, he⟩ := h
  have K0 := Lib.hid (fun W (hb : Below w.heap.size w W) => newHalfTone_any v0 v1 p.st p.tn p.mi W (hs.below hb) (hm.below hb))
  have K1 := Lib.hid (fun W (hb : Below w.heap.size w W) => newHalfTone_any (.slice none 0 0) v2 [] p.tn p.en W (nil_lv W) (he.below hb))
  obtain ⟨a0, c0, rfl, _, _⟩ := hs.sl
  obtain ⟨a1, c1, rfl, _, _⟩ := hm.sl
  obtain ⟨a2, c2, rfl, _, _⟩ := he.sl
  have hmf : ∀ (fn : Fn) (first cap : Array Value) (w : World), (Instr.makeFunc fn first cap).run Try.prog w = .ok (.func fn first cap) w := fun _ _ _ _ => rfl
  have hsf := store_fn
  clear hs hm he
  generalize hn0 : p.st.length = n0 at *
  generalize hn1 : p.mi.length = n1 at *
  generalize hn2 : p.en.length = n2 at *
  clear hn0 hn1 hn2
  go_enter Try.func76, Try.ntmps76
  go_wp2_with (fail)
  (go_at_call 86; refine (K0.out _ (by (repeat' (first | (with_reducible assumption) | (with_reducible exact Below.refl _ _) | (with_reducible refine Below.alloc ?_ ?_ _) | (with_reducible refine Below.drew ?_) | (with_reducible refine Below.setCell ?_ ?_ _) | (with_reducible refine below_gb ?_ (by assumption) ?_) | (with_reducible refine bl_step ?_ (by assumption)) | go_size)))).mono ?_; rintro e w1 ⟨b0, b1, b2, rfl, ht1, hb1⟩; obtain ⟨hc1, hf1, hz1⟩ := bl hb1; (try simp at hz1); (try (refine got (p := w.heap.size < w1.heap.size) ?_ ?_; (focus (go_size; done)); intro q1_w0)); (try (refine got (p := w1.cell? ⟨w.heap.size, 0, none⟩ = some (.slice a0 n0 c0)) ?_ ?_; (focus (refine (hc1 _ _ ?_).trans ?_; (focus (go_size; done)); go_simp; done)); intro c1_w0_0)); (try (refine got (p := w1.cell? ⟨w.heap.size, 1, none⟩ = some (.int .i64 p.tn.1)) ?_ ?_; (focus (refine (hc1 _ _ ?_).trans ?_; (focus (go_size; done)); go_simp; done)); intro c1_w0_1)); (try (refine got (p := w1.cell? ⟨w.heap.size, 2, none⟩ = some (.bool p.tn.2)) ?_ ?_; (focus (refine (hc1 _ _ ?_).trans ?_; (focus (go_size; done)); go_simp; done)); intro c1_w0_2)); (try (refine got (p := w1.cell? ⟨w.heap.size, 3, none⟩ = some (.slice a1 n1 c1)) ?_ ?_; (focus (refine (hc1 _ _ ?_).trans ?_; (focus (go_size; done)); go_simp; done)); intro c1_w0_3)); (try (refine got (p := w1.cell? ⟨w.heap.size, 4, none⟩ = some (.slice a2 n2 c2)) ?_ ?_; (focus (refine (hc1 _ _ ?_).trans ?_; (focus (go_size; done)); go_simp; done)); intro c1_w0_4)); (try (refine got (p := ∀ o, w1.frozen? ⟨w.heap.size, o, none⟩ = false) ?_ ?_; (focus (intro o; refine (hf1 _ _ ?_).trans ?_; (focus (go_size; done)); go_simp; done)); intro f1_w0)); clear hc1 hf1)
  have hbw1 : Below w.heap.size w w1 := by (repeat' (first | (with_reducible exact Below.refl _ _) | (with_reducible refine Below.alloc ?_ ?_ _) | (with_reducible refine Below.drew ?_) | (with_reducible refine Below.setCell ?_ ?_ _) | (with_reducible refine bl_step ?_ (by assumption)) | go_size))
  have HT1 := Lib.hid ht1
  have HB1 := Lib.hid hbw1
  have z1 : w.heap.size + 1 ≤ w1.heap.size := by have := hb1.size; simpa using this
  clear ht1 hbw1
  unfold halfF
  go_wp2_with (fail)
  (go_at_call 86; refine (K1.out _ (by have := HB1.out; (repeat' (first | (with_reducible assumption) | (with_reducible exact Below.refl _ _) | (with_reducible refine Below.alloc ?_ ?_ _) | (with_reducible refine Below.drew ?_) | (with_reducible refine Below.setCell ?_ ?_ _) | (with_reducible refine below_gb ?_ (by assumption) ?_) | (with_reducible refine bl_step ?_ (by assumption)) | go_size)))).mono ?_; rintro e w2 ⟨f0, f1, f2, rfl, ht2, hb2⟩; obtain ⟨hc2, hf2, hz2⟩ := bl hb2; (try simp at hz2); (try (refine got (p := w.heap.size < w2.heap.size) ?_ ?_; (focus (go_size; done)); intro q2_w0)); (try (refine got (p := w2.cell? ⟨w.heap.size, 0, none⟩ = some (.slice a0 n0 c0)) ?_ ?_; (focus (refine (hc2 _ _ ?_).trans ?_; (focus (go_size; done)); go_simp; done)); intro c2_w0_0)); (try (refine got (p := w2.cell? ⟨w.heap.size, 1, none⟩ = some (.int .i64 p.tn.1)) ?_ ?_; (focus (refine (hc2 _ _ ?_).trans ?_; (focus (go_size; done)); go_simp; done)); intro c2_w0_1)); (try (refine got (p := w2.cell? ⟨w.heap.size, 2, none⟩ = some (.bool p.tn.2)) ?_ ?_; (focus (refine (hc2 _ _ ?_).trans ?_; (focus (go_size; done)); go_simp; done)); intro c2_w0_2)); (try (refine got (p := w2.cell? ⟨w.heap.size, 3, none⟩ = some (.slice a1 n1 c1)) ?_ ?_; (focus (refine (hc2 _ _ ?_).trans ?_; (focus (go_size; done)); go_simp; done)); intro c2_w0_3)); (try (refine got (p := w2.cell? ⟨w.heap.size, 4, none⟩ = some (.slice a2 n2 c2)) ?_ ?_; (focus (refine (hc2 _ _ ?_).trans ?_; (focus (go_size; done)); go_simp; done)); intro c2_w0_4)); (try (refine got (p := ∀ o, w2.frozen? ⟨w.heap.size, o, none⟩ = false) ?_ ?_; (focus (intro o; refine (hf2 _ _ ?_).trans ?_; (focus (go_size; done)); go_simp; done)); intro f2_w0)); (try (refine got (p := w1.heap.size < w2.heap.size) ?_ ?_; (focus (go_size; done)); intro q2_w10)); (try (refine got (p := w2.cell? ⟨w1.heap.size, 0, none⟩ = some (.func (.func 91) #[] #[.pointer (some ⟨b0, 0, none⟩), .pointer (some ⟨b2, 0, none⟩), .pointer (some ⟨b1, 0, none⟩)])) ?_ ?_; (focus (refine (hc2 _ _ ?_).trans ?_; (focus (go_size; done)); go_simp; done)); intro c2_w10_0)); (try (refine got (p := ∀ o, w2.frozen? ⟨w1.heap.size, o, none⟩ = false) ?_ ?_; (focus (intro o; refine (hf2 _ _ ?_).trans ?_; (focus (go_size; done)); go_simp; done)); intro f2_w10)); clear hc2 hf2)
  have hbw2 : Below w1.heap.size w1 w2 := by (repeat' (first | (with_reducible exact Below.refl _ _) | (with_reducible refine Below.alloc ?_ ?_ _) | (with_reducible refine Below.drew ?_) | (with_reducible refine Below.setCell ?_ ?_ _) | (with_reducible refine bl_step ?_ (by assumption)) | go_size))
  have HT2 := Lib.hid ht2
  have HT1 := Lib.hid (HT1.out.below hbw2)
  have HB2 := Lib.hid (bl_step HB1.out hbw2)
  have z2 : w1.heap.size + 1 ≤ w2.heap.size := by have := hb2.size; simpa using this
  clear ht2 hbw2
  unfold halfF
  go_wp2
  go_ret
  have hb3 : Below w2.heap.size w2 (w2.alloc (.cells #[.func (.func 91) #[] #[.pointer (some ⟨f0, 0, none⟩), .pointer (some ⟨f2, 0, none⟩), .pointer (some ⟨f1, 0, none⟩)]] 111)) := by (repeat' (first | (with_reducible exact Below.refl _ _) | (with_reducible refine Below.alloc ?_ ?_ _) | (with_reducible refine Below.drew ?_) | (with_reducible refine Below.setCell ?_ ?_ _) | (with_reducible refine bl_step ?_ (by assumption)) | go_size))
  refine ⟨w1.heap.size, w2.heap.size, rfl, ⟨⟨b0, b1, b2, ?_, HT1.out.below hb3⟩, f0, f1, f2, ?_, HT2.out.below hb3⟩, bl_step HB2.out hb3⟩
  · unfold halfF; go_simp
  · unfold halfF; go_simp

/-- a verse as it is sung, in memory -/
structure PsSing (w : World) (bv d0 d1 : Nat) (p : Psa) (x y : ByteArray) : Prop where
  hv : w.cell? ⟨bv, 0, none⟩ = some (.string x)
  f0 : ∃ b0 b1 b2 bh be, w.cell? ⟨d0, 0, none⟩ = some (singF b0 b1 b2 bh be) ∧ SingH w b0 b1 b2 bh be p.st p.tn p.mi x
  f1 : ∃ b0 b1 b2 bh be, w.cell? ⟨d1, 0, none⟩ = some (singF b0 b1 b2 bh be) ∧ SingH w b0 b1 b2 bh be [] p.tn p.en y
theorem PsSing.below {w w' : World} {bv d0 d1 : Nat} {p : Psa} {x y : ByteArray} (h : PsSing w bv d0 d1 p x y) (hb : Below w.heap.size w w') : PsSing w' bv d0 d1 p x y := by
  obtain ⟨hv, ⟨b0, b1, b2, bh, be, e, s⟩, a0, a1, a2, ah, ae, e', s'⟩ := h
  exact ⟨keepc hv hb, ⟨b0, b1, b2, bh, be, keepc e hb, s.below hb⟩, a0, a1, a2, ah, ae, keepc e' hb, s'.below hb⟩
def psSingF (bv d0 d1 : Nat) : Value := .func (.func 88) #[] #[.pointer (some ⟨bv, 0, none⟩), .pointer (some ⟨d0, 0, none⟩), .pointer (some ⟨d1, 0, none⟩)]
def PsAns (w : World) (p : Psa) (x y : ByteArray) (e : Ending) (w' : World) : Prop :=
  Below w.heap.size w w' ∧ ((p.st.length + p.mi.length ≤ x.size ∧ p.en.length ≤ y.size ∧ ∃ bv d0 d1, e = .returned (.tuple #[psSingF bv d0 d1, .bool true]) ∧ PsSing w' bv d0 d1 p x y) ∨
    ((x.size < p.st.length + p.mi.length ∨ y.size < p.en.length) ∧ e = .returned (.tuple #[Value.nilFunc, .bool false])))

set_option maxHeartbeats 4000000 in
theorem newPsalm1_any (c0 c1 : Nat) (p : Psa) (x y : ByteArray) (hx : x.size ≤ 1048577) (hy : y.size ≤ 1048577) (hl : p.st.length + p.mi.length ≤ 100) (hl2 : p.en.length ≤ 100) (w : World) (h : PsT w c0 c1 p) :
    Calls Try.prog 87 #[.agg #[.string x, .string y], .pointer (some ⟨c0, 0, none⟩), .pointer (some ⟨c1, 0, none⟩)] w (PsAns w p x y) := by
  obtain ⟨⟨b0, b1, b2, e0, t0⟩, a0, a1, a2, e1, t1⟩ := h
  have q0 : c0 < w.heap.size := World.block_lt_of_cell? w _ e0
  have q1 : c1 < w.heap.size := World.block_lt_of_cell? w _ e1
  have K0 := Lib.hid (fun W (hb : Below w.heap.size w W) => newHalf1_any b0 b1 b2 p.st p.tn p.mi x hx hl W (t0.below hb))
  have K1 := Lib.hid (fun W (hb : Below w.heap.size w W) => newHalf1_any a0 a1 a2 [] p.tn p.en y hy (by simpa using hl2) W (t1.below hb))
  have hmf : ∀ (fn : Fn) (first cap : Array Value) (w : World), (Instr.makeFunc fn first cap).run Try.prog w = .ok (.func fn first cap) w := fun _ _ _ _ => rfl
  have hsf := store_fn
  have hsn := store_nofn
  unfold halfF at e0 e1
  have HE1 := Lib.hid e1
  clear t0 t1 hl hl2 hx hy e1
  go_enter Try.func87, Try.ntmps87
  go_wp2_with (fail)
  (go_at_call 91; refine (K0.out _ (by (repeat' (first | (with_reducible exact Below.refl _ _) | (with_reducible refine Below.alloc ?_ ?_ _) | (with_reducible refine Below.drew ?_) | (with_reducible refine Below.setCell ?_ ?_ _) | (with_reducible refine bl_step ?_ (by assumption)) | go_size)))).mono ?_; rintro e w1 ⟨hb1, hans1⟩; obtain ⟨hc1, hf1, hz1⟩ := bl hb1; (try simp at hz1); (try (refine got (p := w.heap.size < w1.heap.size) ?_ ?_; (focus (go_size; done)); intro q1_w0)); (try (refine got (p := w1.cell? ⟨w.heap.size, 0, none⟩ = some (.string x)) ?_ ?_; (focus (refine (hc1 _ _ ?_).trans ?_; (focus (go_size; done)); go_simp; done)); intro c1_w0_0)); (try (refine got (p := w1.cell? ⟨w.heap.size, 1, none⟩ = some (.string y)) ?_ ?_; (focus (refine (hc1 _ _ ?_).trans ?_; (focus (go_size; done)); go_simp; done)); intro c1_w0_1)); (try (refine got (p := ∀ o, w1.frozen? ⟨w.heap.size, o, none⟩ = false) ?_ ?_; (focus (intro o; refine (hf1 _ _ ?_).trans ?_; (focus (go_size; done)); go_simp; done)); intro f1_w0)); clear hc1 hf1)
  have hbw1 : Below w.heap.size w w1 := by (repeat' (first | (with_reducible exact Below.refl _ _) | (with_reducible refine Below.alloc ?_ ?_ _) | (with_reducible refine Below.drew ?_) | (with_reducible refine Below.setCell ?_ ?_ _) | (with_reducible refine bl_step ?_ (by assumption)) | go_size))
  have HB1 := Lib.hid hbw1
  have e1 := keepc HE1.out hbw1
  have z1 : w.heap.size + 1 ≤ w1.heap.size := by have := hb1.size; simpa using this
  have q1' : c1 < w1.heap.size := by omega
  clear hbw1
  rcases hans1 with ⟨hf1, bh, be, rfl, hS1⟩ | ⟨hf1, rfl⟩
  · have HS1 := Lib.hid hS1
    unfold singF
    clear hS1
    go_wp2_with (fail)
    (go_at_call 91; refine (K1.out _ (by have := HB1.out; (repeat' (first | (with_reducible assumption) | (with_reducible exact Below.refl _ _) | (with_reducible refine Below.alloc ?_ ?_ _) | (with_reducible refine Below.drew ?_) | (with_reducible refine Below.setCell ?_ ?_ _) | (with_reducible refine below_gb ?_ (by assumption) ?_) | (with_reducible refine bl_step ?_ (by assumption)) | go_size)))).mono ?_; rintro e w2 ⟨hb2, hans2⟩; obtain ⟨hc2, hf2, hz2⟩ := bl hb2; (try simp at hz2); (try (refine got (p := w.heap.size < w2.heap.size) ?_ ?_; (focus (go_size; done)); intro q2_w0)); (try (refine got (p := w2.cell? ⟨w.heap.size, 0, none⟩ = some (.string x)) ?_ ?_; (focus (refine (hc2 _ _ ?_).trans ?_; (focus (go_size; done)); go_simp; done)); intro c2_w0_0)); (try (refine got (p := w2.cell? ⟨w.heap.size, 1, none⟩ = some (.string y)) ?_ ?_; (focus (refine (hc2 _ _ ?_).trans ?_; (focus (go_size; done)); go_simp; done)); intro c2_w0_1)); (try (refine got (p := ∀ o, w2.frozen? ⟨w.heap.size, o, none⟩ = false) ?_ ?_; (focus (intro o; refine (hf2 _ _ ?_).trans ?_; (focus (go_size; done)); go_simp; done)); intro f2_w0)); (try (refine got (p := w1.heap.size < w2.heap.size) ?_ ?_; (focus (go_size; done)); intro q2_w10)); (try (refine got (p := w2.cell? ⟨w1.heap.size, 0, none⟩ = some (.func (.func 92) #[] #[.pointer (some ⟨b1, 0, none⟩), .pointer (some ⟨bh, 0, none⟩), .pointer (some ⟨b0, 0, none⟩), .pointer (some ⟨be, 0, none⟩), .pointer (some ⟨b2, 0, none⟩)])) ?_ ?_; (focus (refine (hc2 _ _ ?_).trans ?_; (focus (go_size; done)); go_simp; done)); intro c2_w10_0)); (try (refine got (p := ∀ o, w2.frozen? ⟨w1.heap.size, o, none⟩ = false) ?_ ?_; (focus (intro o; refine (hf2 _ _ ?_).trans ?_; (focus (go_size; done)); go_simp; done)); intro f2_w10)); clear hc2 hf2)
    have hbw2 : Below w1.heap.size w1 w2 := by (repeat' (first | (with_reducible exact Below.refl _ _) | (with_reducible refine Below.alloc ?_ ?_ _) | (with_reducible refine Below.drew ?_) | (with_reducible refine Below.setCell ?_ ?_ _) | (with_reducible refine bl_step ?_ (by assumption)) | go_size))
    have HB2 := Lib.hid (bl_step HB1.out hbw2)
    have HS1 := Lib.hid (HS1.out.below hbw2)
    have z2 : w1.heap.size + 1 ≤ w2.heap.size := by have := hb2.size; simpa using this
    clear hbw2
    rcases hans2 with ⟨hf2, dh, de, rfl, hS2⟩ | ⟨hf2, rfl⟩
    · have HS2 := Lib.hid hS2
      unfold singF
      clear hS2
      go_wp2
      go_ret2
      have hb3 : Below w2.heap.size w2 (w2.alloc (.cells #[.func (.func 92) #[] #[.pointer (some ⟨a1, 0, none⟩), .pointer (some ⟨dh, 0, none⟩), .pointer (some ⟨a0, 0, none⟩), .pointer (some ⟨de, 0, none⟩), .pointer (some ⟨a2, 0, none⟩)]] 97)) := by (repeat' (first | (with_reducible exact Below.refl _ _) | (with_reducible refine Below.alloc ?_ ?_ _) | (with_reducible refine Below.drew ?_) | (with_reducible refine Below.setCell ?_ ?_ _) | (with_reducible refine bl_step ?_ (by assumption)) | go_size))
      refine ⟨bl_step HB2.out hb3, .inl ⟨hf1, by simpa using hf2, w.heap.size, w1.heap.size, w2.heap.size, rfl, ⟨?_, ⟨b0, b1, b2, bh, be, ?_, HS1.out.below hb3⟩, a0, a1, a2, dh, de, ?_, HS2.out.below hb3⟩⟩⟩
      · go_simp
      · unfold singF; go_simp
      · unfold singF; go_simp
    · go_wp2
      go_ret2
      exact ⟨by have := HB2.out; (repeat' (first | (with_reducible assumption) | (with_reducible exact Below.refl _ _) | (with_reducible refine Below.alloc ?_ ?_ _) | (with_reducible refine Below.drew ?_) | (with_reducible refine Below.setCell ?_ ?_ _) | (with_reducible refine below_gb ?_ (by assumption) ?_) | (with_reducible refine bl_step ?_ (by assumption)) | go_size)), .inr ⟨.inr (by simpa using hf2), rfl⟩⟩
  · go_wp2_with (fail)
    (go_at_call 91; refine (K1.out _ (by have := HB1.out; (repeat' (first | (with_reducible assumption) | (with_reducible exact Below.refl _ _) | (with_reducible refine Below.alloc ?_ ?_ _) | (with_reducible refine Below.drew ?_) | (with_reducible refine Below.setCell ?_ ?_ _) | (with_reducible refine below_gb ?_ (by assumption) ?_) | (with_reducible refine bl_step ?_ (by assumption)) | go_size)))).mono ?_; rintro e w2 ⟨hb2, hans2⟩; obtain ⟨hc2, hf2, hz2⟩ := bl hb2; (try simp at hz2); (try (refine got (p := w.heap.size < w2.heap.size) ?_ ?_; (focus (go_size; done)); intro q2_w0)); (try (refine got (p := w2.cell? ⟨w.heap.size, 0, none⟩ = some (.string x)) ?_ ?_; (focus (refine (hc2 _ _ ?_).trans ?_; (focus (go_size; done)); go_simp; done)); intro c2_w0_0)); (try (refine got (p := w2.cell? ⟨w.heap.size, 1, none⟩ = some (.string y)) ?_ ?_; (focus (refine (hc2 _ _ ?_).trans ?_; (focus (go_size; done)); go_simp; done)); intro c2_w0_1)); (try (refine got (p := ∀ o, w2.frozen? ⟨w.heap.size, o, none⟩ = false) ?_ ?_; (focus (intro o; refine (hf2 _ _ ?_).trans ?_; (focus (go_size; done)); go_simp; done)); intro f2_w0)); (try (refine got (p := w1.heap.size < w2.heap.size) ?_ ?_; (focus (go_size; done)); intro q2_w10)); (try (refine got (p := w2.cell? ⟨w1.heap.size, 0, none⟩ = some (Value.nilFunc)) ?_ ?_; (focus (refine (hc2 _ _ ?_).trans ?_; (focus (go_size; done)); go_simp; done)); intro c2_w10_0)); (try (refine got (p := ∀ o, w2.frozen? ⟨w1.heap.size, o, none⟩ = false) ?_ ?_; (focus (intro o; refine (hf2 _ _ ?_).trans ?_; (focus (go_size; done)); go_simp; done)); intro f2_w10)); clear hc2 hf2)
    have hbw2 : Below w1.heap.size w1 w2 := by (repeat' (first | (with_reducible exact Below.refl _ _) | (with_reducible refine Below.alloc ?_ ?_ _) | (with_reducible refine Below.drew ?_) | (with_reducible refine Below.setCell ?_ ?_ _) | (with_reducible refine bl_step ?_ (by assumption)) | go_size))
    have HB2 := Lib.hid (bl_step HB1.out hbw2)
    clear hbw2
    rcases hans2 with ⟨hf2, dh, de, rfl, hS2⟩ | ⟨hf2, rfl⟩
    · unfold singF
      clear hS2
      go_wp2
      go_ret2
      exact ⟨by have := HB2.out; (repeat' (first | (with_reducible assumption) | (with_reducible exact Below.refl _ _) | (with_reducible refine Below.alloc ?_ ?_ _) | (with_reducible refine Below.drew ?_) | (with_reducible refine Below.setCell ?_ ?_ _) | (with_reducible refine below_gb ?_ (by assumption) ?_) | (with_reducible refine bl_step ?_ (by assumption)) | go_size)), .inr ⟨.inl hf1, rfl⟩⟩
    · go_wp2
      go_ret2
      exact ⟨by have := HB2.out; (repeat' (first | (with_reducible assumption) | (with_reducible exact Below.refl _ _) | (with_reducible refine Below.alloc ?_ ?_ _) | (with_reducible refine Below.drew ?_) | (with_reducible refine Below.setCell ?_ ?_ _) | (with_reducible refine below_gb ?_ (by assumption) ?_) | (with_reducible refine bl_step ?_ (by assumption)) | go_size)), .inr ⟨.inl hf1, rfl⟩⟩

set_option maxHeartbeats 4000000 in
theorem psSing_any (bv d0 d1 : Nat) (p : Psa) (x y : ByteArray) (hx : x.size ≤ 1048577) (hy : y.size ≤ 1048577) (hl : p.st.length + p.mi.length ≤ x.size) (hl2 : p.en.length ≤ y.size) (i : Nat) (hi : i < x.size + y.size) (w : World) (h : PsSing w bv d0 d1 p x y) :
    Calls Try.prog 88 #[.int .i64 (i : Int), .pointer (some ⟨bv, 0, none⟩), .pointer (some ⟨d0, 0, none⟩), .pointer (some ⟨d1, 0, none⟩)] w
      fun e w' => e = .returned (ntv (if i < x.size then noH p.st p.tn p.mi x i else noH [] p.tn p.en y (i - x.size))) ∧ Below w.heap.size w w' := by
  obtain ⟨hv, ⟨b0, b1, b2, bh, be, e0, s0⟩, a0, a1, a2, ah, ae, e1, s1⟩ := h
  have q0 : bv < w.heap.size := World.block_lt_of_cell? w _ hv
  have q1 : d0 < w.heap.size := World.block_lt_of_cell? w _ e0
  have q2 : d1 < w.heap.size := World.block_lt_of_cell? w _ e1
  unfold singF at e0 e1
  by_cases hA : i < x.size
  · rw [if_pos hA]
    have K := Lib.hid (fun W (hb : Below w.heap.size w W) => singH_any b0 b1 b2 bh be p.st p.tn p.mi x hx hl i hA W (s0.below hb))
    have g1 : (i : Int) < (x.size : Int) := by omega
    have HN : Hid (∃ t b r c, ntv (noH p.st p.tn p.mi x i) = .agg #[.int .i64 t, .bool b, .int .i64 r, .bool c]) := ⟨_, _, _, _, rfl⟩
    obtain ⟨t, b, r, c, hn⟩ := HN.out
    rw [hn] at K ⊢
    clear s0 s1 hl hl2 hn HN
    go_enter Try.func88, Try.ntmps88
    go_wp2_with (fail)
    (go_at_call 92; refine (K.out _ (by (repeat' (first | (with_reducible exact Below.refl _ _) | (with_reducible refine Below.alloc ?_ ?_ _) | (with_reducible refine Below.drew ?_) | (with_reducible refine Below.setCell ?_ ?_ _) | (with_reducible refine bl_step ?_ (by assumption)) | go_size)))).mono ?_; rintro e w1 ⟨rfl, hb1⟩; obtain ⟨hc1, hf1, hz1⟩ := bl hb1; (try simp at hz1); (try (refine got (p := w.heap.size < w1.heap.size) ?_ ?_; (focus (go_size; done)); intro q1_w0)); (try (refine got (p := w1.cell? ⟨w.heap.size, 0, none⟩ = some (.int .i64 0)) ?_ ?_; (focus (refine (hc1 _ _ ?_).trans ?_; (focus (go_size; done)); go_simp; done)); intro c1_w0_0)); (try (refine got (p := w1.cell? ⟨w.heap.size, 1, none⟩ = some (.bool false)) ?_ ?_; (focus (refine (hc1 _ _ ?_).trans ?_; (focus (go_size; done)); go_simp; done)); intro c1_w0_1)); (try (refine got (p := w1.cell? ⟨w.heap.size, 2, none⟩ = some (.int .i64 0)) ?_ ?_; (focus (refine (hc1 _ _ ?_).trans ?_; (focus (go_size; done)); go_simp; done)); intro c1_w0_2)); (try (refine got (p := w1.cell? ⟨w.heap.size, 3, none⟩ = some (.bool false)) ?_ ?_; (focus (refine (hc1 _ _ ?_).trans ?_; (focus (go_size; done)); go_simp; done)); intro c1_w0_3)); (try (refine got (p := ∀ o, w1.frozen? ⟨w.heap.size, o, none⟩ = false) ?_ ?_; (focus (intro o; refine (hf1 _ _ ?_).trans ?_; (focus (go_size; done)); go_simp; done)); intro f1_w0)); clear hc1 hf1)
    go_wp2
    refine bodyPost_ret (v := .agg #[.int .i64 t, .bool b, .int .i64 r, .bool c]) (by simp only [results, Try.results88]; go_simp) rfl ⟨rfl, ?_⟩
    (repeat' (first | (with_reducible exact Below.refl _ _) | (with_reducible refine Below.alloc ?_ ?_ _) | (with_reducible refine Below.drew ?_) | (with_reducible refine Below.setCell ?_ ?_ _) | (with_reducible refine bl_step ?_ (by assumption)) | go_size))
  · rw [if_neg hA]
    obtain ⟨j, hj⟩ : ∃ j, i - x.size = j := ⟨_, rfl⟩
    rw [hj]
    have K := Lib.hid (fun W (hb : Below w.heap.size w W) => singH_any a0 a1 a2 ah ae [] p.tn p.en y hy (by simpa using hl2) j (by omega) W (s1.below hb))
    have g1 : decide ((i : Int) < (x.size : Int)) = false := decide_eq_false (by omega)
    have g2 : decide (i < x.size) = false := decide_eq_false hA
    have g3 : IntKind.i64.wrap ((i : Int) - (x.size : Int)) = (j : Int) := by rw [IntWalk.i64_in _ (by omega)]; omega
    have HN : Hid (∃ t b r c, ntv (noH [] p.tn p.en y j) = .agg #[.int .i64 t, .bool b, .int .i64 r, .bool c]) := ⟨_, _, _, _, rfl⟩
    obtain ⟨t, b, r, c, hn⟩ := HN.out
    rw [hn] at K ⊢
    clear s0 s1 hl hl2 hn HN hj
    go_enter Try.func88, Try.ntmps88
    go_wp2_with (fail)
    (go_at_call 92; refine (K.out _ (by (repeat' (first | (with_reducible exact Below.refl _ _) | (with_reducible refine Below.alloc ?_ ?_ _) | (with_reducible refine Below.drew ?_) | (with_reducible refine Below.setCell ?_ ?_ _) | (with_reducible refine bl_step ?_ (by assumption)) | go_size)))).mono ?_; rintro e w1 ⟨rfl, hb1⟩; obtain ⟨hc1, hf1, hz1⟩ := bl hb1; (try simp at hz1); (try (refine got (p := w.heap.size < w1.heap.size) ?_ ?_; (focus (go_size; done)); intro q1_w0)); (try (refine got (p := w1.cell? ⟨w.heap.size, 0, none⟩ = some (.int .i64 0)) ?_ ?_; (focus (refine (hc1 _ _ ?_).trans ?_; (focus (go_size; done)); go_simp; done)); intro c1_w0_0)); (try (refine got (p := w1.cell? ⟨w.heap.size, 1, none⟩ = some (.bool false)) ?_ ?_; (focus (refine (hc1 _ _ ?_).trans ?_; (focus (go_size; done)); go_simp; done)); intro c1_w0_1)); (try (refine got (p := w1.cell? ⟨w.heap.size, 2, none⟩ = some (.int .i64 0)) ?_ ?_; (focus (refine (hc1 _ _ ?_).trans ?_; (focus (go_size; done)); go_simp; done)); intro c1_w0_2)); (try (refine got (p := w1.cell? ⟨w.heap.size, 3, none⟩ = some (.bool false)) ?_ ?_; (focus (refine (hc1 _ _ ?_).trans ?_; (focus (go_size; done)); go_simp; done)); intro c1_w0_3)); (try (refine got (p := ∀ o, w1.frozen? ⟨w.heap.size, o, none⟩ = false) ?_ ?_; (focus (intro o; refine (hf1 _ _ ?_).trans ?_; (focus (go_size; done)); go_simp; done)); intro f1_w0)); clear hc1 hf1)
    go_wp2
    refine bodyPost_ret (v := .agg #[.int .i64 t, .bool b, .int .i64 r, .bool c]) (by simp only [results, Try.results88]; go_simp) rfl ⟨rfl, ?_⟩
    (repeat' (first | (with_reducible exact Below.refl _ _) | (with_reducible refine Below.alloc ?_ ?_ _) | (with_reducible refine Below.drew ?_) | (with_reducible refine Below.setCell ?_ ?_ _) | (with_reducible refine bl_step ?_ (by assumption)) | go_size))
end Go.Proofs.Ytcmcdomfmmjogaa
