/-
  The draw of a psalm tone and a verse.
-/
import Derived.Test.YtcmcdomfmmjogaaDpl
import Derived.Test.YtcmcdomfmmjogaaDrawV
import Derived.Test.YtcmcdomfmmjogaaCode
namespace Go.Proofs.Ytcmcdomfmmjogaa
open Go.RowKit
set_option maxRecDepth 100000
set_option linter.unusedVariables false

theorem TRow.drew_ {w : World} {lo hi : Nat} {v : Value} {xs : List (Int × Bool)} (h : TRow w lo hi v xs) : TRow w.drew lo hi v xs := h.keep fun k _ _ _ => rfl
theorem LV.keptB {w w' : World} {v : Value} {xs : List (Int × Bool)} {lo B : Nat} (h : TRow w lo w.heap.size v xs) (hg : w.grownBy w' (some B)) (hB : B < lo) : LV w' v xs := ⟨_, _, h.keptB hg hB⟩
/-- a psalm tone and a text of a draw, and the reader -/
def SgPicked (B A q : Nat) (w : World) (e : Ending) (w' : World) : Prop :=
  ∃ (v0 v1 v2 : Value) (p : Psa) (s : ByteArray), e = .returned (.tuple #[.agg #[v0, .int .i64 p.tn.1, .bool p.tn.2, v1, v2], .string s]) ∧ TRow w' w.heap.size w'.heap.size v0 p.st ∧ TRow w' w.heap.size w'.heap.size v1 p.mi ∧ TRow w' w.heap.size w'.heap.size v2 p.en ∧ p.st.length ≤ 6 ∧ p.mi.length ≤ 6 ∧ p.en.length ≤ 6 ∧ s.size ≤ 40 ∧ w.grownBy w' (some B)

set_option maxHeartbeats 1500000 in
theorem l91Sing_any (B A q : Nat) (hq : q ≤ 700000) (w : World) (h : Rd w B A q) :
    Calls Try.prog 46 #[.pointer (some ⟨B, 0, none⟩)] w (SgPicked B A q w) := by
  have hB := h.lt
  have hA := h.ltA
  have hw0 : Below w.heap.size w (w.alloc (.cells #[.slice none 0 0, .int .i64 0, .bool false, .slice none 0 0, .slice none 0 0] 27)) := (Below.refl _ _).alloc (Nat.le_refl _) _
  go_enter Try.func46, Try.ntmps46
  go_wp2_with (fail)
  (go_at_call 75; refine (l91Psalm_any B A q (by omega) _ (h.alloc _)).mono ?_; rintro e w1 ⟨v0, v1, v2, p, rfl, t0, t1, t2, m0, m1, m2, hr1, hb1⟩; obtain ⟨hc1, hf1, hz1⟩ := bg hb1; (try simp at hz1); (try (refine got (p := w.heap.size < w1.heap.size) ?_ ?_; (focus (go_size; done)); intro q1_w0)); (try (refine got (p := w1.cell? ⟨w.heap.size, 0, none⟩ = some (.slice none 0 0)) ?_ ?_; (focus (refine (hc1 _ _ ?_ ?_).trans ?_; (focus (go_size; done)); (focus (first | omega | (simp; omega))); go_simp; done)); intro c1_w0_0)); (try (refine got (p := w1.cell? ⟨w.heap.size, 1, none⟩ = some (.int .i64 0)) ?_ ?_; (focus (refine (hc1 _ _ ?_ ?_).trans ?_; (focus (go_size; done)); (focus (first | omega | (simp; omega))); go_simp; done)); intro c1_w0_1)); (try (refine got (p := w1.cell? ⟨w.heap.size, 2, none⟩ = some (.bool false)) ?_ ?_; (focus (refine (hc1 _ _ ?_ ?_).trans ?_; (focus (go_size; done)); (focus (first | omega | (simp; omega))); go_simp; done)); intro c1_w0_2)); (try (refine got (p := w1.cell? ⟨w.heap.size, 3, none⟩ = some (.slice none 0 0)) ?_ ?_; (focus (refine (hc1 _ _ ?_ ?_).trans ?_; (focus (go_size; done)); (focus (first | omega | (simp; omega))); go_simp; done)); intro c1_w0_3)); (try (refine got (p := w1.cell? ⟨w.heap.size, 4, none⟩ = some (.slice none 0 0)) ?_ ?_; (focus (refine (hc1 _ _ ?_ ?_).trans ?_; (focus (go_size; done)); (focus (first | omega | (simp; omega))); go_simp; done)); intro c1_w0_4)); (try (refine got (p := ∀ o, w1.frozen? ⟨w.heap.size, o, none⟩ = false) ?_ ?_; (focus (intro o; refine (hf1 _ _ ?_ ?_).trans ?_; (focus (go_size; done)); (focus (first | omega | (simp; omega))); go_simp; done)); intro f1_w0)); clear hc1 hf1)
  have z1 : w.heap.size + 1 ≤ w1.heap.size := by have := hb1.size; simpa using this
  have hg1 : w.grownBy w1 (some B) := gb_step (gb_alloc (gb_refl _ _) _) hb1
  obtain ⟨a0, c0, rfl, _, _⟩ := (LV.sl ⟨_, _, t0⟩)
  obtain ⟨a1, c1, rfl, _, _⟩ := (LV.sl ⟨_, _, t1⟩)
  obtain ⟨a2, c2, rfl, _, _⟩ := (LV.sl ⟨_, _, t2⟩)
  have t0 : TRow w1 (w.heap.size + 1) w1.heap.size (.slice a0 p.st.length c0) p.st := by simpa using t0
  have t1 : TRow w1 (w.heap.size + 1) w1.heap.size (.slice a1 p.mi.length c1) p.mi := by simpa using t1
  have t2 : TRow w1 (w.heap.size + 1) w1.heap.size (.slice a2 p.en.length c2) p.en := by simpa using t2
  have T0 := Lib.hid t0
  have T1 := Lib.hid t1
  have T2 := Lib.hid t2
  have HM : Hid (p.st.length ≤ 6 ∧ p.mi.length ≤ 6 ∧ p.en.length ≤ 6) := ⟨m0, m1, m2⟩
  clear hb1 t0 t1 t2 m0 m1 m2
  have HFIN : Hid (∀ (s : ByteArray) W, s.size ≤ 40 → w1.heap.size ≤ W.heap.size → TRow W (w.heap.size + 1) w1.heap.size (.slice a0 p.st.length c0) p.st → TRow W (w.heap.size + 1) w1.heap.size (.slice a1 p.mi.length c1) p.mi → TRow W (w.heap.size + 1) w1.heap.size (.slice a2 p.en.length c2) p.en → w.grownBy W (some B) →
      SgPicked B A q w (.returned (.tuple #[.agg #[.slice a0 p.st.length c0, .int .i64 p.tn.1, .bool p.tn.2, .slice a1 p.mi.length c1, .slice a2 p.en.length c2], .string s])) W) := fun s W hs hz h0 h1 h2 hg =>
    ⟨_, _, _, p, s, rfl, h0.lohi (by omega) hz, h1.lohi (by omega) hz, h2.lohi (by omega) hz, HM.out.1, HM.out.2.1, HM.out.2.2, hs, hg⟩
  obtain ⟨n0, hn0⟩ : ∃ n, p.st.length = n := ⟨_, rfl⟩
  obtain ⟨n1, hn1⟩ : ∃ n, p.mi.length = n := ⟨_, rfl⟩
  obtain ⟨n2, hn2⟩ : ∃ n, p.en.length = n := ⟨_, rfl⟩
  obtain ⟨ts, hts⟩ : ∃ n, p.tn.1 = n := ⟨_, rfl⟩
  obtain ⟨tb, htb⟩ : ∃ n, p.tn.2 = n := ⟨_, rfl⟩
  rw [hn0] at T0 HFIN ⊢
  rw [hn1] at T1 HFIN ⊢
  rw [hn2] at T2 HFIN ⊢
  rw [hts, htb] at HFIN ⊢
  clear hn0 hn1 hn2 hts htb
  go_wp2_with (fail)
  go_region_with ((go_at_call 60; refine (l91Verse_any B A (q + 60) ?_ _ ?_).mono ?_; (focus omega); (focus ((repeat' (first | (with_reducible refine Rd.set_ ?_ ?_ ?_ _) | (with_reducible refine Rd.alloc ?_ _) | (with_reducible refine Rd.drew ?_) | (refine Rd.more (by assumption) ?_; (first | omega | (simp; omega))) | (show _ ≠ _; (first | omega | (simp; omega))))); done)); rintro e w2 ⟨s, rfl, hs, hr2, hb2⟩; obtain ⟨hc2, hf2, hz2⟩ := bg hb2; (try simp at hz2); (try (refine got (p := w.heap.size < w2.heap.size) ?_ ?_; (focus (go_size; done)); intro q2_w0)); (try (refine got (p := w2.cell? ⟨w.heap.size, 0, none⟩ = some (.slice none 0 0)) ?_ ?_; (focus (refine (hc2 _ _ ?_ ?_).trans ?_; (focus (go_size; done)); (focus (first | omega | (simp; omega))); go_simp; done)); intro c2_w0_0)); (try (refine got (p := w2.cell? ⟨w.heap.size, 1, none⟩ = some (.int .i64 0)) ?_ ?_; (focus (refine (hc2 _ _ ?_ ?_).trans ?_; (focus (go_size; done)); (focus (first | omega | (simp; omega))); go_simp; done)); intro c2_w0_1)); (try (refine got (p := w2.cell? ⟨w.heap.size, 2, none⟩ = some (.bool false)) ?_ ?_; (focus (refine (hc2 _ _ ?_ ?_).trans ?_; (focus (go_size; done)); (focus (first | omega | (simp; omega))); go_simp; done)); intro c2_w0_2)); (try (refine got (p := w2.cell? ⟨w.heap.size, 3, none⟩ = some (.slice none 0 0)) ?_ ?_; (focus (refine (hc2 _ _ ?_ ?_).trans ?_; (focus (go_size; done)); (focus (first | omega | (simp; omega))); go_simp; done)); intro c2_w0_3)); (try (refine got (p := w2.cell? ⟨w.heap.size, 4, none⟩ = some (.slice none 0 0)) ?_ ?_; (focus (refine (hc2 _ _ ?_ ?_).trans ?_; (focus (go_size; done)); (focus (first | omega | (simp; omega))); go_simp; done)); intro c2_w0_4)); (try (refine got (p := ∀ o, w2.frozen? ⟨w.heap.size, o, none⟩ = false) ?_ ?_; (focus (intro o; refine (hf2 _ _ ?_ ?_).trans ?_; (focus (go_size; done)); (focus (first | omega | (simp; omega))); go_simp; done)); intro f2_w0)); (try (refine got (p := w.heap.size < w2.heap.size) ?_ ?_; (focus (go_size; done)); intro q2_w0)); (try (refine got (p := w2.cell? ⟨w.heap.size, 0, none⟩ = some (.slice a0 n0 c0)) ?_ ?_; (focus (refine (hc2 _ _ ?_ ?_).trans ?_; (focus (go_size; done)); (focus (first | omega | (simp; omega))); go_simp; done)); intro c2_w0_0)); (try (refine got (p := w2.cell? ⟨w.heap.size, 1, none⟩ = some (.int .i64 ts)) ?_ ?_; (focus (refine (hc2 _ _ ?_ ?_).trans ?_; (focus (go_size; done)); (focus (first | omega | (simp; omega))); go_simp; done)); intro c2_w0_1)); (try (refine got (p := w2.cell? ⟨w.heap.size, 2, none⟩ = some (.bool tb)) ?_ ?_; (focus (refine (hc2 _ _ ?_ ?_).trans ?_; (focus (go_size; done)); (focus (first | omega | (simp; omega))); go_simp; done)); intro c2_w0_2)); (try (refine got (p := w2.cell? ⟨w.heap.size, 3, none⟩ = some (.slice a1 n1 c1)) ?_ ?_; (focus (refine (hc2 _ _ ?_ ?_).trans ?_; (focus (go_size; done)); (focus (first | omega | (simp; omega))); go_simp; done)); intro c2_w0_3)); (try (refine got (p := w2.cell? ⟨w.heap.size, 4, none⟩ = some (.slice a2 n2 c2)) ?_ ?_; (focus (refine (hc2 _ _ ?_ ?_).trans ?_; (focus (go_size; done)); (focus (first | omega | (simp; omega))); go_simp; done)); intro c2_w0_4)); (try (refine got (p := ∀ o, w2.frozen? ⟨w.heap.size, o, none⟩ = false) ?_ ?_; (focus (intro o; refine (hf2 _ _ ?_ ?_).trans ?_; (focus (go_size; done)); (focus (first | omega | (simp; omega))); go_simp; done)); intro f2_w0)); (try (refine got (p := w1.heap.size < w2.heap.size) ?_ ?_; (focus (go_size; done)); intro q2_w10)); (try (refine got (p := w2.cell? ⟨w1.heap.size, 0, none⟩ = some (.slice a0 n0 c0)) ?_ ?_; (focus (refine (hc2 _ _ ?_ ?_).trans ?_; (focus (go_size; done)); (focus (first | omega | (simp; omega))); go_simp; done)); intro c2_w10_0)); (try (refine got (p := w2.cell? ⟨w1.heap.size, 1, none⟩ = some (.int .i64 ts)) ?_ ?_; (focus (refine (hc2 _ _ ?_ ?_).trans ?_; (focus (go_size; done)); (focus (first | omega | (simp; omega))); go_simp; done)); intro c2_w10_1)); (try (refine got (p := w2.cell? ⟨w1.heap.size, 2, none⟩ = some (.bool tb)) ?_ ?_; (focus (refine (hc2 _ _ ?_ ?_).trans ?_; (focus (go_size; done)); (focus (first | omega | (simp; omega))); go_simp; done)); intro c2_w10_2)); (try (refine got (p := w2.cell? ⟨w1.heap.size, 3, none⟩ = some (.slice a1 n1 c1)) ?_ ?_; (focus (refine (hc2 _ _ ?_ ?_).trans ?_; (focus (go_size; done)); (focus (first | omega | (simp; omega))); go_simp; done)); intro c2_w10_3)); (try (refine got (p := w2.cell? ⟨w1.heap.size, 4, none⟩ = some (.slice a2 n2 c2)) ?_ ?_; (focus (refine (hc2 _ _ ?_ ?_).trans ?_; (focus (go_size; done)); (focus (first | omega | (simp; omega))); go_simp; done)); intro c2_w10_4)); (try (refine got (p := ∀ o, w2.frozen? ⟨w1.heap.size, o, none⟩ = false) ?_ ?_; (focus (intro o; refine (hf2 _ _ ?_ ?_).trans ?_; (focus (go_size; done)); (focus (first | omega | (simp; omega))); go_simp; done)); intro f2_w10)); clear hc2 hf2); (have z2 : w1.heap.size + 1 ≤ w2.heap.size := by have := hb2.size; simpa using this))
  all_goals
    go_wp2
    refine bodyPost_ret (v := .tuple #[.agg #[.slice a0 n0 c0, .int .i64 ts, .bool tb, .slice a1 n1 c1, .slice a2 n2 c2], .string s]) (by simp only [results, Try.results46]; go_simp) rfl ?_
    refine HFIN.out s _ hs (by first | (simp [World.setCell]; done) | (simp [World.setCell]; omega)) ?_ ?_ ?_ ?_
    · (repeat (first | (with_reducible exact T0.out) | (with_reducible refine TRow.set2 ?_ (by omega)) | (with_reducible refine TRow.keptB ?_ hb2 (by omega)) | (with_reducible refine TRow.below2 ?_ ((Below.refl _ _).alloc (Nat.le_refl _) _)) | (with_reducible refine TRow.drew_ ?_)))
    · (repeat (first | (with_reducible exact T1.out) | (with_reducible refine TRow.set2 ?_ (by omega)) | (with_reducible refine TRow.keptB ?_ hb2 (by omega)) | (with_reducible refine TRow.below2 ?_ ((Below.refl _ _).alloc (Nat.le_refl _) _)) | (with_reducible refine TRow.drew_ ?_)))
    · (repeat (first | (with_reducible exact T2.out) | (with_reducible refine TRow.set2 ?_ (by omega)) | (with_reducible refine TRow.keptB ?_ hb2 (by omega)) | (with_reducible refine TRow.below2 ?_ ((Below.refl _ _).alloc (Nat.le_refl _) _)) | (with_reducible refine TRow.drew_ ?_)))
    · (repeat' (first | (with_reducible exact gb_refl _ _) | (with_reducible refine gb_alloc ?_ _) | (with_reducible refine gb_drew ?_) | (with_reducible refine gb_set ?_ ?_ _) | (with_reducible refine gb_step ?_ (by assumption)) | (with_reducible refine gb_bl ?_ (by assumption)) | (left; rfl) | (right; go_size) | go_size))

/-- a psalm tone and a text of a draw -/
def DrewSg (w : World) (e : Ending) (w' : World) : Prop :=
  ∃ (v : Value) (p : Psa) (s : ByteArray), e = .returned (.tuple #[v, .string s]) ∧ PV w' v p ∧ p.st.length ≤ 6 ∧ p.mi.length ≤ 6 ∧ p.en.length ≤ 6 ∧ s.size ≤ 40 ∧ Below w.heap.size w w'

set_option maxHeartbeats 1500000 in
theorem drawPsalmFits_any (a : Option Addr) (n cap : Nat) (w : World) (h : CodeAt w a n) (hc : n ≤ cap) (hcap : cap ≤ maxLen) :
    Calls Try.prog 24 #[.slice a n cap] w (DrewSg w) := by
  go_enter Try.func24, Try.ntmps24
  go_wp2_with (fail)
  (go_at_call 47; refine (open_any a n cap _ (h.alloc _) hc hcap).mono ?_; rintro e w1 ⟨A, rfl, hr1, hb1, hs1⟩; obtain ⟨hc1, hf1, hz1⟩ := bl hb1; (try simp at hz1); (try (refine got (p := w.heap.size < w1.heap.size) ?_ ?_; (focus (go_size; done)); intro q1_w0)); (try (refine got (p := w1.cell? ⟨w.heap.size, 0, none⟩ = some (.slice none 0 0)) ?_ ?_; (focus (refine (hc1 _ _ ?_).trans ?_; (focus (go_size; done)); go_simp; done)); intro c1_w0_0)); (try (refine got (p := w1.cell? ⟨w.heap.size, 1, none⟩ = some (.int .i64 0)) ?_ ?_; (focus (refine (hc1 _ _ ?_).trans ?_; (focus (go_size; done)); go_simp; done)); intro c1_w0_1)); (try (refine got (p := w1.cell? ⟨w.heap.size, 2, none⟩ = some (.bool false)) ?_ ?_; (focus (refine (hc1 _ _ ?_).trans ?_; (focus (go_size; done)); go_simp; done)); intro c1_w0_2)); (try (refine got (p := w1.cell? ⟨w.heap.size, 3, none⟩ = some (.slice none 0 0)) ?_ ?_; (focus (refine (hc1 _ _ ?_).trans ?_; (focus (go_size; done)); go_simp; done)); intro c1_w0_3)); (try (refine got (p := w1.cell? ⟨w.heap.size, 4, none⟩ = some (.slice none 0 0)) ?_ ?_; (focus (refine (hc1 _ _ ?_).trans ?_; (focus (go_size; done)); go_simp; done)); intro c1_w0_4)); (try (refine got (p := ∀ o, w1.frozen? ⟨w.heap.size, o, none⟩ = false) ?_ ?_; (focus (intro o; refine (hf1 _ _ ?_).trans ?_; (focus (go_size; done)); go_simp; done)); intro f1_w0)); clear hc1 hf1)
  have hr1 : Rd w1 (w.heap.size + 1) A 0 := by simpa using hr1
  have hB := hr1.lt
  have hbw1 : Below w.heap.size w w1 := bl_step ((Below.refl _ _).alloc (Nat.le_refl _) _) hb1
  have z1 : w.heap.size + 1 ≤ w1.heap.size := by have := hb1.size; simpa using this
  clear hb1
  go_wp2_with (fail)
  (go_at_call 46; refine (l91Sing_any (w.heap.size + 1) A 0 (by omega) _ hr1).mono ?_; rintro e w2 ⟨v0, v1, v2, p, s, rfl, t0, t1, t2, m0, m1, m2, hs, hb2⟩; obtain ⟨hc2, hf2, hz2⟩ := bg hb2; (try simp at hz2); (try (refine got (p := w.heap.size < w2.heap.size) ?_ ?_; (focus (go_size; done)); intro q2_w0)); (try (refine got (p := w2.cell? ⟨w.heap.size, 0, none⟩ = some (.slice none 0 0)) ?_ ?_; (focus (refine (hc2 _ _ ?_ ?_).trans ?_; (focus (go_size; done)); (focus (first | omega | (simp; omega))); go_simp; done)); intro c2_w0_0)); (try (refine got (p := w2.cell? ⟨w.heap.size, 1, none⟩ = some (.int .i64 0)) ?_ ?_; (focus (refine (hc2 _ _ ?_ ?_).trans ?_; (focus (go_size; done)); (focus (first | omega | (simp; omega))); go_simp; done)); intro c2_w0_1)); (try (refine got (p := w2.cell? ⟨w.heap.size, 2, none⟩ = some (.bool false)) ?_ ?_; (focus (refine (hc2 _ _ ?_ ?_).trans ?_; (focus (go_size; done)); (focus (first | omega | (simp; omega))); go_simp; done)); intro c2_w0_2)); (try (refine got (p := w2.cell? ⟨w.heap.size, 3, none⟩ = some (.slice none 0 0)) ?_ ?_; (focus (refine (hc2 _ _ ?_ ?_).trans ?_; (focus (go_size; done)); (focus (first | omega | (simp; omega))); go_simp; done)); intro c2_w0_3)); (try (refine got (p := w2.cell? ⟨w.heap.size, 4, none⟩ = some (.slice none 0 0)) ?_ ?_; (focus (refine (hc2 _ _ ?_ ?_).trans ?_; (focus (go_size; done)); (focus (first | omega | (simp; omega))); go_simp; done)); intro c2_w0_4)); (try (refine got (p := ∀ o, w2.frozen? ⟨w.heap.size, o, none⟩ = false) ?_ ?_; (focus (intro o; refine (hf2 _ _ ?_ ?_).trans ?_; (focus (go_size; done)); (focus (first | omega | (simp; omega))); go_simp; done)); intro f2_w0)); clear hc2 hf2)
  have hbw2 : Below w.heap.size w w2 := below_gb hbw1 hb2 (by omega)
  have z2 := hb2.size
  obtain ⟨a0, c0, rfl, _, _⟩ := (LV.sl ⟨_, _, t0⟩)
  obtain ⟨a1, c1, rfl, _, _⟩ := (LV.sl ⟨_, _, t1⟩)
  obtain ⟨a2, c2, rfl, _, _⟩ := (LV.sl ⟨_, _, t2⟩)
  have T0 := Lib.hid t0
  have T1 := Lib.hid t1
  have T2 := Lib.hid t2
  have HB2 := Lib.hid hbw2
  have HF : Hid (p.st.length ≤ 6 ∧ p.mi.length ≤ 6 ∧ p.en.length ≤ 6) := ⟨m0, m1, m2⟩
  clear hb2 hbw1 hbw2 hr1 m0 m1 m2 hs1 t0 t1 t2
  have HFIN : Hid (∀ W, TRow W w1.heap.size w2.heap.size (.slice a0 p.st.length c0) p.st → TRow W w1.heap.size w2.heap.size (.slice a1 p.mi.length c1) p.mi → TRow W w1.heap.size w2.heap.size (.slice a2 p.en.length c2) p.en → Below w.heap.size w W → DrewSg w (.returned (.tuple #[.agg #[.slice a0 p.st.length c0, .int .i64 p.tn.1, .bool p.tn.2, .slice a1 p.mi.length c1, .slice a2 p.en.length c2], .string s])) W) :=
    fun W h0 h1 h2 hb => ⟨_, p, s, rfl, ⟨_, _, _, rfl, ⟨_, _, h0⟩, ⟨_, _, h1⟩, ⟨_, _, h2⟩⟩, HF.out.1, HF.out.2.1, HF.out.2.2, hs, hb⟩
  generalize p.st.length = n0 at *
  generalize p.mi.length = n1 at *
  generalize p.en.length = n2 at *
  generalize p.tn.1 = ts at *
  generalize p.tn.2 = tb at *
  go_wp2
  refine bodyPost_ret (v := .tuple #[.agg #[.slice a0 n0 c0, .int .i64 ts, .bool tb, .slice a1 n1 c1, .slice a2 n2 c2], .string s]) (by simp only [results, Try.results24]; go_simp) rfl ?_
  refine HFIN.out _ ?_ ?_ ?_ (by have := HB2.out; (repeat' (first | (with_reducible assumption) | (with_reducible exact Below.refl _ _) | (with_reducible refine Below.alloc ?_ ?_ _) | (with_reducible refine Below.drew ?_) | (with_reducible refine Below.setCell ?_ ?_ _) | (with_reducible refine below_gb ?_ (by assumption) ?_) | (with_reducible refine bl_step ?_ (by assumption)) | go_size)))
  · repeat (with_reducible refine TRow.set2 ?_ (by omega))
    exact T0.out
  · repeat (with_reducible refine TRow.set2 ?_ (by omega))
    exact T1.out
  · repeat (with_reducible refine TRow.set2 ?_ (by omega))
    exact T2.out

set_option maxHeartbeats 1500000 in
theorem drawPsalmSing_any (a : Option Addr) (n cap : Nat) (w : World) (h : CodeAt w a n) (hc : n ≤ cap) (hcap : cap ≤ maxLen) :
    Calls Try.prog 14 #[.slice a n cap] w (DrewSg w) := by
  go_enter Try.func14, Try.ntmps14
  go_wp2_with (fail)
  (go_at_call 47; refine (open_any a n cap _ (h.alloc _) hc hcap).mono ?_; rintro e w1 ⟨A, rfl, hr1, hb1, hs1⟩; obtain ⟨hc1, hf1, hz1⟩ := bl hb1; (try simp at hz1); (try (refine got (p := w.heap.size < w1.heap.size) ?_ ?_; (focus (go_size; done)); intro q1_w0)); (try (refine got (p := w1.cell? ⟨w.heap.size, 0, none⟩ = some (.slice none 0 0)) ?_ ?_; (focus (refine (hc1 _ _ ?_).trans ?_; (focus (go_size; done)); go_simp; done)); intro c1_w0_0)); (try (refine got (p := w1.cell? ⟨w.heap.size, 1, none⟩ = some (.int .i64 0)) ?_ ?_; (focus (refine (hc1 _ _ ?_).trans ?_; (focus (go_size; done)); go_simp; done)); intro c1_w0_1)); (try (refine got (p := w1.cell? ⟨w.heap.size, 2, none⟩ = some (.bool false)) ?_ ?_; (focus (refine (hc1 _ _ ?_).trans ?_; (focus (go_size; done)); go_simp; done)); intro c1_w0_2)); (try (refine got (p := w1.cell? ⟨w.heap.size, 3, none⟩ = some (.slice none 0 0)) ?_ ?_; (focus (refine (hc1 _ _ ?_).trans ?_; (focus (go_size; done)); go_simp; done)); intro c1_w0_3)); (try (refine got (p := w1.cell? ⟨w.heap.size, 4, none⟩ = some (.slice none 0 0)) ?_ ?_; (focus (refine (hc1 _ _ ?_).trans ?_; (focus (go_size; done)); go_simp; done)); intro c1_w0_4)); (try (refine got (p := ∀ o, w1.frozen? ⟨w.heap.size, o, none⟩ = false) ?_ ?_; (focus (intro o; refine (hf1 _ _ ?_).trans ?_; (focus (go_size; done)); go_simp; done)); intro f1_w0)); clear hc1 hf1)
  have hr1 : Rd w1 (w.heap.size + 1) A 0 := by simpa using hr1
  have hB := hr1.lt
  have hbw1 : Below w.heap.size w w1 := bl_step ((Below.refl _ _).alloc (Nat.le_refl _) _) hb1
  have z1 : w.heap.size + 1 ≤ w1.heap.size := by have := hb1.size; simpa using this
  clear hb1
  go_wp2_with (fail)
  (go_at_call 46; refine (l91Sing_any (w.heap.size + 1) A 0 (by omega) _ hr1).mono ?_; rintro e w2 ⟨v0, v1, v2, p, s, rfl, t0, t1, t2, m0, m1, m2, hs, hb2⟩; obtain ⟨hc2, hf2, hz2⟩ := bg hb2; (try simp at hz2); (try (refine got (p := w.heap.size < w2.heap.size) ?_ ?_; (focus (go_size; done)); intro q2_w0)); (try (refine got (p := w2.cell? ⟨w.heap.size, 0, none⟩ = some (.slice none 0 0)) ?_ ?_; (focus (refine (hc2 _ _ ?_ ?_).trans ?_; (focus (go_size; done)); (focus (first | omega | (simp; omega))); go_simp; done)); intro c2_w0_0)); (try (refine got (p := w2.cell? ⟨w.heap.size, 1, none⟩ = some (.int .i64 0)) ?_ ?_; (focus (refine (hc2 _ _ ?_ ?_).trans ?_; (focus (go_size; done)); (focus (first | omega | (simp; omega))); go_simp; done)); intro c2_w0_1)); (try (refine got (p := w2.cell? ⟨w.heap.size, 2, none⟩ = some (.bool false)) ?_ ?_; (focus (refine (hc2 _ _ ?_ ?_).trans ?_; (focus (go_size; done)); (focus (first | omega | (simp; omega))); go_simp; done)); intro c2_w0_2)); (try (refine got (p := w2.cell? ⟨w.heap.size, 3, none⟩ = some (.slice none 0 0)) ?_ ?_; (focus (refine (hc2 _ _ ?_ ?_).trans ?_; (focus (go_size; done)); (focus (first | omega | (simp; omega))); go_simp; done)); intro c2_w0_3)); (try (refine got (p := w2.cell? ⟨w.heap.size, 4, none⟩ = some (.slice none 0 0)) ?_ ?_; (focus (refine (hc2 _ _ ?_ ?_).trans ?_; (focus (go_size; done)); (focus (first | omega | (simp; omega))); go_simp; done)); intro c2_w0_4)); (try (refine got (p := ∀ o, w2.frozen? ⟨w.heap.size, o, none⟩ = false) ?_ ?_; (focus (intro o; refine (hf2 _ _ ?_ ?_).trans ?_; (focus (go_size; done)); (focus (first | omega | (simp; omega))); go_simp; done)); intro f2_w0)); clear hc2 hf2)
  have hbw2 : Below w.heap.size w w2 := below_gb hbw1 hb2 (by omega)
  have z2 := hb2.size
  obtain ⟨a0, c0, rfl, _, _⟩ := (LV.sl ⟨_, _, t0⟩)
  obtain ⟨a1, c1, rfl, _, _⟩ := (LV.sl ⟨_, _, t1⟩)
  obtain ⟨a2, c2, rfl, _, _⟩ := (LV.sl ⟨_, _, t2⟩)
  have T0 := Lib.hid t0
  have T1 := Lib.hid t1
  have T2 := Lib.hid t2
  have HB2 := Lib.hid hbw2
  have HF : Hid (p.st.length ≤ 6 ∧ p.mi.length ≤ 6 ∧ p.en.length ≤ 6) := ⟨m0, m1, m2⟩
  clear hb2 hbw1 hbw2 hr1 m0 m1 m2 hs1 t0 t1 t2
  have HFIN : Hid (∀ W, TRow W w1.heap.size w2.heap.size (.slice a0 p.st.length c0) p.st → TRow W w1.heap.size w2.heap.size (.slice a1 p.mi.length c1) p.mi → TRow W w1.heap.size w2.heap.size (.slice a2 p.en.length c2) p.en → Below w.heap.size w W → DrewSg w (.returned (.tuple #[.agg #[.slice a0 p.st.length c0, .int .i64 p.tn.1, .bool p.tn.2, .slice a1 p.mi.length c1, .slice a2 p.en.length c2], .string s])) W) :=
    fun W h0 h1 h2 hb => ⟨_, p, s, rfl, ⟨_, _, _, rfl, ⟨_, _, h0⟩, ⟨_, _, h1⟩, ⟨_, _, h2⟩⟩, HF.out.1, HF.out.2.1, HF.out.2.2, hs, hb⟩
  generalize p.st.length = n0 at *
  generalize p.mi.length = n1 at *
  generalize p.en.length = n2 at *
  generalize p.tn.1 = ts at *
  generalize p.tn.2 = tb at *
  go_wp2
  refine bodyPost_ret (v := .tuple #[.agg #[.slice a0 n0 c0, .int .i64 ts, .bool tb, .slice a1 n1 c1, .slice a2 n2 c2], .string s]) (by simp only [results, Try.results14]; go_simp) rfl ?_
  refine HFIN.out _ ?_ ?_ ?_ (by have := HB2.out; (repeat' (first | (with_reducible assumption) | (with_reducible exact Below.refl _ _) | (with_reducible refine Below.alloc ?_ ?_ _) | (with_reducible refine Below.drew ?_) | (with_reducible refine Below.setCell ?_ ?_ _) | (with_reducible refine below_gb ?_ (by assumption) ?_) | (with_reducible refine bl_step ?_ (by assumption)) | go_size)))
  · repeat (with_reducible refine TRow.set2 ?_ (by omega))
    exact T0.out
  · repeat (with_reducible refine TRow.set2 ?_ (by omega))
    exact T1.out
  · repeat (with_reducible refine TRow.set2 ?_ (by omega))
    exact T2.out

set_option maxHeartbeats 1500000 in
theorem drawPsalmTenors_any (a : Option Addr) (n cap : Nat) (w : World) (h : CodeAt w a n) (hc : n ≤ cap) (hcap : cap ≤ maxLen) :
    Calls Try.prog 21 #[.slice a n cap] w (DrewSg w) := by
  go_enter Try.func21, Try.ntmps21
  go_wp2_with (fail)
  (go_at_call 47; refine (open_any a n cap _ (h.alloc _) hc hcap).mono ?_; rintro e w1 ⟨A, rfl, hr1, hb1, hs1⟩; obtain ⟨hc1, hf1, hz1⟩ := bl hb1; (try simp at hz1); (try (refine got (p := w.heap.size < w1.heap.size) ?_ ?_; (focus (go_size; done)); intro q1_w0)); (try (refine got (p := w1.cell? ⟨w.heap.size, 0, none⟩ = some (.slice none 0 0)) ?_ ?_; (focus (refine (hc1 _ _ ?_).trans ?_; (focus (go_size; done)); go_simp; done)); intro c1_w0_0)); (try (refine got (p := w1.cell? ⟨w.heap.size, 1, none⟩ = some (.int .i64 0)) ?_ ?_; (focus (refine (hc1 _ _ ?_).trans ?_; (focus (go_size; done)); go_simp; done)); intro c1_w0_1)); (try (refine got (p := w1.cell? ⟨w.heap.size, 2, none⟩ = some (.bool false)) ?_ ?_; (focus (refine (hc1 _ _ ?_).trans ?_; (focus (go_size; done)); go_simp; done)); intro c1_w0_2)); (try (refine got (p := w1.cell? ⟨w.heap.size, 3, none⟩ = some (.slice none 0 0)) ?_ ?_; (focus (refine (hc1 _ _ ?_).trans ?_; (focus (go_size; done)); go_simp; done)); intro c1_w0_3)); (try (refine got (p := w1.cell? ⟨w.heap.size, 4, none⟩ = some (.slice none 0 0)) ?_ ?_; (focus (refine (hc1 _ _ ?_).trans ?_; (focus (go_size; done)); go_simp; done)); intro c1_w0_4)); (try (refine got (p := ∀ o, w1.frozen? ⟨w.heap.size, o, none⟩ = false) ?_ ?_; (focus (intro o; refine (hf1 _ _ ?_).trans ?_; (focus (go_size; done)); go_simp; done)); intro f1_w0)); clear hc1 hf1)
  have hr1 : Rd w1 (w.heap.size + 1) A 0 := by simpa using hr1
  have hB := hr1.lt
  have hbw1 : Below w.heap.size w w1 := bl_step ((Below.refl _ _).alloc (Nat.le_refl _) _) hb1
  have z1 : w.heap.size + 1 ≤ w1.heap.size := by have := hb1.size; simpa using this
  clear hb1
  go_wp2_with (fail)
  (go_at_call 46; refine (l91Sing_any (w.heap.size + 1) A 0 (by omega) _ hr1).mono ?_; rintro e w2 ⟨v0, v1, v2, p, s, rfl, t0, t1, t2, m0, m1, m2, hs, hb2⟩; obtain ⟨hc2, hf2, hz2⟩ := bg hb2; (try simp at hz2); (try (refine got (p := w.heap.size < w2.heap.size) ?_ ?_; (focus (go_size; done)); intro q2_w0)); (try (refine got (p := w2.cell? ⟨w.heap.size, 0, none⟩ = some (.slice none 0 0)) ?_ ?_; (focus (refine (hc2 _ _ ?_ ?_).trans ?_; (focus (go_size; done)); (focus (first | omega | (simp; omega))); go_simp; done)); intro c2_w0_0)); (try (refine got (p := w2.cell? ⟨w.heap.size, 1, none⟩ = some (.int .i64 0)) ?_ ?_; (focus (refine (hc2 _ _ ?_ ?_).trans ?_; (focus (go_size; done)); (focus (first | omega | (simp; omega))); go_simp; done)); intro c2_w0_1)); (try (refine got (p := w2.cell? ⟨w.heap.size, 2, none⟩ = some (.bool false)) ?_ ?_; (focus (refine (hc2 _ _ ?_ ?_).trans ?_; (focus (go_size; done)); (focus (first | omega | (simp; omega))); go_simp; done)); intro c2_w0_2)); (try (refine got (p := w2.cell? ⟨w.heap.size, 3, none⟩ = some (.slice none 0 0)) ?_ ?_; (focus (refine (hc2 _ _ ?_ ?_).trans ?_; (focus (go_size; done)); (focus (first | omega | (simp; omega))); go_simp; done)); intro c2_w0_3)); (try (refine got (p := w2.cell? ⟨w.heap.size, 4, none⟩ = some (.slice none 0 0)) ?_ ?_; (focus (refine (hc2 _ _ ?_ ?_).trans ?_; (focus (go_size; done)); (focus (first | omega | (simp; omega))); go_simp; done)); intro c2_w0_4)); (try (refine got (p := ∀ o, w2.frozen? ⟨w.heap.size, o, none⟩ = false) ?_ ?_; (focus (intro o; refine (hf2 _ _ ?_ ?_).trans ?_; (focus (go_size; done)); (focus (first | omega | (simp; omega))); go_simp; done)); intro f2_w0)); clear hc2 hf2)
  have hbw2 : Below w.heap.size w w2 := below_gb hbw1 hb2 (by omega)
  have z2 := hb2.size
  obtain ⟨a0, c0, rfl, _, _⟩ := (LV.sl ⟨_, _, t0⟩)
  obtain ⟨a1, c1, rfl, _, _⟩ := (LV.sl ⟨_, _, t1⟩)
  obtain ⟨a2, c2, rfl, _, _⟩ := (LV.sl ⟨_, _, t2⟩)
  have T0 := Lib.hid t0
  have T1 := Lib.hid t1
  have T2 := Lib.hid t2
  have HB2 := Lib.hid hbw2
  have HF : Hid (p.st.length ≤ 6 ∧ p.mi.length ≤ 6 ∧ p.en.length ≤ 6) := ⟨m0, m1, m2⟩
  clear hb2 hbw1 hbw2 hr1 m0 m1 m2 hs1 t0 t1 t2
  have HFIN : Hid (∀ W, TRow W w1.heap.size w2.heap.size (.slice a0 p.st.length c0) p.st → TRow W w1.heap.size w2.heap.size (.slice a1 p.mi.length c1) p.mi → TRow W w1.heap.size w2.heap.size (.slice a2 p.en.length c2) p.en → Below w.heap.size w W → DrewSg w (.returned (.tuple #[.agg #[.slice a0 p.st.length c0, .int .i64 p.tn.1, .bool p.tn.2, .slice a1 p.mi.length c1, .slice a2 p.en.length c2], .string s])) W) :=
    fun W h0 h1 h2 hb => ⟨_, p, s, rfl, ⟨_, _, _, rfl, ⟨_, _, h0⟩, ⟨_, _, h1⟩, ⟨_, _, h2⟩⟩, HF.out.1, HF.out.2.1, HF.out.2.2, hs, hb⟩
  generalize p.st.length = n0 at *
  generalize p.mi.length = n1 at *
  generalize p.en.length = n2 at *
  generalize p.tn.1 = ts at *
  generalize p.tn.2 = tb at *
  go_wp2
  refine bodyPost_ret (v := .tuple #[.agg #[.slice a0 n0 c0, .int .i64 ts, .bool tb, .slice a1 n1 c1, .slice a2 n2 c2], .string s]) (by simp only [results, Try.results21]; go_simp) rfl ?_
  refine HFIN.out _ ?_ ?_ ?_ (by have := HB2.out; (repeat' (first | (with_reducible assumption) | (with_reducible exact Below.refl _ _) | (with_reducible refine Below.alloc ?_ ?_ _) | (with_reducible refine Below.drew ?_) | (with_reducible refine Below.setCell ?_ ?_ _) | (with_reducible refine below_gb ?_ (by assumption) ?_) | (with_reducible refine bl_step ?_ (by assumption)) | go_size)))
  · repeat (with_reducible refine TRow.set2 ?_ (by omega))
    exact T0.out
  · repeat (with_reducible refine TRow.set2 ?_ (by omega))
    exact T1.out
  · repeat (with_reducible refine TRow.set2 ?_ (by omega))
    exact T2.out

set_option maxHeartbeats 1500000 in
theorem drawPsalmAccents_any (a : Option Addr) (n cap : Nat) (w : World) (h : CodeAt w a n) (hc : n ≤ cap) (hcap : cap ≤ maxLen) :
    Calls Try.prog 28 #[.slice a n cap] w (DrewSg w) := by
  go_enter Try.func28, Try.ntmps28
  go_wp2_with (fail)
  (go_at_call 47; refine (open_any a n cap _ (h.alloc _) hc hcap).mono ?_; rintro e w1 ⟨A, rfl, hr1, hb1, hs1⟩; obtain ⟨hc1, hf1, hz1⟩ := bl hb1; (try simp at hz1); (try (refine got (p := w.heap.size < w1.heap.size) ?_ ?_; (focus (go_size; done)); intro q1_w0)); (try (refine got (p := w1.cell? ⟨w.heap.size, 0, none⟩ = some (.slice none 0 0)) ?_ ?_; (focus (refine (hc1 _ _ ?_).trans ?_; (focus (go_size; done)); go_simp; done)); intro c1_w0_0)); (try (refine got (p := w1.cell? ⟨w.heap.size, 1, none⟩ = some (.int .i64 0)) ?_ ?_; (focus (refine (hc1 _ _ ?_).trans ?_; (focus (go_size; done)); go_simp; done)); intro c1_w0_1)); (try (refine got (p := w1.cell? ⟨w.heap.size, 2, none⟩ = some (.bool false)) ?_ ?_; (focus (refine (hc1 _ _ ?_).trans ?_; (focus (go_size; done)); go_simp; done)); intro c1_w0_2)); (try (refine got (p := w1.cell? ⟨w.heap.size, 3, none⟩ = some (.slice none 0 0)) ?_ ?_; (focus (refine (hc1 _ _ ?_).trans ?_; (focus (go_size; done)); go_simp; done)); intro c1_w0_3)); (try (refine got (p := w1.cell? ⟨w.heap.size, 4, none⟩ = some (.slice none 0 0)) ?_ ?_; (focus (refine (hc1 _ _ ?_).trans ?_; (focus (go_size; done)); go_simp; done)); intro c1_w0_4)); (try (refine got (p := ∀ o, w1.frozen? ⟨w.heap.size, o, none⟩ = false) ?_ ?_; (focus (intro o; refine (hf1 _ _ ?_).trans ?_; (focus (go_size; done)); go_simp; done)); intro f1_w0)); clear hc1 hf1)
  have hr1 : Rd w1 (w.heap.size + 1) A 0 := by simpa using hr1
  have hB := hr1.lt
  have hbw1 : Below w.heap.size w w1 := bl_step ((Below.refl _ _).alloc (Nat.le_refl _) _) hb1
  have z1 : w.heap.size + 1 ≤ w1.heap.size := by have := hb1.size; simpa using this
  clear hb1
  go_wp2_with (fail)
  (go_at_call 46; refine (l91Sing_any (w.heap.size + 1) A 0 (by omega) _ hr1).mono ?_; rintro e w2 ⟨v0, v1, v2, p, s, rfl, t0, t1, t2, m0, m1, m2, hs, hb2⟩; obtain ⟨hc2, hf2, hz2⟩ := bg hb2; (try simp at hz2); (try (refine got (p := w.heap.size < w2.heap.size) ?_ ?_; (focus (go_size; done)); intro q2_w0)); (try (refine got (p := w2.cell? ⟨w.heap.size, 0, none⟩ = some (.slice none 0 0)) ?_ ?_; (focus (refine (hc2 _ _ ?_ ?_).trans ?_; (focus (go_size; done)); (focus (first | omega | (simp; omega))); go_simp; done)); intro c2_w0_0)); (try (refine got (p := w2.cell? ⟨w.heap.size, 1, none⟩ = some (.int .i64 0)) ?_ ?_; (focus (refine (hc2 _ _ ?_ ?_).trans ?_; (focus (go_size; done)); (focus (first | omega | (simp; omega))); go_simp; done)); intro c2_w0_1)); (try (refine got (p := w2.cell? ⟨w.heap.size, 2, none⟩ = some (.bool false)) ?_ ?_; (focus (refine (hc2 _ _ ?_ ?_).trans ?_; (focus (go_size; done)); (focus (first | omega | (simp; omega))); go_simp; done)); intro c2_w0_2)); (try (refine got (p := w2.cell? ⟨w.heap.size, 3, none⟩ = some (.slice none 0 0)) ?_ ?_; (focus (refine (hc2 _ _ ?_ ?_).trans ?_; (focus (go_size; done)); (focus (first | omega | (simp; omega))); go_simp; done)); intro c2_w0_3)); (try (refine got (p := w2.cell? ⟨w.heap.size, 4, none⟩ = some (.slice none 0 0)) ?_ ?_; (focus (refine (hc2 _ _ ?_ ?_).trans ?_; (focus (go_size; done)); (focus (first | omega | (simp; omega))); go_simp; done)); intro c2_w0_4)); (try (refine got (p := ∀ o, w2.frozen? ⟨w.heap.size, o, none⟩ = false) ?_ ?_; (focus (intro o; refine (hf2 _ _ ?_ ?_).trans ?_; (focus (go_size; done)); (focus (first | omega | (simp; omega))); go_simp; done)); intro f2_w0)); clear hc2 hf2)
  have hbw2 : Below w.heap.size w w2 := below_gb hbw1 hb2 (by omega)
  have z2 := hb2.size
  obtain ⟨a0, c0, rfl, _, _⟩ := (LV.sl ⟨_, _, t0⟩)
  obtain ⟨a1, c1, rfl, _, _⟩ := (LV.sl ⟨_, _, t1⟩)
  obtain ⟨a2, c2, rfl, _, _⟩ := (LV.sl ⟨_, _, t2⟩)
  have T0 := Lib.hid t0
  have T1 := Lib.hid t1
  have T2 := Lib.hid t2
  have HB2 := Lib.hid hbw2
  have HF : Hid (p.st.length ≤ 6 ∧ p.mi.length ≤ 6 ∧ p.en.length ≤ 6) := ⟨m0, m1, m2⟩
  clear hb2 hbw1 hbw2 hr1 m0 m1 m2 hs1 t0 t1 t2
  have HFIN : Hid (∀ W, TRow W w1.heap.size w2.heap.size (.slice a0 p.st.length c0) p.st → TRow W w1.heap.size w2.heap.size (.slice a1 p.mi.length c1) p.mi → TRow W w1.heap.size w2.heap.size (.slice a2 p.en.length c2) p.en → Below w.heap.size w W → DrewSg w (.returned (.tuple #[.agg #[.slice a0 p.st.length c0, .int .i64 p.tn.1, .bool p.tn.2, .slice a1 p.mi.length c1, .slice a2 p.en.length c2], .string s])) W) :=
    fun W h0 h1 h2 hb => ⟨_, p, s, rfl, ⟨_, _, _, rfl, ⟨_, _, h0⟩, ⟨_, _, h1⟩, ⟨_, _, h2⟩⟩, HF.out.1, HF.out.2.1, HF.out.2.2, hs, hb⟩
  generalize p.st.length = n0 at *
  generalize p.mi.length = n1 at *
  generalize p.en.length = n2 at *
  generalize p.tn.1 = ts at *
  generalize p.tn.2 = tb at *
  go_wp2
  refine bodyPost_ret (v := .tuple #[.agg #[.slice a0 n0 c0, .int .i64 ts, .bool tb, .slice a1 n1 c1, .slice a2 n2 c2], .string s]) (by simp only [results, Try.results28]; go_simp) rfl ?_
  refine HFIN.out _ ?_ ?_ ?_ (by have := HB2.out; (repeat' (first | (with_reducible assumption) | (with_reducible exact Below.refl _ _) | (with_reducible refine Below.alloc ?_ ?_ _) | (with_reducible refine Below.drew ?_) | (with_reducible refine Below.setCell ?_ ?_ _) | (with_reducible refine below_gb ?_ (by assumption) ?_) | (with_reducible refine bl_step ?_ (by assumption)) | go_size)))
  · repeat (with_reducible refine TRow.set2 ?_ (by omega))
    exact T0.out
  · repeat (with_reducible refine TRow.set2 ?_ (by omega))
    exact T1.out
  · repeat (with_reducible refine TRow.set2 ?_ (by omega))
    exact T2.out
end Go.Proofs.Ytcmcdomfmmjogaa
