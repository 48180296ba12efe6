/-
  The draw of a psalm tone.
-/
import Derived.Test.YtcmcdomfmmjogaaDrawM
import Derived.Test.YtcmcdomfmmjogaaPsr
namespace Go.Proofs.Ytcmcdomfmmjogaa
open Go.RowKit
set_option maxRecDepth 100000
set_option linter.unusedVariables false

def SomePicked (B A q n : Nat) (w : World) (e : Ending) (w' : World) : Prop :=
  ∃ v xs, e = .returned v ∧ TRow w' w.heap.size w'.heap.size v xs ∧ xs.length = n ∧ Rd w' B A (q + 2 * n) ∧ w.grownBy w' (some B)
theorem DmInv.some_ {B A q n : Nat} {w w' : World} {v : Value} {xs : List (Int × Bool)} (h : DmInv w w' B A (q + 2 * n) v xs) (hl : xs.length = n) : SomePicked B A q n w (.returned v) w' :=
  ⟨v, xs, rfl, ⟨h.own, fun g hg => (h.own.lt g hg).2⟩, hl, h.rd, h.gb⟩

set_option maxHeartbeats 4000000 in
theorem l91Some_any (B A q n : Nat) (hn : n ≤ 6) (hq : q ≤ 900000) (w : World) (h : Rd w B A q) :
    Calls Try.prog 85 #[.pointer (some ⟨B, 0, none⟩), .int .i64 (n : Int)] w (SomePicked B A q n w) := by
  obtain ⟨i0, hi, hq0, hq1, hq2⟩ := info_parts infoTone
  have hB := h.lt
  have hA := h.ltA
  have hI0 : DmInv w (w.alloc (.cells #[] 25)) B A q (.slice (some ⟨w.heap.size, 0, none⟩) 0 0) [] :=
    ⟨⟨rfl, .inr ⟨w.heap.size, 0, #[], rfl, Nat.le_refl _, heap_alloc_new w _, by simp, by simp [maxLen], by simp, by simp [tcs]⟩⟩, h.alloc _, gb_alloc (gb_refl _ _) _⟩
  have HI0 := Lib.hid hI0
  clear h hI0
  go_enter Try.func85, Try.ntmps85
  go_wp2
  go_loopw [5, 6] (fun v i wr => ∃ (k : Nat) (xs : List (Int × Bool)), k ≤ n ∧ xs.length = k ∧ i = .int .i64 k ∧ DmInv w wr B A (q + 2 * k) v xs) (fun _ i _ => n - (intOf i).toNat)
  case atStart => exact ⟨0, [], Nat.zero_le _, rfl, rfl, HI0.out⟩
  case round =>
    obtain ⟨k, xs, hk, hx, rfl, hI⟩ := hrel
    by_cases hlt : k < n
    · have hk0 : (0 : Int) ≤ (k : Int) := by omega
      have hk1 : (k : Int) < (n : Int) := by omega
      go_wp2_with (fail)
      (go_at_call 63; refine (pick_any 6 B A (q + 2 * k) (by omega) (by omega) (by omega) _ hI.rd).mono ?_; rintro e w3 ⟨b3, rfl, p30, p31, hr3, hb3⟩)
      have hI3 := hI.pick hr3 hb3 hB
      have HI3 := Lib.hid hI3
      clear hI hI3 hr3 hb3
      obtain ⟨s, hs⟩ : ∃ s : Int, 5 + b3 = s := ⟨_, rfl⟩
      have ws : IntKind.i64.wrap (5 + b3) = s := by rw [IntWalk.i64_in _ (by omega)]; exact hs
      have hs0 : 0 ≤ s ∧ s ≤ 10 := by omega
      clear hs p30 p31
      by_cases g2 : s % 7 = 2
      · have e2 : (s % 7 == 2) = true := by simpa using g2
        clear g2
        go_wp2_with (fail)
        (go_at_call 82; refine (l1Letter_any _ (by omega) _).mono ?_; rintro e wx ⟨rfl, rfl⟩)
        go_wp2_with (fail)
        (go_at_call 63; refine (pick_any 2 B A (q + 2 * k + 1) (by omega) (by omega) (by omega) _ HI3.out.rd).mono ?_; rintro e w4 ⟨b4, rfl, _, _, hr4, hb4⟩)
        have hI4 := HI3.out.pick hr4 hb4 hB
        have hown := hI4.own
        have HI := Lib.hid hI4
        rw [hx] at hown
        have HX := Lib.hid hx
        clear hI4 hr4 hb4 hx HI3
        go_wp2_with (at_builtin; refine wpList_append_own _ rfl _ _ 23 rfl w.heap.size 25 i0 (.agg #[.int .i64 0, .bool false]) 2 16 Try.underlying23 hi hq0 hq1 hq2 rfl (by decide) _ _ _ rfl (hown.alloc _) ⟨w4.heap.size, 0, none⟩ 1 1 [.int .i64 s, .bool (b4 == 0)] rfl rfl news2 news2_one (by unfold maxLen; omega) (by omega) (by have := HI.out.gb.size; simp; omega) ?_)
        intro v' w5 hown' hgrow _
        have hI5 := HI.out.app (t := (s, (b4 == 0))) hB hA (by rw [HX.out]; exact hown') hgrow
        have HI5 := Lib.hid hI5
        clear hown hown' hgrow hI5
        go_wp2
        go_roundw
        case rel => exact ⟨k + 1, _, by omega, by rw [List.length_append, HX.out]; rfl, by go_num, ⟨HI5.out.own, HI5.out.rd.more (by omega), HI5.out.gb⟩⟩
        case measure => simp [intOf]; omega
      · have e2 : (s % 7 == 2) = false := by simpa using g2
        clear g2
        go_wp2_with (fail)
        (go_at_call 82; refine (l1Letter_any _ (by omega) _).mono ?_; rintro e wx ⟨rfl, rfl⟩)
        have hI4 := HI3.out
        have hown := hI4.own
        have HI := Lib.hid hI4
        rw [hx] at hown
        have HX := Lib.hid hx
        clear hI4 hx HI3
        go_wp2_with (at_builtin; refine wpList_append_own _ rfl _ _ 23 rfl w.heap.size 25 i0 (.agg #[.int .i64 0, .bool false]) 2 16 Try.underlying23 hi hq0 hq1 hq2 rfl (by decide) _ _ _ rfl (hown.alloc _) ⟨w3.heap.size, 0, none⟩ 1 1 [.int .i64 s, .bool false] rfl rfl news2 news2_one (by unfold maxLen; omega) (by omega) (by have := HI.out.gb.size; simp; omega) ?_)
        intro v' w5 hown' hgrow _
        have hI5 := HI.out.app (t := (s, false)) hB hA (by rw [HX.out]; exact hown') hgrow
        have HI5 := Lib.hid hI5
        clear hown hown' hgrow hI5
        go_wp2
        go_roundw
        case rel => exact ⟨k + 1, _, by omega, by rw [List.length_append, HX.out]; rfl, by go_num, ⟨HI5.out.own, HI5.out.rd.more (by omega), HI5.out.gb⟩⟩
        case measure => simp [intOf]; omega
    · have hke : k = n := by omega
      subst hke
      have HE := Lib.hid (hI.some_ hx)
      clear hI
      go_wp2
      go_ret
      exact HE.out

theorem TRow.below2 {w w' : World} {lo hi : Nat} {v : Value} {xs : List (Int × Bool)} (h : TRow w lo hi v xs) (hb : Below w.heap.size w w') : TRow w' lo hi v xs := h.below hb (.inr (Nat.le_refl _))
theorem TRow.set2 {w : World} {lo hi : Nat} {v : Value} {xs : List (Int × Bool)} (h : TRow w lo hi v xs) {B o : Nat} {x : Value} (hB : B < lo ∨ hi ≤ B) : TRow (w.setCell ⟨B, o, none⟩ x) lo hi v xs :=
  h.keep fun k _ h2 h3 => Below.heap_setCell _ _ _ _ (fun e => by have e : k = B := e; omega)
theorem TRow.keptB {w w' : World} {lo hi : Nat} {v : Value} {xs : List (Int × Bool)} {B : Nat} (h : TRow w lo hi v xs) (hg : w.grownBy w' (some B)) (hB : B < lo) : TRow w' lo hi v xs :=
  h.keep fun k h1 h2 _ => hg.block k h1 (fun e => by injection e with e; omega)
/-- a psalm tone of a draw, and the reader -/
def PsPicked (B A q : Nat) (w : World) (e : Ending) (w' : World) : Prop :=
  ∃ (v0 v1 v2 : Value) (p : Psa), e = .returned (.agg #[v0, .int .i64 p.tn.1, .bool p.tn.2, v1, v2]) ∧ TRow w' w.heap.size w'.heap.size v0 p.st ∧ TRow w' w.heap.size w'.heap.size v1 p.mi ∧ TRow w' w.heap.size w'.heap.size v2 p.en ∧
    p.st.length ≤ 6 ∧ p.mi.length ≤ 6 ∧ p.en.length ≤ 6 ∧ Rd w' B A (q + 60) ∧ w.grownBy w' (some B)
theorem psPicked {B A q q' : Nat} {w w' : World} {v0 v1 v2 : Value} {p : Psa} {a0 b0 a1 b1 a2 b2 : Nat} (h0 : TRow w' a0 b0 v0 p.st) (h1 : TRow w' a1 b1 v1 p.mi) (h2 : TRow w' a2 b2 v2 p.en) (hlo : w.heap.size ≤ a0 ∧ w.heap.size ≤ a1 ∧ w.heap.size ≤ a2) (hhi : b0 ≤ w'.heap.size ∧ b1 ≤ w'.heap.size ∧ b2 ≤ w'.heap.size)
    (hl : p.st.length ≤ 6 ∧ p.mi.length ≤ 6 ∧ p.en.length ≤ 6) (hr : Rd w' B A q') (hq : q' ≤ q + 60) (hg : w.grownBy w' (some B)) : PsPicked B A q w (.returned (.agg #[v0, .int .i64 p.tn.1, .bool p.tn.2, v1, v2])) w' :=
  ⟨v0, v1, v2, p, rfl, h0.lohi hlo.1 hhi.1, h1.lohi hlo.2.1 hhi.2.1, h2.lohi hlo.2.2 hhi.2.2, hl.1, hl.2.1, hl.2.2, hr.more hq, hg⟩

set_option maxHeartbeats 3000000 in
theorem l91Psalm_any (B A q : Nat) (hq : q ≤ 800000) (w : World) (h : Rd w B A q) :
    Calls Try.prog 75 #[.pointer (some ⟨B, 0, none⟩)] w (PsPicked B A q w) := by
  have hB := h.lt
  have hA := h.ltA
  go_enter Try.func75, Try.ntmps75
  go_wp2_with (fail)
  (go_at_call 63; refine (pick_any 4 B A q (by omega) (by omega) (by omega) _ (h.alloc _)).mono ?_; rintro e w1 ⟨k1, rfl, h10, h11, hr1, hb1⟩; obtain ⟨hc1, hf1, hz1⟩ := bg hb1; (try simp at hz1); (try (refine got (p := w.heap.size < w1.heap.size) ?_ ?_; (focus (go_size; done)); intro q1_w0)); (try (refine got (p := w1.cell? ⟨w.heap.size, 0, none⟩ = some (.slice none 0 0)) ?_ ?_; (focus (refine (hc1 _ _ ?_ ?_).trans ?_; (focus (go_size; done)); (focus (first | omega | (simp; omega))); go_simp; done)); intro c1_w0_0)); (try (refine got (p := w1.cell? ⟨w.heap.size, 1, none⟩ = some (.int .i64 0)) ?_ ?_; (focus (refine (hc1 _ _ ?_ ?_).trans ?_; (focus (go_size; done)); (focus (first | omega | (simp; omega))); go_simp; done)); intro c1_w0_1)); (try (refine got (p := w1.cell? ⟨w.heap.size, 2, none⟩ = some (.bool false)) ?_ ?_; (focus (refine (hc1 _ _ ?_ ?_).trans ?_; (focus (go_size; done)); (focus (first | omega | (simp; omega))); go_simp; done)); intro c1_w0_2)); (try (refine got (p := w1.cell? ⟨w.heap.size, 3, none⟩ = some (.slice none 0 0)) ?_ ?_; (focus (refine (hc1 _ _ ?_ ?_).trans ?_; (focus (go_size; done)); (focus (first | omega | (simp; omega))); go_simp; done)); intro c1_w0_3)); (try (refine got (p := w1.cell? ⟨w.heap.size, 4, none⟩ = some (.slice none 0 0)) ?_ ?_; (focus (refine (hc1 _ _ ?_ ?_).trans ?_; (focus (go_size; done)); (focus (first | omega | (simp; omega))); go_simp; done)); intro c1_w0_4)); (try (refine got (p := ∀ o, w1.frozen? ⟨w.heap.size, o, none⟩ = false) ?_ ?_; (focus (intro o; refine (hf1 _ _ ?_ ?_).trans ?_; (focus (go_size; done)); (focus (first | omega | (simp; omega))); go_simp; done)); intro f1_w0)); clear hc1 hf1)
  have z1 : w.heap.size + 1 ≤ w1.heap.size := by have := hb1.size; simpa using this
  have hg1 : w.grownBy w1 (some B) := gb_step (gb_alloc (gb_refl _ _) _) hb1
  obtain ⟨N1, rfl⟩ : ∃ N : Nat, k1 = (N : Int) := ⟨k1.toNat, by omega⟩
  clear hb1
  go_wp2_with (fail)
  (go_at_call 85; refine (l91Some_any B A (q + 1) N1 (by omega) (by omega) _ hr1).mono ?_; rintro e w2 ⟨v0, xs0, rfl, t0, l0, hr2, hb2⟩; obtain ⟨hc2, hf2, hz2⟩ := bg hb2; (try simp at hz2); (try (refine got (p := w.heap.size < w2.heap.size) ?_ ?_; (focus (go_size; done)); intro q2_w0)); (try (refine got (p := w2.cell? ⟨w.heap.size, 0, none⟩ = some (.slice none 0 0)) ?_ ?_; (focus (refine (hc2 _ _ ?_ ?_).trans ?_; (focus (go_size; done)); (focus (first | omega | (simp; omega))); go_simp; done)); intro c2_w0_0)); (try (refine got (p := w2.cell? ⟨w.heap.size, 1, none⟩ = some (.int .i64 0)) ?_ ?_; (focus (refine (hc2 _ _ ?_ ?_).trans ?_; (focus (go_size; done)); (focus (first | omega | (simp; omega))); go_simp; done)); intro c2_w0_1)); (try (refine got (p := w2.cell? ⟨w.heap.size, 2, none⟩ = some (.bool false)) ?_ ?_; (focus (refine (hc2 _ _ ?_ ?_).trans ?_; (focus (go_size; done)); (focus (first | omega | (simp; omega))); go_simp; done)); intro c2_w0_2)); (try (refine got (p := w2.cell? ⟨w.heap.size, 3, none⟩ = some (.slice none 0 0)) ?_ ?_; (focus (refine (hc2 _ _ ?_ ?_).trans ?_; (focus (go_size; done)); (focus (first | omega | (simp; omega))); go_simp; done)); intro c2_w0_3)); (try (refine got (p := w2.cell? ⟨w.heap.size, 4, none⟩ = some (.slice none 0 0)) ?_ ?_; (focus (refine (hc2 _ _ ?_ ?_).trans ?_; (focus (go_size; done)); (focus (first | omega | (simp; omega))); go_simp; done)); intro c2_w0_4)); (try (refine got (p := ∀ o, w2.frozen? ⟨w.heap.size, o, none⟩ = false) ?_ ?_; (focus (intro o; refine (hf2 _ _ ?_ ?_).trans ?_; (focus (go_size; done)); (focus (first | omega | (simp; omega))); go_simp; done)); intro f2_w0)); clear hc2 hf2)
  have z2 := hb2.size
  have hg2 := gb_step hg1 hb2
  obtain ⟨a0, c0, rfl⟩ : ∃ a c, v0 = .slice a N1 c := by obtain ⟨a, c, e, _⟩ := (LV.sl ⟨_, _, t0⟩); exact ⟨a, c, by rw [e, l0]⟩
  have T0 := Lib.hid t0
  clear hb2 hr1 t0
  go_wp2_with (fail)
  (go_at_call 63; refine (pick_any 4 B A (q + 1 + 2 * N1) ?_ ?_ ?_ _ ?_).mono ?_; (focus omega); (focus omega); (focus omega); (focus ((repeat' (first | (with_reducible refine Rd.set_ ?_ ?_ ?_ _) | (with_reducible refine Rd.alloc ?_ _) | (with_reducible refine Rd.drew ?_) | (refine Rd.more (by assumption) ?_; (first | omega | (simp; omega))) | (show _ ≠ _; (first | omega | (simp; omega))))); done)); rintro e w3 ⟨k3, rfl, h30, h31, hr3, hb3⟩; obtain ⟨hc3, hf3, hz3⟩ := bg hb3; (try simp at hz3); (try (refine got (p := w.heap.size < w3.heap.size) ?_ ?_; (focus (go_size; done)); intro q3_w0)); (try (refine got (p := w3.cell? ⟨w.heap.size, 0, none⟩ = some (.slice none 0 0)) ?_ ?_; (focus (refine (hc3 _ _ ?_ ?_).trans ?_; (focus (go_size; done)); (focus (first | omega | (simp; omega))); go_simp; done)); intro c3_w0_0)); (try (refine got (p := w3.cell? ⟨w.heap.size, 1, none⟩ = some (.int .i64 0)) ?_ ?_; (focus (refine (hc3 _ _ ?_ ?_).trans ?_; (focus (go_size; done)); (focus (first | omega | (simp; omega))); go_simp; done)); intro c3_w0_1)); (try (refine got (p := w3.cell? ⟨w.heap.size, 2, none⟩ = some (.bool false)) ?_ ?_; (focus (refine (hc3 _ _ ?_ ?_).trans ?_; (focus (go_size; done)); (focus (first | omega | (simp; omega))); go_simp; done)); intro c3_w0_2)); (try (refine got (p := w3.cell? ⟨w.heap.size, 3, none⟩ = some (.slice none 0 0)) ?_ ?_; (focus (refine (hc3 _ _ ?_ ?_).trans ?_; (focus (go_size; done)); (focus (first | omega | (simp; omega))); go_simp; done)); intro c3_w0_3)); (try (refine got (p := w3.cell? ⟨w.heap.size, 4, none⟩ = some (.slice none 0 0)) ?_ ?_; (focus (refine (hc3 _ _ ?_ ?_).trans ?_; (focus (go_size; done)); (focus (first | omega | (simp; omega))); go_simp; done)); intro c3_w0_4)); (try (refine got (p := ∀ o, w3.frozen? ⟨w.heap.size, o, none⟩ = false) ?_ ?_; (focus (intro o; refine (hf3 _ _ ?_ ?_).trans ?_; (focus (go_size; done)); (focus (first | omega | (simp; omega))); go_simp; done)); intro f3_w0)); (try (refine got (p := w2.heap.size < w3.heap.size) ?_ ?_; (focus (go_size; done)); intro q3_w20)); (try (refine got (p := w3.cell? ⟨w2.heap.size, 0, none⟩ = some (.slice a0 N1 c0)) ?_ ?_; (focus (refine (hc3 _ _ ?_ ?_).trans ?_; (focus (go_size; done)); (focus (first | omega | (simp; omega))); go_simp; done)); intro c3_w20_0)); (try (refine got (p := w3.cell? ⟨w2.heap.size, 1, none⟩ = some (.int .i64 0)) ?_ ?_; (focus (refine (hc3 _ _ ?_ ?_).trans ?_; (focus (go_size; done)); (focus (first | omega | (simp; omega))); go_simp; done)); intro c3_w20_1)); (try (refine got (p := w3.cell? ⟨w2.heap.size, 2, none⟩ = some (.bool false)) ?_ ?_; (focus (refine (hc3 _ _ ?_ ?_).trans ?_; (focus (go_size; done)); (focus (first | omega | (simp; omega))); go_simp; done)); intro c3_w20_2)); (try (refine got (p := w3.cell? ⟨w2.heap.size, 3, none⟩ = some (.slice none 0 0)) ?_ ?_; (focus (refine (hc3 _ _ ?_ ?_).trans ?_; (focus (go_size; done)); (focus (first | omega | (simp; omega))); go_simp; done)); intro c3_w20_3)); (try (refine got (p := w3.cell? ⟨w2.heap.size, 4, none⟩ = some (.slice none 0 0)) ?_ ?_; (focus (refine (hc3 _ _ ?_ ?_).trans ?_; (focus (go_size; done)); (focus (first | omega | (simp; omega))); go_simp; done)); intro c3_w20_4)); (try (refine got (p := ∀ o, w3.frozen? ⟨w2.heap.size, o, none⟩ = false) ?_ ?_; (focus (intro o; refine (hf3 _ _ ?_ ?_).trans ?_; (focus (go_size; done)); (focus (first | omega | (simp; omega))); go_simp; done)); intro f3_w20)); clear hc3 hf3)
  have z3 : w2.heap.size + 1 ≤ w3.heap.size := by have := hb3.size; simpa using this
  have hg3 := gb_step (gb_alloc hg2 _) hb3
  have T0 := Lib.hid (((T0.out.below2 ((Below.refl _ _).alloc (Nat.le_refl _) (.cells #[.slice a0 N1 c0, .int .i64 0, .bool false, .slice none 0 0, .slice none 0 0] 27))).keptB hb3 (by omega)))
  obtain ⟨s, hs⟩ : ∃ s : Int, 7 + k3 = s := ⟨_, rfl⟩
  have ws : IntKind.i64.wrap (7 + k3) = s := by rw [IntWalk.i64_in _ (by omega)]; exact hs
  clear hb3 hr2 hs
  go_wp2_with (fail)
  (go_at_call 63; refine (pick_any 3 B A (q + 1 + 2 * N1 + 1) ?_ ?_ ?_ _ ?_).mono ?_; (focus omega); (focus omega); (focus omega); (focus ((repeat' (first | (with_reducible refine Rd.set_ ?_ ?_ ?_ _) | (with_reducible refine Rd.alloc ?_ _) | (with_reducible refine Rd.drew ?_) | (refine Rd.more (by assumption) ?_; (first | omega | (simp; omega))) | (show _ ≠ _; (first | omega | (simp; omega))))); done)); rintro e w4 ⟨k4, rfl, h40, h41, hr4, hb4⟩; obtain ⟨hc4, hf4, hz4⟩ := bg hb4; (try simp at hz4); (try (refine got (p := w.heap.size < w4.heap.size) ?_ ?_; (focus (go_size; done)); intro q4_w0)); (try (refine got (p := w4.cell? ⟨w.heap.size, 0, none⟩ = some (.slice none 0 0)) ?_ ?_; (focus (refine (hc4 _ _ ?_ ?_).trans ?_; (focus (go_size; done)); (focus (first | omega | (simp; omega))); go_simp; done)); intro c4_w0_0)); (try (refine got (p := w4.cell? ⟨w.heap.size, 1, none⟩ = some (.int .i64 0)) ?_ ?_; (focus (refine (hc4 _ _ ?_ ?_).trans ?_; (focus (go_size; done)); (focus (first | omega | (simp; omega))); go_simp; done)); intro c4_w0_1)); (try (refine got (p := w4.cell? ⟨w.heap.size, 2, none⟩ = some (.bool false)) ?_ ?_; (focus (refine (hc4 _ _ ?_ ?_).trans ?_; (focus (go_size; done)); (focus (first | omega | (simp; omega))); go_simp; done)); intro c4_w0_2)); (try (refine got (p := w4.cell? ⟨w.heap.size, 3, none⟩ = some (.slice none 0 0)) ?_ ?_; (focus (refine (hc4 _ _ ?_ ?_).trans ?_; (focus (go_size; done)); (focus (first | omega | (simp; omega))); go_simp; done)); intro c4_w0_3)); (try (refine got (p := w4.cell? ⟨w.heap.size, 4, none⟩ = some (.slice none 0 0)) ?_ ?_; (focus (refine (hc4 _ _ ?_ ?_).trans ?_; (focus (go_size; done)); (focus (first | omega | (simp; omega))); go_simp; done)); intro c4_w0_4)); (try (refine got (p := ∀ o, w4.frozen? ⟨w.heap.size, o, none⟩ = false) ?_ ?_; (focus (intro o; refine (hf4 _ _ ?_ ?_).trans ?_; (focus (go_size; done)); (focus (first | omega | (simp; omega))); go_simp; done)); intro f4_w0)); (try (refine got (p := w2.heap.size < w4.heap.size) ?_ ?_; (focus (go_size; done)); intro q4_w20)); (try (refine got (p := w4.cell? ⟨w2.heap.size, 0, none⟩ = some (.slice a0 N1 c0)) ?_ ?_; (focus (refine (hc4 _ _ ?_ ?_).trans ?_; (focus (go_size; done)); (focus (first | omega | (simp; omega))); go_simp; done)); intro c4_w20_0)); (try (refine got (p := w4.cell? ⟨w2.heap.size, 1, none⟩ = some (.int .i64 s)) ?_ ?_; (focus (refine (hc4 _ _ ?_ ?_).trans ?_; (focus (go_size; done)); (focus (first | omega | (simp; omega))); go_simp; done)); intro c4_w20_1)); (try (refine got (p := w4.cell? ⟨w2.heap.size, 2, none⟩ = some (.bool false)) ?_ ?_; (focus (refine (hc4 _ _ ?_ ?_).trans ?_; (focus (go_size; done)); (focus (first | omega | (simp; omega))); go_simp; done)); intro c4_w20_2)); (try (refine got (p := w4.cell? ⟨w2.heap.size, 3, none⟩ = some (.slice none 0 0)) ?_ ?_; (focus (refine (hc4 _ _ ?_ ?_).trans ?_; (focus (go_size; done)); (focus (first | omega | (simp; omega))); go_simp; done)); intro c4_w20_3)); (try (refine got (p := w4.cell? ⟨w2.heap.size, 4, none⟩ = some (.slice none 0 0)) ?_ ?_; (focus (refine (hc4 _ _ ?_ ?_).trans ?_; (focus (go_size; done)); (focus (first | omega | (simp; omega))); go_simp; done)); intro c4_w20_4)); (try (refine got (p := ∀ o, w4.frozen? ⟨w2.heap.size, o, none⟩ = false) ?_ ?_; (focus (intro o; refine (hf4 _ _ ?_ ?_).trans ?_; (focus (go_size; done)); (focus (first | omega | (simp; omega))); go_simp; done)); intro f4_w20)); clear hc4 hf4)
  have z4 : w3.heap.size ≤ w4.heap.size := by have := hb4.size; simpa using this
  have hg4 := gb_step (gb_set (gb_set hg3 (.inr (by show w.heap.size ≤ w2.heap.size; omega)) _) (.inr (by show w.heap.size ≤ w2.heap.size; omega)) _) hb4
  have T0 := Lib.hid (((T0.out.set2 (.inr (Nat.le_refl _))).set2 (.inr (Nat.le_refl _))).keptB hb4 (by omega))
  obtain ⟨N4, hN4⟩ : ∃ N : Nat, 1 + k4 = (N : Int) := ⟨(1 + k4).toNat, by omega⟩
  have w4' : IntKind.i64.wrap (1 + k4) = (N4 : Int) := by rw [IntWalk.i64_in _ (by omega)]; exact hN4
  have bN4 : N4 ≤ 3 := by omega
  clear hb4 hr3 hN4
  go_wp2_with (fail)
  (go_at_call 85; refine (l91Some_any B A (q + 1 + 2 * N1 + 2) N4 (by omega) (by omega) _ hr4).mono ?_; rintro e w5 ⟨v1, xs1, rfl, t1, l1, hr5, hb5⟩; obtain ⟨hc5, hf5, hz5⟩ := bg hb5; (try simp at hz5); (try (refine got (p := w.heap.size < w5.heap.size) ?_ ?_; (focus (go_size; done)); intro q5_w0)); (try (refine got (p := w5.cell? ⟨w.heap.size, 0, none⟩ = some (.slice none 0 0)) ?_ ?_; (focus (refine (hc5 _ _ ?_ ?_).trans ?_; (focus (go_size; done)); (focus (first | omega | (simp; omega))); go_simp; done)); intro c5_w0_0)); (try (refine got (p := w5.cell? ⟨w.heap.size, 1, none⟩ = some (.int .i64 0)) ?_ ?_; (focus (refine (hc5 _ _ ?_ ?_).trans ?_; (focus (go_size; done)); (focus (first | omega | (simp; omega))); go_simp; done)); intro c5_w0_1)); (try (refine got (p := w5.cell? ⟨w.heap.size, 2, none⟩ = some (.bool false)) ?_ ?_; (focus (refine (hc5 _ _ ?_ ?_).trans ?_; (focus (go_size; done)); (focus (first | omega | (simp; omega))); go_simp; done)); intro c5_w0_2)); (try (refine got (p := w5.cell? ⟨w.heap.size, 3, none⟩ = some (.slice none 0 0)) ?_ ?_; (focus (refine (hc5 _ _ ?_ ?_).trans ?_; (focus (go_size; done)); (focus (first | omega | (simp; omega))); go_simp; done)); intro c5_w0_3)); (try (refine got (p := w5.cell? ⟨w.heap.size, 4, none⟩ = some (.slice none 0 0)) ?_ ?_; (focus (refine (hc5 _ _ ?_ ?_).trans ?_; (focus (go_size; done)); (focus (first | omega | (simp; omega))); go_simp; done)); intro c5_w0_4)); (try (refine got (p := ∀ o, w5.frozen? ⟨w.heap.size, o, none⟩ = false) ?_ ?_; (focus (intro o; refine (hf5 _ _ ?_ ?_).trans ?_; (focus (go_size; done)); (focus (first | omega | (simp; omega))); go_simp; done)); intro f5_w0)); (try (refine got (p := w2.heap.size < w5.heap.size) ?_ ?_; (focus (go_size; done)); intro q5_w20)); (try (refine got (p := w5.cell? ⟨w2.heap.size, 0, none⟩ = some (.slice a0 N1 c0)) ?_ ?_; (focus (refine (hc5 _ _ ?_ ?_).trans ?_; (focus (go_size; done)); (focus (first | omega | (simp; omega))); go_simp; done)); intro c5_w20_0)); (try (refine got (p := w5.cell? ⟨w2.heap.size, 1, none⟩ = some (.int .i64 s)) ?_ ?_; (focus (refine (hc5 _ _ ?_ ?_).trans ?_; (focus (go_size; done)); (focus (first | omega | (simp; omega))); go_simp; done)); intro c5_w20_1)); (try (refine got (p := w5.cell? ⟨w2.heap.size, 2, none⟩ = some (.bool false)) ?_ ?_; (focus (refine (hc5 _ _ ?_ ?_).trans ?_; (focus (go_size; done)); (focus (first | omega | (simp; omega))); go_simp; done)); intro c5_w20_2)); (try (refine got (p := w5.cell? ⟨w2.heap.size, 3, none⟩ = some (.slice none 0 0)) ?_ ?_; (focus (refine (hc5 _ _ ?_ ?_).trans ?_; (focus (go_size; done)); (focus (first | omega | (simp; omega))); go_simp; done)); intro c5_w20_3)); (try (refine got (p := w5.cell? ⟨w2.heap.size, 4, none⟩ = some (.slice none 0 0)) ?_ ?_; (focus (refine (hc5 _ _ ?_ ?_).trans ?_; (focus (go_size; done)); (focus (first | omega | (simp; omega))); go_simp; done)); intro c5_w20_4)); (try (refine got (p := ∀ o, w5.frozen? ⟨w2.heap.size, o, none⟩ = false) ?_ ?_; (focus (intro o; refine (hf5 _ _ ?_ ?_).trans ?_; (focus (go_size; done)); (focus (first | omega | (simp; omega))); go_simp; done)); intro f5_w20)); clear hc5 hf5)
  have z5 := hb5.size
  have hg5 := gb_step hg4 hb5
  have T0 := Lib.hid (T0.out.keptB hb5 (by omega))
  obtain ⟨a1, c1, rfl⟩ : ∃ a c, v1 = .slice a N4 c := by obtain ⟨a, c, e, _⟩ := (LV.sl ⟨_, _, t1⟩); exact ⟨a, c, by rw [e, l1]⟩
  have T1 := Lib.hid t1
  clear hb5 hr4 t1
  go_wp2_with (fail)
  (go_at_call 63; refine (pick_any 4 B A (q + 1 + 2 * N1 + 2 + 2 * N4) ?_ ?_ ?_ _ ?_).mono ?_; (focus omega); (focus omega); (focus omega); (focus ((repeat' (first | (with_reducible refine Rd.set_ ?_ ?_ ?_ _) | (with_reducible refine Rd.alloc ?_ _) | (with_reducible refine Rd.drew ?_) | (refine Rd.more (by assumption) ?_; (first | omega | (simp; omega))) | (show _ ≠ _; (first | omega | (simp; omega))))); done)); rintro e w6 ⟨k6, rfl, h60, h61, hr6, hb6⟩; obtain ⟨hc6, hf6, hz6⟩ := bg hb6; (try simp at hz6); (try (refine got (p := w.heap.size < w6.heap.size) ?_ ?_; (focus (go_size; done)); intro q6_w0)); (try (refine got (p := w6.cell? ⟨w.heap.size, 0, none⟩ = some (.slice none 0 0)) ?_ ?_; (focus (refine (hc6 _ _ ?_ ?_).trans ?_; (focus (go_size; done)); (focus (first | omega | (simp; omega))); go_simp; done)); intro c6_w0_0)); (try (refine got (p := w6.cell? ⟨w.heap.size, 1, none⟩ = some (.int .i64 0)) ?_ ?_; (focus (refine (hc6 _ _ ?_ ?_).trans ?_; (focus (go_size; done)); (focus (first | omega | (simp; omega))); go_simp; done)); intro c6_w0_1)); (try (refine got (p := w6.cell? ⟨w.heap.size, 2, none⟩ = some (.bool false)) ?_ ?_; (focus (refine (hc6 _ _ ?_ ?_).trans ?_; (focus (go_size; done)); (focus (first | omega | (simp; omega))); go_simp; done)); intro c6_w0_2)); (try (refine got (p := w6.cell? ⟨w.heap.size, 3, none⟩ = some (.slice none 0 0)) ?_ ?_; (focus (refine (hc6 _ _ ?_ ?_).trans ?_; (focus (go_size; done)); (focus (first | omega | (simp; omega))); go_simp; done)); intro c6_w0_3)); (try (refine got (p := w6.cell? ⟨w.heap.size, 4, none⟩ = some (.slice none 0 0)) ?_ ?_; (focus (refine (hc6 _ _ ?_ ?_).trans ?_; (focus (go_size; done)); (focus (first | omega | (simp; omega))); go_simp; done)); intro c6_w0_4)); (try (refine got (p := ∀ o, w6.frozen? ⟨w.heap.size, o, none⟩ = false) ?_ ?_; (focus (intro o; refine (hf6 _ _ ?_ ?_).trans ?_; (focus (go_size; done)); (focus (first | omega | (simp; omega))); go_simp; done)); intro f6_w0)); (try (refine got (p := w2.heap.size < w6.heap.size) ?_ ?_; (focus (go_size; done)); intro q6_w20)); (try (refine got (p := w6.cell? ⟨w2.heap.size, 0, none⟩ = some (.slice a0 N1 c0)) ?_ ?_; (focus (refine (hc6 _ _ ?_ ?_).trans ?_; (focus (go_size; done)); (focus (first | omega | (simp; omega))); go_simp; done)); intro c6_w20_0)); (try (refine got (p := w6.cell? ⟨w2.heap.size, 1, none⟩ = some (.int .i64 s)) ?_ ?_; (focus (refine (hc6 _ _ ?_ ?_).trans ?_; (focus (go_size; done)); (focus (first | omega | (simp; omega))); go_simp; done)); intro c6_w20_1)); (try (refine got (p := w6.cell? ⟨w2.heap.size, 2, none⟩ = some (.bool false)) ?_ ?_; (focus (refine (hc6 _ _ ?_ ?_).trans ?_; (focus (go_size; done)); (focus (first | omega | (simp; omega))); go_simp; done)); intro c6_w20_2)); (try (refine got (p := w6.cell? ⟨w2.heap.size, 3, none⟩ = some (.slice a1 N4 c1)) ?_ ?_; (focus (refine (hc6 _ _ ?_ ?_).trans ?_; (focus (go_size; done)); (focus (first | omega | (simp; omega))); go_simp; done)); intro c6_w20_3)); (try (refine got (p := w6.cell? ⟨w2.heap.size, 4, none⟩ = some (.slice none 0 0)) ?_ ?_; (focus (refine (hc6 _ _ ?_ ?_).trans ?_; (focus (go_size; done)); (focus (first | omega | (simp; omega))); go_simp; done)); intro c6_w20_4)); (try (refine got (p := ∀ o, w6.frozen? ⟨w2.heap.size, o, none⟩ = false) ?_ ?_; (focus (intro o; refine (hf6 _ _ ?_ ?_).trans ?_; (focus (go_size; done)); (focus (first | omega | (simp; omega))); go_simp; done)); intro f6_w20)); clear hc6 hf6)
  have z6 : w5.heap.size ≤ w6.heap.size := by have := hb6.size; simpa using this
  have hg6 := gb_step (gb_set hg5 (.inr (by show w.heap.size ≤ w2.heap.size; omega)) _) hb6
  have T0 := Lib.hid ((T0.out.set2 (.inr (Nat.le_refl _))).keptB hb6 (by omega))
  have T1 := Lib.hid ((T1.out.set2 (.inl (by omega))).keptB hb6 (by omega))
  obtain ⟨N6, hN6⟩ : ∃ N : Nat, 1 + k6 = (N : Int) := ⟨(1 + k6).toNat, by omega⟩
  have w6' : IntKind.i64.wrap (1 + k6) = (N6 : Int) := by rw [IntWalk.i64_in _ (by omega)]; exact hN6
  have bN6 : N6 ≤ 4 := by omega
  clear hb6 hr5 hN6
  go_wp2_with (fail)
  (go_at_call 85; refine (l91Some_any B A (q + 1 + 2 * N1 + 2 + 2 * N4 + 1) N6 (by omega) (by omega) _ hr6).mono ?_; rintro e w7 ⟨v2, xs2, rfl, t2, l2, hr7, hb7⟩; obtain ⟨hc7, hf7, hz7⟩ := bg hb7; (try simp at hz7); (try (refine got (p := w.heap.size < w7.heap.size) ?_ ?_; (focus (go_size; done)); intro q7_w0)); (try (refine got (p := w7.cell? ⟨w.heap.size, 0, none⟩ = some (.slice none 0 0)) ?_ ?_; (focus (refine (hc7 _ _ ?_ ?_).trans ?_; (focus (go_size; done)); (focus (first | omega | (simp; omega))); go_simp; done)); intro c7_w0_0)); (try (refine got (p := w7.cell? ⟨w.heap.size, 1, none⟩ = some (.int .i64 0)) ?_ ?_; (focus (refine (hc7 _ _ ?_ ?_).trans ?_; (focus (go_size; done)); (focus (first | omega | (simp; omega))); go_simp; done)); intro c7_w0_1)); (try (refine got (p := w7.cell? ⟨w.heap.size, 2, none⟩ = some (.bool false)) ?_ ?_; (focus (refine (hc7 _ _ ?_ ?_).trans ?_; (focus (go_size; done)); (focus (first | omega | (simp; omega))); go_simp; done)); intro c7_w0_2)); (try (refine got (p := w7.cell? ⟨w.heap.size, 3, none⟩ = some (.slice none 0 0)) ?_ ?_; (focus (refine (hc7 _ _ ?_ ?_).trans ?_; (focus (go_size; done)); (focus (first | omega | (simp; omega))); go_simp; done)); intro c7_w0_3)); (try (refine got (p := w7.cell? ⟨w.heap.size, 4, none⟩ = some (.slice none 0 0)) ?_ ?_; (focus (refine (hc7 _ _ ?_ ?_).trans ?_; (focus (go_size; done)); (focus (first | omega | (simp; omega))); go_simp; done)); intro c7_w0_4)); (try (refine got (p := ∀ o, w7.frozen? ⟨w.heap.size, o, none⟩ = false) ?_ ?_; (focus (intro o; refine (hf7 _ _ ?_ ?_).trans ?_; (focus (go_size; done)); (focus (first | omega | (simp; omega))); go_simp; done)); intro f7_w0)); (try (refine got (p := w2.heap.size < w7.heap.size) ?_ ?_; (focus (go_size; done)); intro q7_w20)); (try (refine got (p := w7.cell? ⟨w2.heap.size, 0, none⟩ = some (.slice a0 N1 c0)) ?_ ?_; (focus (refine (hc7 _ _ ?_ ?_).trans ?_; (focus (go_size; done)); (focus (first | omega | (simp; omega))); go_simp; done)); intro c7_w20_0)); (try (refine got (p := w7.cell? ⟨w2.heap.size, 1, none⟩ = some (.int .i64 s)) ?_ ?_; (focus (refine (hc7 _ _ ?_ ?_).trans ?_; (focus (go_size; done)); (focus (first | omega | (simp; omega))); go_simp; done)); intro c7_w20_1)); (try (refine got (p := w7.cell? ⟨w2.heap.size, 2, none⟩ = some (.bool false)) ?_ ?_; (focus (refine (hc7 _ _ ?_ ?_).trans ?_; (focus (go_size; done)); (focus (first | omega | (simp; omega))); go_simp; done)); intro c7_w20_2)); (try (refine got (p := w7.cell? ⟨w2.heap.size, 3, none⟩ = some (.slice a1 N4 c1)) ?_ ?_; (focus (refine (hc7 _ _ ?_ ?_).trans ?_; (focus (go_size; done)); (focus (first | omega | (simp; omega))); go_simp; done)); intro c7_w20_3)); (try (refine got (p := w7.cell? ⟨w2.heap.size, 4, none⟩ = some (.slice none 0 0)) ?_ ?_; (focus (refine (hc7 _ _ ?_ ?_).trans ?_; (focus (go_size; done)); (focus (first | omega | (simp; omega))); go_simp; done)); intro c7_w20_4)); (try (refine got (p := ∀ o, w7.frozen? ⟨w2.heap.size, o, none⟩ = false) ?_ ?_; (focus (intro o; refine (hf7 _ _ ?_ ?_).trans ?_; (focus (go_size; done)); (focus (first | omega | (simp; omega))); go_simp; done)); intro f7_w20)); clear hc7 hf7)
  have z7 := hb7.size
  have hg7 := gb_step hg6 hb7
  have T0 := Lib.hid (T0.out.keptB hb7 (by omega))
  have T1 := Lib.hid (T1.out.keptB hb7 (by omega))
  obtain ⟨a2, c2, rfl⟩ : ∃ a c, v2 = .slice a N6 c := by obtain ⟨a, c, e, _⟩ := (LV.sl ⟨_, _, t2⟩); exact ⟨a, c, by rw [e, l2]⟩
  have T2 := Lib.hid t2
  clear hb7 hr6 t2
  go_wp2_with (fail)
  (go_at_call 63; refine (pick_any 40 B A (q + 1 + 2 * N1 + 2 + 2 * N4 + 1 + 2 * N6) ?_ ?_ ?_ _ ?_).mono ?_; (focus omega); (focus omega); (focus omega); (focus ((repeat' (first | (with_reducible refine Rd.set_ ?_ ?_ ?_ _) | (with_reducible refine Rd.alloc ?_ _) | (with_reducible refine Rd.drew ?_) | (refine Rd.more (by assumption) ?_; (first | omega | (simp; omega))) | (show _ ≠ _; (first | omega | (simp; omega))))); done)); rintro e w8 ⟨k8, rfl, h80, h81, hr8, hb8⟩; obtain ⟨hc8, hf8, hz8⟩ := bg hb8; (try simp at hz8); (try (refine got (p := w.heap.size < w8.heap.size) ?_ ?_; (focus (go_size; done)); intro q8_w0)); (try (refine got (p := w8.cell? ⟨w.heap.size, 0, none⟩ = some (.slice none 0 0)) ?_ ?_; (focus (refine (hc8 _ _ ?_ ?_).trans ?_; (focus (go_size; done)); (focus (first | omega | (simp; omega))); go_simp; done)); intro c8_w0_0)); (try (refine got (p := w8.cell? ⟨w.heap.size, 1, none⟩ = some (.int .i64 0)) ?_ ?_; (focus (refine (hc8 _ _ ?_ ?_).trans ?_; (focus (go_size; done)); (focus (first | omega | (simp; omega))); go_simp; done)); intro c8_w0_1)); (try (refine got (p := w8.cell? ⟨w.heap.size, 2, none⟩ = some (.bool false)) ?_ ?_; (focus (refine (hc8 _ _ ?_ ?_).trans ?_; (focus (go_size; done)); (focus (first | omega | (simp; omega))); go_simp; done)); intro c8_w0_2)); (try (refine got (p := w8.cell? ⟨w.heap.size, 3, none⟩ = some (.slice none 0 0)) ?_ ?_; (focus (refine (hc8 _ _ ?_ ?_).trans ?_; (focus (go_size; done)); (focus (first | omega | (simp; omega))); go_simp; done)); intro c8_w0_3)); (try (refine got (p := w8.cell? ⟨w.heap.size, 4, none⟩ = some (.slice none 0 0)) ?_ ?_; (focus (refine (hc8 _ _ ?_ ?_).trans ?_; (focus (go_size; done)); (focus (first | omega | (simp; omega))); go_simp; done)); intro c8_w0_4)); (try (refine got (p := ∀ o, w8.frozen? ⟨w.heap.size, o, none⟩ = false) ?_ ?_; (focus (intro o; refine (hf8 _ _ ?_ ?_).trans ?_; (focus (go_size; done)); (focus (first | omega | (simp; omega))); go_simp; done)); intro f8_w0)); (try (refine got (p := w2.heap.size < w8.heap.size) ?_ ?_; (focus (go_size; done)); intro q8_w20)); (try (refine got (p := w8.cell? ⟨w2.heap.size, 0, none⟩ = some (.slice a0 N1 c0)) ?_ ?_; (focus (refine (hc8 _ _ ?_ ?_).trans ?_; (focus (go_size; done)); (focus (first | omega | (simp; omega))); go_simp; done)); intro c8_w20_0)); (try (refine got (p := w8.cell? ⟨w2.heap.size, 1, none⟩ = some (.int .i64 s)) ?_ ?_; (focus (refine (hc8 _ _ ?_ ?_).trans ?_; (focus (go_size; done)); (focus (first | omega | (simp; omega))); go_simp; done)); intro c8_w20_1)); (try (refine got (p := w8.cell? ⟨w2.heap.size, 2, none⟩ = some (.bool false)) ?_ ?_; (focus (refine (hc8 _ _ ?_ ?_).trans ?_; (focus (go_size; done)); (focus (first | omega | (simp; omega))); go_simp; done)); intro c8_w20_2)); (try (refine got (p := w8.cell? ⟨w2.heap.size, 3, none⟩ = some (.slice a1 N4 c1)) ?_ ?_; (focus (refine (hc8 _ _ ?_ ?_).trans ?_; (focus (go_size; done)); (focus (first | omega | (simp; omega))); go_simp; done)); intro c8_w20_3)); (try (refine got (p := w8.cell? ⟨w2.heap.size, 4, none⟩ = some (.slice a2 N6 c2)) ?_ ?_; (focus (refine (hc8 _ _ ?_ ?_).trans ?_; (focus (go_size; done)); (focus (first | omega | (simp; omega))); go_simp; done)); intro c8_w20_4)); (try (refine got (p := ∀ o, w8.frozen? ⟨w2.heap.size, o, none⟩ = false) ?_ ?_; (focus (intro o; refine (hf8 _ _ ?_ ?_).trans ?_; (focus (go_size; done)); (focus (first | omega | (simp; omega))); go_simp; done)); intro f8_w20)); clear hc8 hf8)
  have z8 : w7.heap.size ≤ w8.heap.size := by have := hb8.size; simpa using this
  have hg8 := gb_step (gb_set hg7 (.inr (by show w.heap.size ≤ w2.heap.size; omega)) _) hb8
  have T0 := Lib.hid ((T0.out.set2 (.inr (Nat.le_refl _))).keptB hb8 (by omega))
  have T1 := Lib.hid ((T1.out.set2 (.inl (by omega))).keptB hb8 (by omega))
  have T2 := Lib.hid ((T2.out.set2 (.inl (by omega))).keptB hb8 (by omega))
  clear hb8 hr7 hg1 hg2 hg3 hg4 hg5 hg6 hg7
  by_cases g0 : k8 = 0
  · subst g0
    go_wp2
    refine bodyPost_ret (v := .agg #[.slice a0 N1 c0, .int .i64 21, .bool false, .slice a1 N4 c1, .slice a2 N6 c2]) (by simp only [results, Try.results75]; go_simp) rfl ?_
    refine psPicked (p := ⟨xs0, (21, false), xs1, xs2⟩) (q' := q + 1 + 2 * N1 + 2 + 2 * N4 + 1 + 2 * N6 + 1) (a0 := w1.heap.size) (b0 := w2.heap.size) (a1 := w4.heap.size) (b1 := w5.heap.size) (a2 := w6.heap.size) (b2 := w7.heap.size) ?_ ?_ ?_ (by omega) ⟨by first | (simp [World.setCell]; done) | (simp [World.setCell]; omega), by first | (simp [World.setCell]; done) | (simp [World.setCell]; omega), by first | (simp [World.setCell]; done) | (simp [World.setCell]; omega)⟩ ⟨by show xs0.length ≤ 6; omega, by show xs1.length ≤ 6; omega, by show xs2.length ≤ 6; omega⟩ ?_ ?_ ?_
    · repeat (with_reducible refine TRow.set2 ?_ (by omega))
      exact T0.out
    · repeat (with_reducible refine TRow.set2 ?_ (by omega))
      exact T1.out
    · repeat (with_reducible refine TRow.set2 ?_ (by omega))
      exact T2.out
    · (repeat' (first | (with_reducible refine Rd.set_ ?_ ?_ ?_ _) | (with_reducible refine Rd.alloc ?_ _) | (with_reducible refine Rd.drew ?_) | (refine Rd.more (by assumption) ?_; (first | omega | (simp; omega))) | (show _ ≠ _; (first | omega | (simp; omega)))))
    · omega
    · (repeat' (first | (with_reducible exact gb_refl _ _) | (with_reducible refine gb_alloc ?_ _) | (with_reducible refine gb_drew ?_) | (with_reducible refine gb_set ?_ ?_ _) | (with_reducible refine gb_step ?_ (by assumption)) | (with_reducible refine gb_bl ?_ (by assumption)) | (left; rfl) | (right; go_size) | go_size))
  have e0 : (k8 == 0) = false := by simpa using g0
  by_cases g1 : k8 = 1
  · subst g1
    have T3 := Lib.hid (ToI.start w8).row
    have T0 := Lib.hid (T0.out.below2 ((Below.refl _ _).alloc (Nat.le_refl _) (.cells #[] 25)))
    have T2 := Lib.hid (T2.out.below2 ((Below.refl _ _).alloc (Nat.le_refl _) (.cells #[] 25)))
    obtain ⟨W9, hW9⟩ : ∃ W, W = w8.alloc (.cells #[] 25) := ⟨_, rfl⟩
    have hb9 : Below w8.heap.size w8 W9 := by rw [hW9]; exact (Below.refl _ _).alloc (Nat.le_refl _) _
    rw [← hW9] at T3 T0 T2
    have HZ9 : Hid (W9.heap.size = w8.heap.size + 1) := by show _ = _; rw [hW9]; exact World.size_alloc _ _
    have hg9 : w.grownBy W9 (some B) := by rw [hW9]; exact gb_alloc hg8 _
    have hr9 : Rd W9 B A (q + 1 + 2 * N1 + 2 + 2 * N4 + 1 + 2 * N6 + 1) := by rw [hW9]; exact hr8.alloc _
    have q9_w0 : w.heap.size < W9.heap.size := by have := HZ9.out; omega
    have c9_w0_0 := keepc c8_w0_0 hb9
    have c9_w0_1 := keepc c8_w0_1 hb9
    have c9_w0_2 := keepc c8_w0_2 hb9
    have c9_w0_3 := keepc c8_w0_3 hb9
    have c9_w0_4 := keepc c8_w0_4 hb9
    have f9_w0 : ∀ o, W9.frozen? ⟨w.heap.size, o, none⟩ = false := fun o => ((bl hb9).2.1 _ o (by omega)).trans (f8_w0 o)
    have q9_w20 : w2.heap.size < W9.heap.size := by have := HZ9.out; omega
    have c9_w20_0 := keepc c8_w20_0 hb9
    have c9_w20_1 := keepc c8_w20_1 hb9
    have c9_w20_2 := keepc c8_w20_2 hb9
    have c9_w20_3 := keepc c8_w20_3 hb9
    have c9_w20_4 := keepc c8_w20_4 hb9
    have f9_w20 : ∀ o, W9.frozen? ⟨w2.heap.size, o, none⟩ = false := fun o => ((bl hb9).2.1 _ o (by omega)).trans (f8_w20 o)
    have HW9 := Lib.hid hW9
    have HG9 := Lib.hid hg9
    have HR9 := Lib.hid hr9
    clear g0 hW9 hb9 hg9 hr9 hg8 hr8
    go_wp2_with (rw [← HW9.out])
    have z9 := HZ9.out
    have hg9 := HG9.out
    have hr9 := HR9.out
    refine bodyPost_ret (v := .agg #[.slice a0 N1 c0, .int .i64 s, .bool false, .slice (some ⟨w8.heap.size, 0, none⟩) 0 0, .slice a2 N6 c2]) (by simp only [results, Try.results75]; go_simp) rfl ?_
    refine psPicked (p := ⟨xs0, (s, false), [], xs2⟩) (q' := q + 1 + 2 * N1 + 2 + 2 * N4 + 1 + 2 * N6 + 1) (a0 := w1.heap.size) (b0 := w2.heap.size) (a1 := w8.heap.size) (b1 := W9.heap.size) (a2 := w6.heap.size) (b2 := w7.heap.size) ?_ ?_ ?_ (by omega) ⟨by first | (simp [World.setCell]; done) | (simp [World.setCell]; omega), by first | (simp [World.setCell]; done) | (simp [World.setCell]; omega), by first | (simp [World.setCell]; done) | (simp [World.setCell]; omega)⟩ ⟨by show xs0.length ≤ 6; omega, by show ([] : List (Int × Bool)).length ≤ 6; simp, by show xs2.length ≤ 6; omega⟩ ?_ ?_ ?_
    · repeat (with_reducible refine TRow.set2 ?_ (by omega))
      exact T0.out
    · repeat (with_reducible refine TRow.set2 ?_ (by omega))
      exact T3.out
    · repeat (with_reducible refine TRow.set2 ?_ (by omega))
      exact T2.out
    · (repeat' (first | (with_reducible refine Rd.set_ ?_ ?_ ?_ _) | (with_reducible refine Rd.alloc ?_ _) | (with_reducible refine Rd.drew ?_) | (refine Rd.more (by assumption) ?_; (first | omega | (simp; omega))) | (show _ ≠ _; (first | omega | (simp; omega)))))
    · omega
    · (repeat' (first | (with_reducible exact gb_refl _ _) | (with_reducible refine gb_alloc ?_ _) | (with_reducible refine gb_drew ?_) | (with_reducible refine gb_set ?_ ?_ _) | (with_reducible refine gb_step ?_ (by assumption)) | (with_reducible refine gb_bl ?_ (by assumption)) | (left; rfl) | (right; go_size) | go_size))
  have e1 : (k8 == 1) = false := by simpa using g1
  by_cases g2 : k8 = 2
  · subst g2
    clear g0 g1
    go_wp2_with (fail)
    (go_at_call 85; refine (l91Some_any B A (q + 1 + 2 * N1 + 2 + 2 * N4 + 1 + 2 * N6 + 1) 5 (by omega) (by omega) _ hr8).mono ?_; rintro e w9 ⟨v3, xs3, rfl, t3, l3, hr9, hb9⟩; obtain ⟨hc9, hf9, hz9⟩ := bg hb9; (try simp at hz9); (try (refine got (p := w.heap.size < w9.heap.size) ?_ ?_; (focus (go_size; done)); intro q9_w0)); (try (refine got (p := w9.cell? ⟨w.heap.size, 0, none⟩ = some (.slice none 0 0)) ?_ ?_; (focus (refine (hc9 _ _ ?_ ?_).trans ?_; (focus (go_size; done)); (focus (first | omega | (simp; omega))); go_simp; done)); intro c9_w0_0)); (try (refine got (p := w9.cell? ⟨w.heap.size, 1, none⟩ = some (.int .i64 0)) ?_ ?_; (focus (refine (hc9 _ _ ?_ ?_).trans ?_; (focus (go_size; done)); (focus (first | omega | (simp; omega))); go_simp; done)); intro c9_w0_1)); (try (refine got (p := w9.cell? ⟨w.heap.size, 2, none⟩ = some (.bool false)) ?_ ?_; (focus (refine (hc9 _ _ ?_ ?_).trans ?_; (focus (go_size; done)); (focus (first | omega | (simp; omega))); go_simp; done)); intro c9_w0_2)); (try (refine got (p := w9.cell? ⟨w.heap.size, 3, none⟩ = some (.slice none 0 0)) ?_ ?_; (focus (refine (hc9 _ _ ?_ ?_).trans ?_; (focus (go_size; done)); (focus (first | omega | (simp; omega))); go_simp; done)); intro c9_w0_3)); (try (refine got (p := w9.cell? ⟨w.heap.size, 4, none⟩ = some (.slice none 0 0)) ?_ ?_; (focus (refine (hc9 _ _ ?_ ?_).trans ?_; (focus (go_size; done)); (focus (first | omega | (simp; omega))); go_simp; done)); intro c9_w0_4)); (try (refine got (p := ∀ o, w9.frozen? ⟨w.heap.size, o, none⟩ = false) ?_ ?_; (focus (intro o; refine (hf9 _ _ ?_ ?_).trans ?_; (focus (go_size; done)); (focus (first | omega | (simp; omega))); go_simp; done)); intro f9_w0)); (try (refine got (p := w2.heap.size < w9.heap.size) ?_ ?_; (focus (go_size; done)); intro q9_w20)); (try (refine got (p := w9.cell? ⟨w2.heap.size, 0, none⟩ = some (.slice a0 N1 c0)) ?_ ?_; (focus (refine (hc9 _ _ ?_ ?_).trans ?_; (focus (go_size; done)); (focus (first | omega | (simp; omega))); go_simp; done)); intro c9_w20_0)); (try (refine got (p := w9.cell? ⟨w2.heap.size, 1, none⟩ = some (.int .i64 s)) ?_ ?_; (focus (refine (hc9 _ _ ?_ ?_).trans ?_; (focus (go_size; done)); (focus (first | omega | (simp; omega))); go_simp; done)); intro c9_w20_1)); (try (refine got (p := w9.cell? ⟨w2.heap.size, 2, none⟩ = some (.bool false)) ?_ ?_; (focus (refine (hc9 _ _ ?_ ?_).trans ?_; (focus (go_size; done)); (focus (first | omega | (simp; omega))); go_simp; done)); intro c9_w20_2)); (try (refine got (p := w9.cell? ⟨w2.heap.size, 3, none⟩ = some (.slice a1 N4 c1)) ?_ ?_; (focus (refine (hc9 _ _ ?_ ?_).trans ?_; (focus (go_size; done)); (focus (first | omega | (simp; omega))); go_simp; done)); intro c9_w20_3)); (try (refine got (p := w9.cell? ⟨w2.heap.size, 4, none⟩ = some (.slice a2 N6 c2)) ?_ ?_; (focus (refine (hc9 _ _ ?_ ?_).trans ?_; (focus (go_size; done)); (focus (first | omega | (simp; omega))); go_simp; done)); intro c9_w20_4)); (try (refine got (p := ∀ o, w9.frozen? ⟨w2.heap.size, o, none⟩ = false) ?_ ?_; (focus (intro o; refine (hf9 _ _ ?_ ?_).trans ?_; (focus (go_size; done)); (focus (first | omega | (simp; omega))); go_simp; done)); intro f9_w20)); clear hc9 hf9)
    have z9 := hb9.size
    have hg9 := gb_step hg8 hb9
    have T0 := Lib.hid (T0.out.keptB hb9 (by omega))
    have T1 := Lib.hid (T1.out.keptB hb9 (by omega))
    obtain ⟨a3, c3, rfl⟩ : ∃ a c, v3 = .slice a 5 c := by obtain ⟨a, c, e, _⟩ := (LV.sl ⟨_, _, t3⟩); exact ⟨a, c, by rw [e, l3]⟩
    have T3 := Lib.hid t3
    clear hb9 hr8 t3 hg8
    go_wp2
    refine bodyPost_ret (v := .agg #[.slice a0 N1 c0, .int .i64 s, .bool false, .slice a1 N4 c1, .slice a3 5 c3]) (by simp only [results, Try.results75]; go_simp) rfl ?_
    refine psPicked (p := ⟨xs0, (s, false), xs1, xs3⟩) (q' := q + 1 + 2 * N1 + 2 + 2 * N4 + 1 + 2 * N6 + 1 + 2 * 5) (a0 := w1.heap.size) (b0 := w2.heap.size) (a1 := w4.heap.size) (b1 := w5.heap.size) (a2 := w8.heap.size) (b2 := w9.heap.size) ?_ ?_ ?_ (by omega) ⟨by first | (simp [World.setCell]; done) | (simp [World.setCell]; omega), by first | (simp [World.setCell]; done) | (simp [World.setCell]; omega), by first | (simp [World.setCell]; done) | (simp [World.setCell]; omega)⟩ ⟨by show xs0.length ≤ 6; omega, by show xs1.length ≤ 6; omega, by show xs3.length ≤ 6; omega⟩ ?_ ?_ ?_
    · repeat (with_reducible refine TRow.set2 ?_ (by omega))
      exact T0.out
    · repeat (with_reducible refine TRow.set2 ?_ (by omega))
      exact T1.out
    · repeat (with_reducible refine TRow.set2 ?_ (by omega))
      exact T3.out
    · (repeat' (first | (with_reducible refine Rd.set_ ?_ ?_ ?_ _) | (with_reducible refine Rd.alloc ?_ _) | (with_reducible refine Rd.drew ?_) | (refine Rd.more (by assumption) ?_; (first | omega | (simp; omega))) | (show _ ≠ _; (first | omega | (simp; omega)))))
    · omega
    · (repeat' (first | (with_reducible exact gb_refl _ _) | (with_reducible refine gb_alloc ?_ _) | (with_reducible refine gb_drew ?_) | (with_reducible refine gb_set ?_ ?_ _) | (with_reducible refine gb_step ?_ (by assumption)) | (with_reducible refine gb_bl ?_ (by assumption)) | (left; rfl) | (right; go_size) | go_size))
  have e2 : (k8 == 2) = false := by simpa using g2
  · clear g0 g1 g2
    go_wp2
    refine bodyPost_ret (v := .agg #[.slice a0 N1 c0, .int .i64 s, .bool false, .slice a1 N4 c1, .slice a2 N6 c2]) (by simp only [results, Try.results75]; go_simp) rfl ?_
    refine psPicked (p := ⟨xs0, (s, false), xs1, xs2⟩) (q' := q + 1 + 2 * N1 + 2 + 2 * N4 + 1 + 2 * N6 + 1) (a0 := w1.heap.size) (b0 := w2.heap.size) (a1 := w4.heap.size) (b1 := w5.heap.size) (a2 := w6.heap.size) (b2 := w7.heap.size) ?_ ?_ ?_ (by omega) ⟨by first | (simp [World.setCell]; done) | (simp [World.setCell]; omega), by first | (simp [World.setCell]; done) | (simp [World.setCell]; omega), by first | (simp [World.setCell]; done) | (simp [World.setCell]; omega)⟩ ⟨by show xs0.length ≤ 6; omega, by show xs1.length ≤ 6; omega, by show xs2.length ≤ 6; omega⟩ ?_ ?_ ?_
    · repeat (with_reducible refine TRow.set2 ?_ (by omega))
      exact T0.out
    · repeat (with_reducible refine TRow.set2 ?_ (by omega))
      exact T1.out
    · repeat (with_reducible refine TRow.set2 ?_ (by omega))
      exact T2.out
    · (repeat' (first | (with_reducible refine Rd.set_ ?_ ?_ ?_ _) | (with_reducible refine Rd.alloc ?_ _) | (with_reducible refine Rd.drew ?_) | (refine Rd.more (by assumption) ?_; (first | omega | (simp; omega))) | (show _ ≠ _; (first | omega | (simp; omega)))))
    · omega
    · (repeat' (first | (with_reducible exact gb_refl _ _) | (with_reducible refine gb_alloc ?_ _) | (with_reducible refine gb_drew ?_) | (with_reducible refine gb_set ?_ ?_ _) | (with_reducible refine gb_step ?_ (by assumption)) | (with_reducible refine gb_bl ?_ (by assumption)) | (left; rfl) | (right; go_size) | go_size))
end Go.Proofs.Ytcmcdomfmmjogaa
