/-
  The texts of tones in the model.
-/
import Derived.Test.YtjodcaeohkjlnaaDoorTones
import Derived.Test.YtjodcaeohkjlnaaDoorTxm
import Derived.Laws.IdiomStrings
import Derived.Laws.Concat
import Derived.Deep.RegionHeld3
import Derived.Deep.RegionWith
import Derived.IntWalk
namespace Go.Proofs.YtjodcaeohkjlnaaDoor
open Go.RowKit
set_option maxRecDepth 100000
set_option linter.unusedVariables false

theorem conv_one (c : UInt8) (w : World) :
    (convert 22 9 (.slice (some ⟨w.heap.size, 0, none⟩) 1 1)).run Tryd.prog (w.alloc (.cells #[.int .u8 (c.toNat : Int)] 5)) = .ok (.string ⟨#[c]⟩) (w.alloc (.cells #[.int .u8 (c.toNat : Int)] 5)) := by
  have h := run_convert_bytes_back (P := Tryd.prog) (w.alloc (.cells #[.int .u8 (c.toNat : Int)] 5)) 22 9 5 ⟨w.heap.size, 0, none⟩ 1 [c] Tryd.underlying22 Tryd.underlying5 Tryd.underlying9 (fun j hj => by
    have : j = 0 := by simpa using hj
    subst this
    simp [Addr.add])
  exact h

/-- one digit as a text -/
def dg (d : Int) : ByteArray := ⟨#[([48, 49, 50] : List UInt8).getD d.toNat 0]⟩

set_option maxHeartbeats 1000000 in
theorem l6Dec_any (d : Int) (h0 : 0 ≤ d) (h1 : d ≤ 2) (w : World) :
    Calls Tryd.prog 81 #[.int .i64 d] w fun e w' => e = .returned (.string (dg d)) ∧ Below w.heap.size w w' := by
  have c0 := conv_one 48
  have c1 := conv_one 49
  have c2 := conv_one 50
  have k0 : ((48 : UInt8).toNat : Int) = 48 := rfl
  have k1 : ((49 : UInt8).toNat : Int) = 49 := rfl
  have k2 : ((50 : UInt8).toNat : Int) = 50 := rfl
  rw [k0] at c0
  rw [k1] at c1
  rw [k2] at c2
  clear k0 k1 k2
  have : d = 0 ∨ d = 1 ∨ d = 2 := by omega
  clear h0 h1
  rcases this with rfl | rfl | rfl
  all_goals
    go_enter Tryd.func81, Tryd.ntmps81
    go_wp2_with (fail)
    go_ret
    exact ⟨rfl, by (repeat' (first | (with_reducible exact Below.refl _ _) | (with_reducible refine Below.alloc ?_ ?_ _) | (with_reducible refine Below.drew ?_) | (with_reducible refine Below.setCell ?_ ?_ _) | (with_reducible refine bl_step ?_ (by assumption)) | go_size))⟩

theorem add_one (a b : UInt8) : (⟨#[a]⟩ : ByteArray) ++ (⟨#[b]⟩ : ByteArray) = ⟨#[a, b]⟩ := rfl

set_option maxHeartbeats 2000000 in
theorem sToneText_any (s : Int) (b : Bool) (w : World) :
    Calls Tryd.prog 22 #[.agg #[.int .i64 s, .bool b]] w fun e w' => e = .returned (.string (ttx s b)) ∧ Below w.heap.size w w' := by
  by_cases hv : vd s b = false
  · rw [ttx_no hv]
    go_enter Tryd.func22, Tryd.ntmps22
    go_wp2_with (go_at_call 80; refine (sToneValid_any _ _ _).mono ?_; rintro e w1 ⟨rfl, hb1⟩; obtain ⟨hc1, hf1, hz1⟩ := bl hb1; (try simp at hz1); (try (refine got (p := w.heap.size < w1.heap.size) ?_ ?_; (focus (go_size; done)); intro q1_w0)); (try (refine got (p := w1.cell? ⟨w.heap.size, 0, none⟩ = some (.int .i64 s)) ?_ ?_; (focus (refine (hc1 _ _ ?_).trans ?_; (focus (go_size; done)); go_simp; done)); intro c1_w0_0)); (try (refine got (p := w1.cell? ⟨w.heap.size, 1, none⟩ = some (.bool b)) ?_ ?_; (focus (refine (hc1 _ _ ?_).trans ?_; (focus (go_size; done)); go_simp; done)); intro c1_w0_1)); (try (refine got (p := ∀ o, w1.frozen? ⟨w.heap.size, o, none⟩ = false) ?_ ?_; (focus (intro o; refine (hf1 _ _ ?_).trans ?_; (focus (go_size; done)); go_simp; done)); intro f1_w0)); clear hc1 hf1)
    go_ret
    exact ⟨rfl, by (repeat' (first | (with_reducible exact Below.refl _ _) | (with_reducible refine Below.alloc ?_ ?_ _) | (with_reducible refine Below.drew ?_) | (with_reducible refine Below.setCell ?_ ?_ _) | (with_reducible refine bl_step ?_ (by assumption)) | go_size))⟩
  rw [Bool.not_eq_false] at hv
  rw [ttx_yes hv]
  obtain ⟨h0, h1⟩ := vd_in hv
  have hd0 : (0 : Int) ≤ s / 7 := by omega
  have hd1 : s / 7 ≤ 2 := by omega
  have HT1 : Hid (dg (s / 7) = ⟨#[tb1 s]⟩) := (rfl : dg (s / 7) = ⟨#[tb1 s]⟩)
  cases b
  · have HT0 : Hid (tl s false = ⟨#[tb0 s false]⟩) := by
      have := tl_yes hv
      rw [this]; rfl
    go_enter Tryd.func22, Tryd.ntmps22
    go_wp2_with (fail)
    (go_at_call 80; refine (sToneValid_any _ _ _).mono ?_; rintro e w1 ⟨rfl, hb1⟩; obtain ⟨hc1, hf1, hz1⟩ := bl hb1; (try simp at hz1); (try (refine got (p := w.heap.size < w1.heap.size) ?_ ?_; (focus (go_size; done)); intro q1_w0)); (try (refine got (p := w1.cell? ⟨w.heap.size, 0, none⟩ = some (.int .i64 s)) ?_ ?_; (focus (refine (hc1 _ _ ?_).trans ?_; (focus (go_size; done)); go_simp; done)); intro c1_w0_0)); (try (refine got (p := w1.cell? ⟨w.heap.size, 1, none⟩ = some (.bool false)) ?_ ?_; (focus (refine (hc1 _ _ ?_).trans ?_; (focus (go_size; done)); go_simp; done)); intro c1_w0_1)); (try (refine got (p := ∀ o, w1.frozen? ⟨w.heap.size, o, none⟩ = false) ?_ ?_; (focus (intro o; refine (hf1 _ _ ?_).trans ?_; (focus (go_size; done)); go_simp; done)); intro f1_w0)); clear hc1 hf1)
    go_wp2_with (fail)
    have hbw : Below w.heap.size w w1 := by (repeat' (first | (with_reducible exact Below.refl _ _) | (with_reducible refine Below.alloc ?_ ?_ _) | (with_reducible refine Below.drew ?_) | (with_reducible refine Below.setCell ?_ ?_ _) | (with_reducible refine bl_step ?_ (by assumption)) | go_size))
    obtain ⟨q, e1, e2, q1, q2⟩ : ∃ q : Nat, s.tdiv 7 = (q : Int) ∧ s / 7 = (q : Int) ∧ (0 : Int) ≤ (q : Int) ∧ (q : Int) ≤ 2 := ⟨(s / 7).toNat, by rw [Int.tdiv_eq_ediv_of_nonneg h0]; omega, by omega, by omega, by omega⟩
    rw [e2] at HT1
    have s1 : IntKind.i64.wrap (q : Int) = (q : Int) := IntWalk.i64_in _ (by omega)
    have hadd : ∀ W : World, (Op.stringOp .add (tl s false) (dg (q : Int))).run Tryd.prog W = .ok (.string ⟨#[tb0 s false, tb1 s]⟩) W := fun W => by
      rw [HT0.out, HT1.out]
      exact run_string_add_sum W _ _ (by show 1 + 1 ≤ 9223372036854775807; omega)
    clear e2 hd0 hd1
    go_region_held3 (fun wx => wx.cell? ⟨w.heap.size, 0, none⟩ = some (.int .i64 s) ∧ wx.cell? ⟨w.heap.size, 1, none⟩ = some (.bool false)) (go_keep)
      (first | (go_at_call 82; refine (sToneLetter_any s false _).mono ?_; rintro e w2 ⟨rfl, hb2⟩; have d0 := (hb2.cell (p := ⟨w.heap.size, 0, none⟩) q1_w0).trans c1_w0_0; have d1 := (hb2.cell (p := ⟨w.heap.size, 1, none⟩) q1_w0).trans c1_w0_1; have dz := Nat.lt_of_lt_of_le q1_w0 hb2.size) | (go_at_call 81; refine (l6Dec_any (q : Int) q1 q2 _).mono ?_; rintro e w3 ⟨rfl, hb3⟩; have d2 := (hb3.cell (p := ⟨w.heap.size, 0, none⟩) dz).trans d0; have d3 := (hb3.cell (p := ⟨w.heap.size, 1, none⟩) dz).trans d1))
    go_wp2
    go_ret
    exact ⟨rfl, bl_step (bl_step hbw.drew hb2) hb3⟩
  · go_enter Tryd.func22, Tryd.ntmps22
    go_wp2_with (fail)
    (go_at_call 80; refine (sToneValid_any _ _ _).mono ?_; rintro e w1 ⟨rfl, hb1⟩; obtain ⟨hc1, hf1, hz1⟩ := bl hb1; (try simp at hz1); (try (refine got (p := w.heap.size < w1.heap.size) ?_ ?_; (focus (go_size; done)); intro q1_w0)); (try (refine got (p := w1.cell? ⟨w.heap.size, 0, none⟩ = some (.int .i64 s)) ?_ ?_; (focus (refine (hc1 _ _ ?_).trans ?_; (focus (go_size; done)); go_simp; done)); intro c1_w0_0)); (try (refine got (p := w1.cell? ⟨w.heap.size, 1, none⟩ = some (.bool true)) ?_ ?_; (focus (refine (hc1 _ _ ?_).trans ?_; (focus (go_size; done)); go_simp; done)); intro c1_w0_1)); (try (refine got (p := ∀ o, w1.frozen? ⟨w.heap.size, o, none⟩ = false) ?_ ?_; (focus (intro o; refine (hf1 _ _ ?_).trans ?_; (focus (go_size; done)); go_simp; done)); intro f1_w0)); clear hc1 hf1)
    go_wp2_with (fail)
    have hadd : ∀ W : World, (Op.stringOp .add ⟨#[98]⟩ (dg (s / 7))).run Tryd.prog W = .ok (.string ⟨#[tb0 s true, tb1 s]⟩) W := fun W => by
      rw [HT1.out]
      exact run_string_add_sum W _ _ (by show 1 + 1 ≤ 9223372036854775807; omega)
    (go_at_call 81; refine (l6Dec_any _ hd0 hd1 _).mono ?_; rintro e w2 ⟨rfl, hb2⟩; obtain ⟨hc2, hf2, hz2⟩ := bl hb2; (try simp at hz2); (try (refine got (p := w.heap.size < w2.heap.size) ?_ ?_; (focus (go_size; done)); intro q2_w0)); (try (refine got (p := w2.cell? ⟨w.heap.size, 0, none⟩ = some (.int .i64 s)) ?_ ?_; (focus (refine (hc2 _ _ ?_).trans ?_; (focus (go_size; done)); go_simp; done)); intro c2_w0_0)); (try (refine got (p := w2.cell? ⟨w.heap.size, 1, none⟩ = some (.bool true)) ?_ ?_; (focus (refine (hc2 _ _ ?_).trans ?_; (focus (go_size; done)); go_simp; done)); intro c2_w0_1)); (try (refine got (p := ∀ o, w2.frozen? ⟨w.heap.size, o, none⟩ = false) ?_ ?_; (focus (intro o; refine (hf2 _ _ ?_).trans ?_; (focus (go_size; done)); go_simp; done)); intro f2_w0)); clear hc2 hf2)
    go_wp2
    go_ret
    exact ⟨rfl, by (repeat' (first | (with_reducible exact Below.refl _ _) | (with_reducible refine Below.alloc ?_ ?_ _) | (with_reducible refine Below.drew ?_) | (with_reducible refine Below.setCell ?_ ?_ _) | (with_reducible refine bl_step ?_ (by assumption)) | go_size))⟩
end Go.Proofs.YtjodcaeohkjlnaaDoor
