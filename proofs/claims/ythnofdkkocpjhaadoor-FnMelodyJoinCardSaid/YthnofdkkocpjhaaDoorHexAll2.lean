/-
  All hexachords of a tone, as the program builds them.
-/
import Derived.Test.YthnofdkkocpjhaaDoorHexAll
namespace Go.Proofs.YthnofdkkocpjhaaDoor
open Go.RowKit
set_option maxRecDepth 100000
set_option linter.unusedVariables false

def TblAt (w : World) (B : Nat) : Prop := w.heap[B]? = some (.cells hexTbl 86 (0, 0))
theorem TblAt.lt {w : World} {B : Nat} (h : TblAt w B) : B < w.heap.size := by
  unfold TblAt at h
  rcases Nat.lt_or_ge B w.heap.size with h' | h'
  · exact h'
  · rw [Array.getElem?_eq_none h'] at h; cases h
theorem TblAt.hex {w : World} {B : Nat} (h : TblAt w B) : HexAt w B := fun i v hv => by unfold TblAt at h; simp [World.cell?, h, hv]
theorem TblAt.below {w w' : World} {B : Nat} (h : TblAt w B) (hb : Below w.heap.size w w') : TblAt w' B := (hb.block B h.lt).trans h
theorem TblAt.app {w w' : World} {B base n : Nat} {v : Value} {xs : List Value} {o : Obj} (h : TblAt w B) (hown : w.ownsRow base 3 1 v n xs) (hg : (w.alloc o).grownBy w' v.ownBlock) : TblAt w' B := by
  have hne : some B ≠ v.ownBlock := by
    intro e
    obtain ⟨_, h1 | ⟨g, cap, cur, rfl, _, hh, _⟩⟩ := hown
    · rw [h1.1] at e; simp [Value.ownBlock] at e
    · have e' : g = B := by simpa [Value.ownBlock] using e.symm
      subst e'
      unfold TblAt at h
      rw [h] at hh
      injection hh with hh
      injection hh with _ ht
      exact absurd ht (by decide)
  exact (hg.block B (Nat.lt_of_lt_of_le h.lt (by simp)) hne).trans ((Below.heap_alloc w o B h.lt).trans h)

def rowAt (k : Nat) : Int := rowsOf.getD k 0
theorem rowAt_hex {k : Nat} (h : k < 7) : hxv (rowAt k) = true ∧ 2 * hix (rowAt k) = k * 2 := by
  have : k = 0 ∨ k = 1 ∨ k = 2 ∨ k = 3 ∨ k = 4 ∨ k = 5 ∨ k = 6 := by omega
  rcases this with rfl | rfl | rfl | rfl | rfl | rfl | rfl <;> decide
theorem rall_hit {s : Int} {b : Bool} {k : Nat} (hk : k < 7) (h : 0 ≤ hsy (rowAt k) s b) : rall s b (k + 1) = rall s b k ++ [rowAt k] := by
  have e : rowsOf.take (k + 1) = rowsOf.take k ++ [rowAt k] := by
    have : k = 0 ∨ k = 1 ∨ k = 2 ∨ k = 3 ∨ k = 4 ∨ k = 5 ∨ k = 6 := by omega
    rcases this with rfl | rfl | rfl | rfl | rfl | rfl | rfl <;> rfl
  simp [rall, e, List.filter_append, inHex, h]
theorem rall_miss {s : Int} {b : Bool} {k : Nat} (hk : k < 7) (h : hsy (rowAt k) s b < 0) : rall s b (k + 1) = rall s b k := by
  have e : rowsOf.take (k + 1) = rowsOf.take k ++ [rowAt k] := by
    have : k = 0 ∨ k = 1 ∨ k = 2 ∨ k = 3 ∨ k = 4 ∨ k = 5 ∨ k = 6 := by omega
    rcases this with rfl | rfl | rfl | rfl | rfl | rfl | rfl <;> rfl
  have : ¬ 0 ≤ hsy (rowAt k) s b := by omega
  simp [rall, e, List.filter_append, inHex, this]
theorem rall_len (s : Int) (b : Bool) (k : Nat) : (rall s b k).length ≤ 7 := by
  unfold rall; exact Nat.le_trans (List.length_filter_le _ _) (by simp [rowsOf]; omega)

theorem AllInv.drew {s : Int} {b : Bool} {w wr : World} {v : Value} {xs : List Int} (h : AllInv s b w wr v xs) : AllInv s b w wr.drew v xs := ⟨h.1, h.2.1, h.2.2.1, h.2.2.2.1, h.2.2.2.2.drew⟩

set_option maxRecDepth 100000 in
set_option maxHeartbeats 4000000 in
theorem hexAll_any (s : Int) (b : Bool) (w : World) :
    Calls Tryd.prog 30 #[.agg #[.int .i64 s, .bool b]] w (Built w (rall s b 7)) := by
  obtain ⟨i0, hi, hq0, hq1, hq2⟩ := info_parts infoInt
  go_enter Tryd.func30, Tryd.ntmps30
  go_wp2_with (go_at_call 42; refine (newHex_any _).mono ?_; rintro e wx ⟨rfl, rfl⟩)
  go_loopw [3, 8] (fun v i wr => ∃ k : Nat, k ≤ 7 ∧ i = .int .i64 k ∧ AllInv s b w wr v (rall s b k) ∧ TblAt wr (w.heap.size + 2)) (fun _ i _ => 7 - (intOf i).toNat)
  case atStart =>
    refine ⟨0, by omega, rfl, (AllInv.start s b w).below ((Below.refl _ _).alloc (Nat.le_refl _) _), ?_⟩
    have := heap_alloc_new ((w.alloc (.cells #[.int .i64 s, .bool b] 52)).alloc (.cells #[] 3)) (.cells hexTbl 86)
    simpa [TblAt] using this
  case round =>
    obtain ⟨k, hk, rfl, hinv, htb⟩ := hrel
    have d0 := hinv.2.1
    have d1 := hinv.2.2.1
    by_cases hlt : k < 7
    · obtain ⟨hx, hx2⟩ := rowAt_hex hlt
      obtain ⟨c0, c1⟩ := htb.hex.row hx
      rw [hx2] at c0 c1
      have hB := htb.lt
      have k0 : (0 : Int) ≤ (k : Int) := by omega
      have k1 : (k : Int) < 7 := by omega
      clear hx2
      by_cases hh : 0 ≤ hsy (rowAt k) s b
      · have HX := Lib.hid (rall_hit hlt hh)
        have hl := rall_len s b k
        go_wp2
        go_region_held3 (fun wx => wx.cell? ⟨w.heap.size, 0, none⟩ = some (.int .i64 s) ∧ wx.cell? ⟨w.heap.size, 1, none⟩ = some (.bool b)) (go_keep)
          (first | (go_at_call 43; refine (syl_row _ _ _ _ _ hx _ ?_ ?_ ?_).mono ?_; (focus (exact c0)); (focus (exact c1)); (focus (exact hB)); rintro e w1 ⟨rfl, hb1⟩; have d2 := (hinv.drew.below hb1).2.1; have d3 := (hinv.drew.below hb1).2.2.1))
        have hinv1 := hinv.drew.below hb1
        have htb1 : TblAt w1 (w.heap.size + 2) := TblAt.below (w := wr.drew) htb hb1
        obtain ⟨e0, e1⟩ := htb1.hex.row hx
        rw [(rowAt_hex hlt).2] at e0
        clear hinv htb d0 d1 c0 c1 hB e1 d2 d3
        have hown := hinv1.1
        go_wp2_with (at_builtin; refine wpList_append_own _ rfl _ _ 29 rfl (w.heap.size + 1) 3 i0 (.int .i64 0) 1 8 Tryd.underlying29 hi hq0 hq1 hq2 rfl (by decide) _ _ _ rfl (hown.alloc _) ⟨w1.heap.size, 0, none⟩ 1 1 [.int .i64 (rowAt k)] rfl rfl ?c1 ?c2 ?c3 ?c4 ?c5 ?_)
        case c1 =>
          intro j u hj
          match j, hj with
          | 0, hj => simp at hj; subst hj; simp [Addr.add]
        case c2 => intro u hu; simp at hu; subst hu; rfl
        case c3 => unfold maxLen; omega
        case c4 => omega
        case c5 => have := hinv1.2.2.2.1; simp; omega
        intro v' w2 hown' hgrow _
        have hinv2 := hinv1.app hown' hgrow
        have htb2 := htb1.app hown hgrow
        clear hown' hgrow hown hinv1 htb1
        go_wp2
        go_roundw
        case rel => exact ⟨k + 1, by omega, by go_num, by rw [HX.out]; exact hinv2, htb2⟩
        case measure => simp [intOf]; omega
      · have hh' : hsy (rowAt k) s b < 0 := by omega
        have HX := Lib.hid (rall_miss hlt hh')
        clear hh
        go_wp2
        go_region_held3 (fun wx => wx.cell? ⟨w.heap.size, 0, none⟩ = some (.int .i64 s) ∧ wx.cell? ⟨w.heap.size, 1, none⟩ = some (.bool b)) (go_keep)
          (first | (go_at_call 43; refine (syl_row _ _ _ _ _ hx _ ?_ ?_ ?_).mono ?_; (focus (exact c0)); (focus (exact c1)); (focus (exact hB)); rintro e w1 ⟨rfl, hb1⟩; have d2 := (hinv.drew.below hb1).2.1; have d3 := (hinv.drew.below hb1).2.2.1))
        have hinv1 := hinv.drew.below hb1
        have htb1 : TblAt w1 (w.heap.size + 2) := TblAt.below (w := wr.drew) htb hb1
        clear hinv htb d0 d1 c0 c1 hB d2 d3
        go_wp2
        go_roundw
        case rel => exact ⟨k + 1, by omega, by go_num, by rw [HX.out]; exact hinv1, htb1⟩
        case measure => simp [intOf]; omega
    · have hk6 : k = 7 := by omega
      subst hk6
      have HE := Lib.hid hinv.built
      clear hinv d0 d1 htb
      go_wp2
      go_ret
      exact HE.out
end Go.Proofs.YthnofdkkocpjhaaDoor
