/-
  A melody's text read back: plain mathematics; and the draw.
-/
import Derived.Test.YtjodcaeohkjlnaaDoorMfm
import Derived.Test.YtjodcaeohkjlnaaDoorMtx
import Derived.Test.YtjodcaeohkjlnaaDoorMelB
import Derived.Test.YtjodcaeohkjlnaaDoorSmT
import Derived.Test.YtjodcaeohkjlnaaDoorNms
namespace Go.Proofs.YtjodcaeohkjlnaaDoor
open Go.RowKit
set_option maxRecDepth 100000
set_option linter.unusedVariables false

theorem txl_tfr {t : Int × Bool} (h : vd t.1 t.2 = true) : tfr ⟨(txl t).toArray⟩ = (t.1, t.2, true) := by
  have e : (⟨(txl t).toArray⟩ : ByteArray) = ttx t.1 t.2 := by rw [ttx_yes h]; rfl
  rw [e, tfr_valid h]

theorem txl_ns (t : Int × Bool) : ∀ c ∈ txl t, c ≠ 32 := by
  intro c hc
  unfold txl at hc
  rcases List.mem_cons.1 hc with rfl | hc
  · unfold tb0
    split
    · decide
    · rw [List.getD_eq_getElem?_getD]
      generalize (t.1 % 7).toNat = n
      match n with
      | 0 => decide
      | 1 => decide
      | 2 => decide
      | 3 => decide
      | 4 => decide
      | 5 => decide
      | 6 => decide
      | n + 7 => simp
  · rcases List.mem_cons.1 hc with rfl | hc
    · unfold tb1
      rw [List.getD_eq_getElem?_getD]
      generalize (t.1 / 7).toNat = n
      match n with
      | 0 => decide
      | 1 => decide
      | 2 => decide
      | n + 3 => simp
    · cases hc

theorem mtx_cons2 (t u : Int × Bool) (r : List (Int × Bool)) : mtx (t :: u :: r) = txl t ++ 32 :: mtx (u :: r) := by
  simp [mtx]

theorem cut_mtx : ∀ (xs : List (Int × Bool)), xs ≠ [] → cutW (mtx xs) = xs.map txl
  | [], h => absurd rfl h
  | [t], _ => by
    show cutW (txl t ++ []) = [txl t]
    rw [List.append_nil, cutW_word (txl_ns t)]
  | t :: u :: r, _ => by
    rw [mtx_cons2, cutW_app, cutW_word (txl_ns t), cut_mtx (u :: r) (by simp)]
    rfl

theorem mtx_ne {xs : List (Int × Bool)} (h : xs ≠ []) : mtx xs ≠ [] := by
  cases xs with
  | nil => exact absurd rfl h
  | cons t r => simp [mtx, txl]

theorem mtx_size : ∀ (xs : List (Int × Bool)), xs ≠ [] → (mtx xs).length + 1 = 3 * xs.length
  | [], h => absurd rfl h
  | [t], _ => by simp [mtx, txl]
  | t :: u :: r, _ => by
    have := mtx_size (u :: r) (by simp)
    rw [mtx_cons2, List.length_append, List.length_cons, List.length_cons]
    simp only [txl, List.length_cons, List.length_nil] at this ⊢
    omega

theorem mf_mts {xs : List (Int × Bool)} (h : mv xs = true) (hx : xs ≠ []) : mfB (mts xs) = true ∧ mfL (mts xs) = xs := by
  have hl : xs.length ≤ 24 ∧ ∀ t ∈ xs, vd t.1 t.2 = true := by
    unfold mv allv at h
    rw [Bool.and_eq_true, List.all_eq_true] at h
    exact ⟨of_decide_eq_true h.1, fun t ht => h.2 t ht⟩
  have e : wds (mts xs) = xs.map fun t => ⟨(txl t).toArray⟩ := by
    unfold wds
    show (cutW (mtx xs).toArray.toList).map _ = _
    rw [List.toList_toArray, cut_mtx xs hx, List.map_map]; rfl
  have h1 : (wds (mts xs)).length ≤ 24 := by rw [e, List.length_map]; exact hl.1
  have h2 : wok (wds (mts xs)) = true := by
    rw [e]; unfold wok
    rw [List.all_eq_true]
    intro x hx
    obtain ⟨t, ht, rfl⟩ := List.mem_map.1 hx
    rw [txl_tfr (hl.2 t ht)]
  have h3 := mf_yes (s := mts xs) (by show (mtx xs).toArray.toList ≠ []; simpa using mtx_ne hx) h1 h2
  refine ⟨h3.1, h3.2.trans ?_⟩
  rw [e]; unfold wts
  rw [List.map_map]
  conv => rhs; rw [← List.map_id xs]
  apply List.map_congr_left
  intro t ht
  show ((tfr ⟨(txl t).toArray⟩).1, (tfr ⟨(txl t).toArray⟩).2.1) = t
  rw [txl_tfr (hl.2 t ht)]

theorem nmc_mts {xs : List (Int × Bool)} (hx : xs ≠ []) : nmc (mts xs).data.toList = xs.length := by
  have h := cutW_len (mtx xs)
  rw [cut_mtx xs hx, List.length_map] at h
  unfold nmc
  show (if (mtx xs).toArray.toList = [] then 0 else (mtx xs).toArray.toList.count 32 + 1) = _
  rw [List.toList_toArray, if_neg (mtx_ne hx)]
  exact h.symm

theorem mts_rev {xs : List (Int × Bool)} (hx : xs ≠ []) : (mts xs.reverse).size = (mts xs).size := by
  have h1 := mtx_size xs hx
  have h2 := mtx_size xs.reverse (by simpa using hx)
  rw [List.length_reverse] at h2
  show (mtx xs.reverse).toArray.size = (mtx xs).toArray.size
  rw [List.size_toArray, List.size_toArray]
  omega

theorem drawMelodyText_any (a : Option Addr) (n cap : Nat) (w : World) (h : CodeAt w a n) (hc : n ≤ cap) (hcap : cap ≤ maxLen) :
    Calls Tryd.prog 54 #[.slice a n cap] w (DrewMel 10 w) := by
  go_enter Tryd.func54, Tryd.ntmps54
  go_wp2_with (fail)
  (go_at_call 77; refine (open_any a n cap _ h hc hcap).mono ?_; rintro e w1 ⟨A, rfl, hr1, hb1, hs1⟩)
  go_wp2_with (fail)
  (go_at_call 101; refine (l91Melody_any w.heap.size A 0 10 (by omega) (by omega) _ hr1).mono ?_; rintro e w2 ⟨v, xs, rfl, hI, hl⟩)
  have HE := Lib.hid (drewMel hI hl hb1 (Nat.le_refl _))
  clear hI hr1
  go_wp2
  go_ret
  exact HE.out
end Go.Proofs.YtjodcaeohkjlnaaDoor
