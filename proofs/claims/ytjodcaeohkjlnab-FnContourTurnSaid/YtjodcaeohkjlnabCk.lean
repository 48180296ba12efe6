/-
  Contours turned, backwards and longer: how many lists have them.
-/
import Derived.Test.YtjodcaeohkjlnabCt
import Derived.Test.YtjodcaeohkjlnabCn
import Derived.Test.YtjodcaeohkjlnabCo
namespace Go.Proofs.Ytjodcaeohkjlnab
set_option maxRecDepth 100000
set_option linter.unusedVariables false

theorem wayb_tnb {c : UInt8} (h : wayb c = true) : wayb (tnb c) = true := by
  simp [wayb] at h
  rcases h with (rfl | rfl) | rfl <;> decide
theorem bytes_eq {a b : ByteArray} (h : a.data.toList = b.data.toList) : a = b := ByteArray.ext (Array.ext' h)
theorem tl_len (s : ByteArray) : s.data.toList.length = s.size := by simp
theorem cv_mk {s : ByteArray} (h : s.data.toList.length ≤ 23) (g : s.data.toList.all wayb = true) : cv s = true := by
  unfold cv
  rw [g, decide_eq_true (by rw [← tl_len]; exact h)]
  rfl
theorem ctT_tl {s : ByteArray} (h : cv s = true) : (ctT s).data.toList = s.data.toList.map tnb := by rw [ctT_yes h]
theorem ctB_tl {s : ByteArray} (h : cv s = true) : (ctB s).data.toList = (s.data.toList.map tnb).reverse := by rw [ctB_yes h]
theorem map_ways {l : List UInt8} (h : l.all wayb = true) : (l.map tnb).all wayb = true := by
  rw [List.all_eq_true] at h ⊢
  intro c hc
  obtain ⟨d, hd, rfl⟩ := List.mem_map.1 hc
  exact wayb_tnb (h d hd)
theorem map_twice {l : List UInt8} (h : l.all wayb = true) : (l.map tnb).map tnb = l := by
  rw [List.all_eq_true] at h
  rw [List.map_map]
  conv => rhs; rw [← List.map_id l]
  exact List.map_congr_left fun c hc => tnb_tnb (h c hc)
theorem turn_facts {s : ByteArray} (h : cv s = true) : cv (ctT s) = true ∧ cv (ctB s) = true ∧ ctT (ctT s) = s ∧ ctB (ctT s) = ctT (ctB s) ∧ (ctT s).size = s.size ∧ (ctB s).size = s.size := by
  obtain ⟨hn, ha⟩ := cv_in h
  have t1 := ctT_tl h
  have t2 := ctB_tl h
  have l1 : (ctT s).data.toList.length = s.size := by rw [t1, List.length_map, tl_len]
  have l2 : (ctB s).data.toList.length = s.size := by rw [t2, List.length_reverse, List.length_map, tl_len]
  have c1 : cv (ctT s) = true := cv_mk (by rw [l1]; exact hn) (by rw [t1]; exact map_ways ha)
  have c2 : cv (ctB s) = true := cv_mk (by rw [l2]; exact hn) (by rw [t2, List.all_reverse]; exact map_ways ha)
  refine ⟨c1, c2, bytes_eq ?_, bytes_eq ?_, by rw [← tl_len]; exact l1, by rw [← tl_len]; exact l2⟩
  · rw [ctT_tl c1, t1, map_twice ha]
  · rw [ctB_tl c1, t1, ctT_tl c2, t2, List.map_reverse]
theorem cmv_same {s t : ByteArray} (hs : cv s = true) (ht : cv t = true) (hz : t.size = s.size) (hc : ∀ m, ccnt m t.data.toList = ccnt m s.data.toList) (k : Int) : cmv t k = cmv s k := by
  by_cases h8 : 8 < s.size
  · rw [cmv_no2 h8, cmv_no2 (by omega)]
  · by_cases hk : k < 0 ∨ 20 < k
    · rw [cmv_no3 hk, cmv_no3 hk]
    · obtain ⟨m, rfl⟩ : ∃ m : Nat, k = m := ⟨k.toNat, by omega⟩
      rw [cmv_yes hs (by omega) (by omega), cmv_yes ht (by omega) (by omega), hc]
theorem cmv_turn {s : ByteArray} (h : cv s = true) (k : Int) : cmv (ctT s) k = cmv s k := by
  obtain ⟨c1, _, _, _, z1, _⟩ := turn_facts h
  exact cmv_same h c1 z1 (fun m => by rw [ctT_tl h]; exact ccnt_turn (cv_in h).2) k
theorem cmv_back {s : ByteArray} (h : cv s = true) (k : Int) : cmv (ctB s) k = cmv s k := by
  obtain ⟨_, c2, _, _, _, z2⟩ := turn_facts h
  exact cmv_same h c2 z2 (fun m => by rw [ctB_tl h]; exact ccnt_back (cv_in h).2) k
theorem app_tl (s : ByteArray) (c : UInt8) : (s ++ (⟨#[c]⟩ : ByteArray)).data.toList = s.data.toList ++ [c] := by
  rw [ByteArray.data_append]
  simp
/-- a contour that is counted -/
theorem cmv_in {s : ByteArray} {k : Int} (h : 0 ≤ cmv s k) : cv s = true ∧ s.size ≤ 8 ∧ 0 ≤ k ∧ k ≤ 20 := by
  by_cases hc : cv s = true
  · by_cases h8 : 8 < s.size
    · rw [cmv_no2 h8] at h; omega
    · by_cases hk : k < 0 ∨ 20 < k
      · rw [cmv_no3 hk] at h; omega
      · exact ⟨hc, by omega, by omega, by omega⟩
  · rw [cmv_no1 (by simpa using hc)] at h; omega
theorem cmv_bd (s : ByteArray) (k : Int) : -1 ≤ cmv s k ∧ cmv s k ≤ 794280046581 := by
  by_cases h : 0 ≤ cmv s k
  · obtain ⟨a, b, c, d⟩ := cmv_in h
    obtain ⟨m, rfl⟩ : ∃ m : Nat, k = m := ⟨k.toNat, by omega⟩
    rw [cmv_yes a b (by omega)]
    have := ccnt_bd (m := m) (by omega) (l := s.data.toList) (by rw [tl_len]; exact b)
    omega
  · unfold cmv at h ⊢
    split at h
    · rename_i g
      have := ccnt_bd (m := k.toNat) (by omega) (l := s.data.toList) (by rw [tl_len]; exact g.2.1)
      omega
    · rename_i g
      rw [if_neg g]
      omega
theorem cmv_more {s : ByteArray} {k : Int} (h : 0 ≤ cmv s k) (h7 : s.size ≤ 7) : cmv (s ++ ⟨#[117]⟩) k + cmv (s ++ ⟨#[100]⟩) k + cmv (s ++ ⟨#[115]⟩) k = cmv s k * (k + 1) := by
  obtain ⟨a, b, c, d⟩ := cmv_in h
  obtain ⟨m, rfl⟩ : ∃ m : Nat, k = m := ⟨k.toNat, by omega⟩
  have ha := (cv_in a).2
  have key : ∀ w : UInt8, wayb w = true → cmv (s ++ ⟨#[w]⟩) (m : Int) = ccnt m (s.data.toList ++ [w]) := fun w hw => by
    have t := app_tl s w
    have l : (s ++ (⟨#[w]⟩ : ByteArray)).size = s.size + 1 := by rw [← tl_len, t, List.length_append, tl_len]; rfl
    have cvw : cv (s ++ ⟨#[w]⟩) = true := cv_mk (by rw [tl_len, l]; omega) (by rw [t, List.all_append, ha]; simp [hw])
    rw [cmv_yes cvw (by omega) (by omega), t]
  rw [key 117 (by decide), key 100 (by decide), key 115 (by decide), cmv_yes a b (by omega)]
  exact_mod_cast ccnt_all m s.data.toList
theorem cmv_less {s : ByteArray} {k : Int} (h : 0 ≤ cmv s k) : cmv s (k - 1) ≤ cmv s k := by
  obtain ⟨a, b, c, d⟩ := cmv_in h
  obtain ⟨m, rfl⟩ : ∃ m : Nat, k = m := ⟨k.toNat, by omega⟩
  cases m with
  | zero => rw [cmv_no3 (.inl (by simp))]; omega
  | succ m =>
    rw [show ((m + 1 : Nat) : Int) - 1 = (m : Int) by omega, cmv_yes a b (by omega), cmv_yes a b (by omega)]
    exact ccnt_mono (by omega) _
end Go.Proofs.Ytjodcaeohkjlnab
