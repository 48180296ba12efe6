/-
  The law FnMelodyJoin: for every code, joined melodies are sung one after the other.
-/
import Derived.Test.YthnofdkkocpjhaaDoorSg5
import Derived.Test.YthnofdkkocpjhaaDoorBase
import Derived.WalkLawsBesides
import Derived.Handy
import Derived.Deep.QuietTactic
import Derived.BigQuiet
import Derived.Test.YthnofdkkocpjhaaDoorStx
import Derived.Test.YthnofdkkocpjhaaDoorSing5
import Derived.Test.YthnofdkkocpjhaaDoorMelB
import Derived.Test.YthnofdkkocpjhaaDoorTurn
import Derived.Laws.AppendOwnNone
import Derived.Test.YthnofdkkocpjhaaDoorMtx
import Derived.Test.YthnofdkkocpjhaaDoorOpen
import Derived.Test.YthnofdkkocpjhaaDoorDraw1
import Derived.Test.YthnofdkkocpjhaaDoorDrawM
import Derived.Laws.Concat
import Derived.Test.YthnofdkkocpjhaaDoorSmT
import Derived.Test.YthnofdkkocpjhaaDoorLaid1
import Derived.ChangeMaps5
import Derived.Deep.DeepHandedRow
import Derived.Deep.DeepRowAt
import Derived.OpenVars
import Derived.SevenTiedAt
import Derived.Test.YthnofdkkocpjhaaDoorCards
import Derived.Test.YthnofdkkocpjhaaDoorTie
namespace Go.Proofs.YthnofdkkocpjhaaDoor
set_option maxRecDepth 100000
set_option linter.unusedVariables false

/-- one list stands ahead of another or is it -/
def lexle : List Int → List Int → Prop
  | x :: a, y :: l => x < y ∨ (x = y ∧ lexle a l)
  | [], [] => True
  | _, _ => False
/-- each step is a hexachord of its tone -/
def sings : List Int → List (Int × Bool) → Prop
  | k :: l, t :: r => k ∈ hx t ∧ sings l r
  | [], [] => True
  | _, _ => False
theorem hx_sorted (t : Int × Bool) : (hx t).Pairwise (· < ·) := by
  unfold hx hall
  refine List.Pairwise.filter _ ?_
  rw [List.pairwise_map]
  exact List.pairwise_lt_range.imp fun h => by omega
theorem gre_best {r : List (Int × Bool)} (hg : sgo r = true) (h : Int) {l : List Int} (hl : sings l r) : chs (h :: gre r h) < chs (h :: l) ∨ (chs (h :: gre r h) = chs (h :: l) ∧ lexle (gre r h) l) := by
  induction r generalizing h l with
  | nil =>
    cases l with
    | nil => exact .inr ⟨rfl, trivial⟩
    | cons k l => exact absurd hl (by simp [sings])
  | cons t r ih =>
    cases l with
    | nil => exact absurd hl (by simp [sings])
    | cons k l =>
      obtain ⟨hk, hl⟩ := hl
      obtain ⟨hn, hg'⟩ := sgo_cons hg
      have IH := fun x => ih hg' x hl
      have eF : ∀ x, few (t :: r) x + chg h x = chs (h :: x :: gre r x) := fun x => by
        simp only [chs]; rw [← few_chs (t := t) hg']; omega
      rcases bst_spec (fun x => few (t :: r) x + chg h x) (hx t) with ⟨h1, _⟩ | ⟨a, b, z, h1, h2, h3, h4⟩
      · exact absurd h1 hn
      have ez : bstI (fun x => few (t :: r) x + chg h x) (hx t) = z := by unfold bstI; rw [h2]; rfl
      show chs (h :: bstI (fun x => few (t :: r) x + chg h x) (hx t) :: gre r (bstI (fun x => few (t :: r) x + chg h x) (hx t))) < chs (h :: k :: l) ∨ (chs (h :: bstI (fun x => few (t :: r) x + chg h x) (hx t) :: gre r (bstI (fun x => few (t :: r) x + chg h x) (hx t))) = chs (h :: k :: l) ∧ lexle (bstI (fun x => few (t :: r) x + chg h x) (hx t) :: gre r (bstI (fun x => few (t :: r) x + chg h x) (hx t))) (k :: l))
      rw [ez]
      have hz := h4 k hk
      simp only [eF] at hz h3
      have e2 : ∀ m : List Int, chs (h :: k :: m) = chg h k + chs (k :: m) := fun m => rfl
      have ik := IH k
      rw [e2] at hz ⊢
      have hord : k ∈ a ∨ k = z ∨ z < k := by
        rw [h1] at hk
        rcases List.mem_append.1 hk with hk | hk
        · exact .inl hk
        · rcases List.mem_cons.1 hk with hk | hk
          · exact .inr (.inl hk)
          · right; right
            have hs := hx_sorted t
            rw [h1, List.pairwise_append] at hs
            exact (List.pairwise_cons.1 hs.2.1).1 k hk
      rcases hord with ho | rfl | ho
      · have := h3 k ho
        rw [e2] at this
        left
        rcases ik with ik | ik <;> omega
      · rw [e2]
        rcases ik with ik | ⟨ik, il⟩
        · left; omega
        · right; exact ⟨by omega, .inr ⟨rfl, il⟩⟩
      · rcases Nat.lt_or_ge (chs (h :: z :: gre r z)) (chg h k + chs (k :: l)) with hlt | hge
        · exact .inl hlt
        · right
          refine ⟨?_, .inl ho⟩
          rcases ik with ik | ⟨ik, _⟩ <;> omega
theorem sgb_best {xs : List (Int × Bool)} (hg : sgo xs = true) {l : List Int} (hl : sings l xs) : chs (sgb xs) < chs l ∨ (chs (sgb xs) = chs l ∧ lexle (sgb xs) l) := by
  cases xs with
  | nil => cases l with
    | nil => exact .inr ⟨rfl, trivial⟩
    | cons k l => exact absurd hl (by simp [sings])
  | cons t r => cases l with
    | nil => exact absurd hl (by simp [sings])
    | cons k l =>
      obtain ⟨hk, hl⟩ := hl
      obtain ⟨hn, hg'⟩ := sgo_cons hg
      rcases bst_spec (few (t :: r)) (hx t) with ⟨h1, _⟩ | ⟨a, b, z, h1, h2, h3, h4⟩
      · exact absurd h1 hn
      have ez : bstI (few (t :: r)) (hx t) = z := by unfold bstI; rw [h2]; rfl
      show chs (bstI (few (t :: r)) (hx t) :: gre r (bstI (few (t :: r)) (hx t))) < chs (k :: l) ∨ (chs (bstI (few (t :: r)) (hx t) :: gre r (bstI (few (t :: r)) (hx t))) = chs (k :: l) ∧ lexle (bstI (few (t :: r)) (hx t) :: gre r (bstI (few (t :: r)) (hx t))) (k :: l))
      rw [ez]
      have hz := h4 k hk
      have ik := gre_best hg' k hl
      have eF : ∀ x, few (t :: r) x = chs (x :: gre r x) := fun x => few_chs hg' x
      simp only [eF] at hz h3
      have hord : k ∈ a ∨ k = z ∨ z < k := by
        rw [h1] at hk
        rcases List.mem_append.1 hk with hk | hk
        · exact .inl hk
        · rcases List.mem_cons.1 hk with hk | hk
          · exact .inr (.inl hk)
          · right; right
            have hs := hx_sorted t
            rw [h1, List.pairwise_append] at hs
            exact (List.pairwise_cons.1 hs.2.1).1 k hk
      rcases hord with ho | rfl | ho
      · have := h3 k ho
        left
        rcases ik with ik | ik <;> omega
      · rcases ik with ik | ⟨ik, il⟩
        · left; omega
        · right; exact ⟨by omega, .inr ⟨rfl, il⟩⟩
      · rcases Nat.lt_or_ge (chs (z :: gre r z)) (chs (k :: l)) with hlt | hge
        · exact .inl hlt
        · right
          refine ⟨?_, .inl ho⟩
          rcases ik with ik | ⟨ik, _⟩ <;> omega
theorem lexle_set {a : List Int} {i : Nat} {k : Int} (h : lexle a (a.set i k)) (hi : i < a.length) : a[i] ≤ k := by
  induction a generalizing i with
  | nil => simp at hi
  | cons x a ih =>
    cases i with
    | zero =>
      simp only [List.set_cons_zero, lexle] at h
      simp only [List.getElem_cons_zero]
      rcases h with h | ⟨h, _⟩ <;> omega
    | succ i =>
      simp only [List.set_cons_succ, lexle] at h
      simp only [List.getElem_cons_succ]
      rcases h with h | ⟨_, h⟩
      · omega
      · exact ih h (by simpa using hi)
theorem sings_set {l : List Int} {xs : List (Int × Bool)} {i : Nat} {k : Int} {t : Int × Bool} (h : sings l xs) (ht : xs[i]? = some t) (hk : k ∈ hx t) : sings (l.set i k) xs := by
  induction l generalizing xs i with
  | nil => cases xs with
    | nil => simp at ht
    | cons t r => exact absurd h (by simp [sings])
  | cons y l ih => cases xs with
    | nil => exact absurd h (by simp [sings])
    | cons u r => cases i with
      | zero =>
        simp at ht; subst ht
        exact ⟨hk, h.2⟩
      | succ i => exact ⟨h.1, ih h.2 (by simpa using ht)⟩
theorem gre_sings {r : List (Int × Bool)} (hg : sgo r = true) (h : Int) : sings (gre r h) r := by
  induction r generalizing h with
  | nil => trivial
  | cons t r ih =>
    obtain ⟨hn, hg'⟩ := sgo_cons hg
    exact ⟨(bst_in hn).2.1, ih hg' _⟩
theorem sgb_sings {xs : List (Int × Bool)} (hg : sgo xs = true) : sings (sgb xs) xs := by
  cases xs with
  | nil => trivial
  | cons t r =>
    obtain ⟨hn, hg'⟩ := sgo_cons hg
    exact ⟨(bst_in hn).2.1, gre_sings hg' _⟩
/-- the promise's mathematics: one step replaced -/
theorem sgb_swap {xs : List (Int × Bool)} (hg : sgo xs = true) {i : Nat} {k : Int} {t : Int × Bool} (ht : xs[i]? = some t) (hk : k ∈ hx t) (hi : i < (sgb xs).length) :
    chs (sgb xs) ≤ chs ((sgb xs).set i k) ∧ (chs (sgb xs) = chs ((sgb xs).set i k) → (sgb xs)[i] ≤ k) := by
  rcases sgb_best hg (sings_set (sgb_sings hg) ht hk) with h | ⟨h, hl⟩
  · exact ⟨by omega, fun e => by omega⟩
  · exact ⟨by omega, fun _ => lexle_set hl hi⟩

end Go.Proofs.YthnofdkkocpjhaaDoor

namespace Go.Proofs.YthnofdkkocpjhaaDoor
open Go.RowKit
set_option maxRecDepth 100000
set_option linter.unusedVariables false

def nmc (l : List UInt8) : Nat := if l = [] then 0 else l.count 32 + 1
theorem count_snoc (s : ByteArray) (k : Nat) (h : k < s.size) : (s.data.toList.take (k + 1)).count 32 = (s.data.toList.take k).count 32 + (if s[k].toNat = 32 then 1 else 0) := by
  have e : s.data.toList.take (k + 1) = s.data.toList.take k ++ [s[k]] := by
    rw [List.take_succ_eq_append_getElem (by simpa using h)]; rfl
  rw [e, List.count_append, List.count_singleton]
  have : (s[k] == 32) = decide (s[k].toNat = 32) := by
    rw [Bool.eq_iff_iff, beq_iff_eq, decide_eq_true_iff]
    exact ⟨fun h => by rw [h]; rfl, fun h => UInt8.toNat_inj.1 h⟩
  rw [this]
  simp
set_option maxHeartbeats 2000000 in
theorem names_any (s : ByteArray) (hs : s.size ≤ 1000000) (w : World) :
    Calls Tryd.prog 17 #[.string s] w fun e w' => e = .returned (.int .i64 ((nmc s.data.toList : Nat) : Int)) ∧ Below w.heap.size w w' := by
  by_cases he : s.data.toList = []
  · have hse : s = ⟨#[]⟩ := by
      obtain ⟨⟨d⟩⟩ := s
      have : d = [] := he
      rw [this]
    subst hse
    go_enter Tryd.func17, Tryd.ntmps17
    go_wp2
    go_ret
    exact ⟨rfl, Below.refl _ _⟩
  have g0 : s.toList.isEmpty = false := by rw [ByteArray.toList_eq]; simpa using he
  have HE : Hid (nmc s.data.toList = s.data.toList.count 32 + 1) := by show nmc s.data.toList = _; unfold nmc; rw [if_neg he]
  clear he
  go_enter Tryd.func17, Tryd.ntmps17
  go_wp2
  go_loopw [3, 4] (fun n i wr => ∃ k m : Nat, k ≤ s.size ∧ i = .int .i64 k ∧ n = .int .i64 ((m : Int) + 1) ∧ m ≤ k ∧ Hid (m = (s.data.toList.take k).count 32) ∧ Below w.heap.size w wr) (fun _ i _ => s.size - (intOf i).toNat)
  case atStart => exact ⟨0, 0, Nat.zero_le _, rfl, rfl, Nat.le_refl _, rfl, Below.refl _ _⟩
  case round =>
    obtain ⟨k, m, hk, rfl, rfl, hm, HM, hb⟩ := hrel
    by_cases hlt : k < s.size
    · have k1 : (k : Int) < (s.size : Int) := by omega
      have k0 : (0 : Int) ≤ (k : Int) := by omega
      have HC := Lib.hid (count_snoc s k hlt)
      by_cases h32 : s[k].toNat = 32
      · have g1 : ((s[k].toNat : Int) == 32) = true := by simp; omega
        have HN : Hid (m + 1 = (s.data.toList.take (k + 1)).count 32) := by
          show _ = _
          rw [HC.out, if_pos h32, ← HM.out]
        clear h32 HC
        go_wp2
        go_roundw
        case rel => exact ⟨k + 1, m + 1, by omega, by go_num, by go_num, by omega, HN.out, hb⟩
        case measure => simp [intOf]; omega
      · have g1 : ((s[k].toNat : Int) == 32) = false := by simp; omega
        have HN : Hid (m = (s.data.toList.take (k + 1)).count 32) := by
          show _ = _
          rw [HC.out, if_neg h32, ← HM.out]; rfl
        clear h32 HC
        go_wp2
        go_roundw
        case rel => exact ⟨k + 1, m, by omega, by go_num, rfl, by omega, HN.out, hb⟩
        case measure => simp [intOf]; omega
    · have hke : k = s.size := by omega
      subst hke
      have HF : Hid (((nmc s.data.toList : Nat) : Int) = (m : Int) + 1) := by
        show _ = _
        rw [HE.out, HM.out, List.take_of_length_le (by simp)]; rfl
      clear HM
      go_wp2
      go_ret
      exact ⟨by rw [HF.out]; rfl, hb⟩

end Go.Proofs.YthnofdkkocpjhaaDoor

namespace Go.Proofs.YthnofdkkocpjhaaDoor
open Go.RowKit
set_option maxRecDepth 100000
set_option linter.unusedVariables false

theorem flat_count9 {r : List ByteArray} (h : ∀ x ∈ r, ∀ c ∈ x.data.toList, c ≠ 32) : ((r.map fun y => 32 :: y.data.toList).flatten).count 32 = r.length := by
  induction r with
  | nil => rfl
  | cons x r ih =>
    have h0 : x.data.toList.count 32 = 0 := by
      rw [List.count_eq_zero]
      intro hm
      exact h x List.mem_cons_self 32 hm rfl
    rw [List.map_cons, List.flatten_cons, List.count_append, ih (fun y hy => h y (List.mem_cons_of_mem _ hy)), List.count_cons_self, h0, List.length_cons]
    omega
theorem nmc_jnw9 {ws : List ByteArray} (h0 : ∀ x ∈ ws, x.data.toList ≠ []) (h : ∀ x ∈ ws, ∀ c ∈ x.data.toList, c ≠ 32) : nmc (jnw ws) = ws.length := by
  cases ws with
  | nil => rfl
  | cons x r =>
    rw [jnw_cons]
    have hx0 := h0 x List.mem_cons_self
    have hx : x.data.toList.count 32 = 0 := by
      rw [List.count_eq_zero]
      intro hm
      exact h x List.mem_cons_self 32 hm rfl
    unfold nmc
    rw [if_neg (fun e => hx0 (List.append_eq_nil_iff.1 e).1), List.count_append, hx, flat_count9 (fun y hy => h y (List.mem_cons_of_mem _ hy)), List.length_cons]
    omega
theorem hsy_le9 (n s : Int) (b : Bool) : hsy n s b ≤ 5 := by
  unfold hsy
  split
  · rename_i g
    rw [Bool.and_eq_true] at g
    exact (hok_in g.1).2.2
  · omega
theorem syl_ok9 {k : Nat} (h : k < 6) : (syl k).data.toList ≠ [] ∧ ∀ c ∈ (syl k).data.toList, c ≠ 32 := by
  have : k = 0 ∨ k = 1 ∨ k = 2 ∨ k = 3 ∨ k = 4 ∨ k = 5 := by omega
  rcases this with rfl | rfl | rfl | rfl | rfl | rfl <;> decide
theorem sgt_names {xs : List (Int × Bool)} {zs : List Int} (h : sok xs zs = true) : nmc (sgt xs zs).data.toList = xs.length := by
  rw [sgt_yes h]
  show nmc (jnw _) = _
  have key : ∀ x ∈ sgw xs zs xs.length, ∃ k, k < 6 ∧ x = syl k := fun x hx => by
    unfold sgw at hx
    obtain ⟨i, _, rfl⟩ := List.mem_map.1 hx
    exact ⟨_, by have := hsy_le9 (zs.getD i 0) (xs.getD i (0, false)).1 (xs.getD i (0, false)).2; omega, rfl⟩
  rw [nmc_jnw9, sgw_len]
  · intro x hx
    obtain ⟨k, hk, rfl⟩ := key x hx
    exact (syl_ok9 hk).1
  · intro x hx
    obtain ⟨k, hk, rfl⟩ := key x hx
    exact (syl_ok9 hk).2
theorem sgt_nil_or {xs : List (Int × Bool)} {zs : List Int} (h : sok xs zs = true) (hx : xs ≠ []) : (sgt xs zs).data.toList ≠ [] := by
  intro e
  have h1 := sgt_names h
  rw [e] at h1
  have h2 : nmc [] = 0 := rfl
  rw [h2] at h1
  exact hx (List.eq_nil_of_length_eq_zero h1.symm)
theorem hx_mem9 {t : Int × Bool} {a : Int} (h : 0 ≤ hsy a t.1 t.2) : a ∈ hx t := by
  have hv : 0 ≤ a ∧ a ≤ 20 := by
    unfold hsy at h
    split at h
    · rename_i g
      rw [Bool.and_eq_true] at g
      have := hxv_in (hok_in g.1).1
      omega
    · omega
  unfold hx hall
  rw [List.mem_filter]
  refine ⟨List.mem_map.2 ⟨a.toNat, List.mem_range.2 (by omega), by omega⟩, ?_⟩
  unfold inHex
  exact decide_eq_true h
theorem sings_mk {l : List Int} {xs : List (Int × Bool)} (hl : l.length = xs.length) (h : ∀ i t, xs[i]? = some t → l.getD i 0 ∈ hx t) : sings l xs := by
  induction l generalizing xs with
  | nil => cases xs with
    | nil => trivial
    | cons t r => simp at hl
  | cons y l ih => cases xs with
    | nil => simp at hl
    | cons u r => exact ⟨h 0 u rfl, ih (by simpa using hl) fun i t ht => h (i + 1) t (by simpa using ht)⟩
theorem sok_sings {xs : List (Int × Bool)} {zs : List Int} (h : sok xs zs = true) : sings zs xs := sings_mk (sok_parts2 h).1 fun i t ht => hx_mem9 (sok_hit h ht)
theorem sings_sgo {l : List Int} {xs : List (Int × Bool)} (h : sings l xs) : sgo xs = true := by
  induction l generalizing xs with
  | nil => cases xs with
    | nil => rfl
    | cons t r => exact absurd h (by simp [sings])
  | cons y l ih => cases xs with
    | nil => rfl
    | cons u r =>
      have h1 := ih h.2
      unfold sgo at h1 ⊢
      rw [List.all_cons, h1, Bool.and_true]
      have := h.1
      cases hu : hx u with
      | nil => rw [hu] at this; cases this
      | cons => rfl
theorem mutTo_chs9 (zs : List Int) : mutTo zs (zs.length - 1) = (chs zs : Int) := by
  have key : ∀ (r : List Int) (a : Int), mutTo (a :: r) r.length = (chs (a :: r) : Int) := by
    intro r
    induction r with
    | nil => intro a; rfl
    | cons b r ih =>
      intro a
      have h := ih b
      unfold mutTo at h ⊢
      rw [List.length_cons, List.range_succ_eq_map, List.filter_cons, List.filter_map]
      have e : ((fun i => (a :: b :: r).getD (i + 1) 0 != (a :: b :: r).getD i 0) ∘ Nat.succ) = fun i => (b :: r).getD (i + 1) 0 != (b :: r).getD i 0 := by
        funext i; rfl
      rw [e]
      have e0 : (a :: b :: r).getD (0 + 1) 0 = b := rfl
      have e1 : (a :: b :: r).getD 0 0 = a := rfl
      rw [e0, e1]
      show _ = ((chg a b + chs (b :: r) : Nat) : Int)
      by_cases hab : b = a
      · subst hab
        simp [chg] at h ⊢
        omega
      · have h2 : ¬ a = b := fun e => hab e.symm
        simp [chg, hab, h2] at h ⊢
        omega
  cases zs with
  | nil => rfl
  | cons a r => exact key r a
theorem sings_len9 {l : List Int} {xs : List (Int × Bool)} (h : sings l xs) : l.length = xs.length := by
  induction l generalizing xs with
  | nil => cases xs with
    | nil => rfl
    | cons t r => exact absurd h (by simp [sings])
  | cons y l ih => cases xs with
    | nil => exact absurd h (by simp [sings])
    | cons u r => simp [ih h.2]
theorem sings_at9 {l : List Int} {xs : List (Int × Bool)} (h : sings l xs) {i : Nat} {t : Int × Bool} (ht : xs[i]? = some t) : l.getD i 0 ∈ hx t := by
  induction l generalizing xs i with
  | nil => cases xs with
    | nil => simp at ht
    | cons t r => exact absurd h (by simp [sings])
  | cons y l ih => cases xs with
    | nil => exact absurd h (by simp [sings])
    | cons u r => cases i with
      | zero => simp at ht; subst ht; exact h.1
      | succ i => exact ih h.2 (by simpa using ht)
theorem sings_sok {l : List Int} {xs : List (Int × Bool)} (hm : mv xs = true) (h : sings l xs) : sok xs l = true :=
  sok_yes hm (sings_len9 h) (List.all_eq_true.2 fun i hi => by
    have hi' : i < xs.length := by simpa using hi
    have ht := List.getElem?_eq_getElem hi'
    have h1 := sings_at9 h ht
    have h2 := (List.mem_filter.1 h1).2
    rw [List.getD_eq_getElem?_getD (l := xs), ht]
    simpa [inHex] using h2)
theorem sings_smu9 {l : List Int} {xs : List (Int × Bool)} (hm : mv xs = true) (h : sings l xs) : smu xs l = (chs l : Int) := by
  rw [smu_yes (sings_sok hm h), mutTo_chs9]
theorem sok_mv {xs : List (Int × Bool)} {zs : List Int} (h : sok xs zs = true) : mv xs = true := by
  simp [sok] at h; exact h.1.1
/-- what the law FnSing asks -/
theorem sing_facts {xs : List (Int × Bool)} {zs : List Int} (h : sok xs zs = true) (hx : xs ≠ []) : sbB xs = true ∧ smu xs (sbL xs) ≤ smu xs zs ∧ smu xs zs < (xs.length : Int) ∧ 0 ≤ smu xs (sbL xs) := by
  have hm := sok_mv h
  have hs := sok_sings h
  have hg := sings_sgo hs
  obtain ⟨e1, e2⟩ := sb_yes hm hg
  have hb := sgb_best hg hs
  have hl := sings_len9 hs
  have hp : 0 < xs.length := List.length_pos_iff.2 hx
  have hbd := mutTo_bd zs (zs.length - 1)
  rw [e1, e2, sings_smu9 hm (sgb_sings hg), sings_smu9 hm hs]
  rw [mutTo_chs9] at hbd
  refine ⟨rfl, ?_, ?_, ?_⟩
  · rcases hb with h | h <;> omega
  · omega
  · omega

end Go.Proofs.YthnofdkkocpjhaaDoor

namespace Go.Proofs.YthnofdkkocpjhaaDoor
open Go.RowKit
set_option maxRecDepth 100000
set_option linter.unusedVariables false

def jok (xs ys : List (Int × Bool)) : Bool := mv xs && mv ys && decide (xs.length + ys.length ≤ 24)
def jn (xs ys : List (Int × Bool)) : List (Int × Bool) := if jok xs ys then xs ++ ys else []
theorem jn_no {xs ys : List (Int × Bool)} (h : jok xs ys = false) : jn xs ys = [] := by simp [jn, h]
theorem jn_yes {xs ys : List (Int × Bool)} (h : jok xs ys = true) : jn xs ys = xs ++ ys := by simp [jn, h]
theorem jok_mv (xs ys : List (Int × Bool)) : (mv xs && mv ys && mv (xs ++ ys)) = jok xs ys := by
  unfold jok
  by_cases h1 : mv xs = true
  · by_cases h2 : mv ys = true
    · have a1 : allv xs = true := by simp [mv] at h1; exact h1.2
      have a2 : allv ys = true := by simp [mv] at h2; exact h2.2
      have a3 : allv (xs ++ ys) = true := by unfold allv at *; rw [List.all_append, a1, a2]; rfl
      have e : mv (xs ++ ys) = decide (xs.length + ys.length ≤ 24) := by unfold mv; rw [a3, List.length_append, Bool.and_true]
      rw [e]
    · simp [h2]
  · simp [h1]

theorem Mel.join_ {w : World} {lo : Nat} {p : Option Addr} {xs : List (Int × Bool)} (h : Mel w lo p xs) : xs = [] ↔ p = none := by
  cases xs with
  | nil => simp [Mel] at h; simp [h]
  | cons t r => obtain ⟨B, q, rfl, _⟩ := h; simp

def JBuilt (w : World) (lo : Nat) (xs : List (Int × Bool)) (e : Ending) (w' : World) : Prop :=
  ∃ p, e = .returned (.pointer p) ∧ Mel w' lo p xs ∧ Below w.heap.size w w'

set_option maxHeartbeats 2000000 in
theorem join_any (xs ys : List (Int × Bool)) : ∀ (p q : Option Addr) (lo lo' : Nat) (w : World), Mel w lo p xs → Mel w lo' q ys → lo' ≤ w.heap.size →
    Calls Tryd.prog 22 #[.pointer p, .pointer q] w (JBuilt w lo' (xs ++ ys)) := by
  induction xs with
  | nil =>
    intro p q lo lo' w hp hq hl
    have hp0 : p = none := hp
    subst hp0
    have HE : Hid (JBuilt w lo' ([] ++ ys) (.returned (.pointer q)) w) := ⟨q, rfl, hq, Below.refl _ _⟩
    clear hp hq
    go_enter Tryd.func22, Tryd.ntmps22
    go_wp2_with (fail)
    go_ret
    exact HE.out
  | cons t r ih =>
    intro p q lo lo' w hp hq hl
    obtain ⟨s, b⟩ := t
    obtain ⟨B, p', rfl, hlo, hB, c0, c1, c2, hr⟩ := hp.head
    have HR := Lib.hid hr
    have HQ := Lib.hid hq
    have HI := Lib.hid ih
    clear hp hr hq ih
    go_enter Tryd.func22, Tryd.ntmps22
    go_wp2_with (fail)
    go_region_held3 (fun wx => wx.cell? ⟨B, 0, none⟩ = some (.int .i64 s) ∧ wx.cell? ⟨B, 1, none⟩ = some (.bool b) ∧ wx.cell? ⟨B, 2, none⟩ = some (.pointer p')) (go_keep)
      (first | (go_at_call 22; refine (HI.out p' q lo lo' _ HR.out.drew HQ.out.drew hl).mono ?_; rintro e w1 ⟨u, rfl, hu, hb1⟩; have d0 := (hb1.cell (p := ⟨B, 0, none⟩) hB).trans c0; have d1 := (hb1.cell (p := ⟨B, 1, none⟩) hB).trans c1; have d2 := (hb1.cell (p := ⟨B, 2, none⟩) hB).trans c2))
    have HE : Hid (JBuilt w lo' ((s, b) :: r ++ ys) (.returned (.pointer (some ⟨w1.heap.size, 0, none⟩))) (w1.alloc (.cells #[.int .i64 s, .bool b, .pointer u] 61))) :=
      ⟨_, rfl, hu.cons_ (t := (s, b)) (Nat.le_trans hl hb1.size), (bl_step (Below.refl _ _).drew hb1).alloc hb1.size _⟩
    clear hu d0 d1 d2 c0 c1 c2
    go_wp2
    go_ret
    exact HE.out

theorem empty_rowT (w : World) : TRow (w.alloc (.cells #[] 52)) w.heap.size (w.alloc (.cells #[] 52)).heap.size (.slice (some ⟨w.heap.size, 0, none⟩) 0 0) [] := by
  refine ⟨⟨rfl, .inr ⟨w.heap.size, 0, #[], rfl, Nat.le_refl _, heap_alloc_new w _, by simp, by simp [maxLen], by simp, by simp [tcs]⟩⟩, fun g hg => ?_⟩
  have : g = w.heap.size := by simpa [Value.ownBlock] using hg.symm
  simp
  omega
theorem own_trow {w : World} {lo hi : Nat} {v : Value} {xs : List (Int × Bool)} (h : TRow w lo hi v xs) : ∃ a c, v = .slice a xs.length c := by
  rcases h.form with ⟨rfl, rfl⟩ | ⟨g, cap, rfl, _⟩
  · exact ⟨none, 0, rfl⟩
  · exact ⟨_, _, rfl⟩

set_option maxHeartbeats 2000000 in
theorem melodyJoin_any (lo hi lo' hi' : Nat) (v u : Value) (xs ys : List (Int × Bool)) (w : World) (h : TRow w lo hi v xs) (k : TRow w lo' hi' u ys) (hx : xs.length ≤ 1048576) (hy : ys.length ≤ 1048576) :
    Calls Tryd.prog 6 #[v, u] w (TBuilt2 w (jn xs ys) (jok xs ys)) := by
  have HN : Hid (jok xs ys = false → ∀ w1, Below w.heap.size w w1 → TBuilt2 w (jn xs ys) (jok xs ys) (.returned (.tuple #[.slice (some ⟨w1.heap.size, 0, none⟩) 0 0, .bool false])) (w1.alloc (.cells #[] 52))) := fun hj w1 hb => by
    rw [jn_no hj, hj]
    exact ⟨_, rfl, (empty_rowT w1).lohi hb.size (Nat.le_refl _), hb.alloc hb.size _⟩
  by_cases hmx : mv xs = false
  · have HF := Lib.hid (HN.out (by simp [jok, hmx]))
    go_enter Tryd.func6, Tryd.ntmps6
    go_wp2_with (fail)
    (go_at_call 21; refine (newMelody_any lo hi v xs _ h).mono ?_; rintro e w1 ⟨p, rfl, hm, hb1⟩)
    have k1 := k.below hb1 (.inr (Nat.le_refl _))
    clear h k
    go_wp2_with (fail)
    (go_at_call 21; refine (newMelody_any lo' hi' u ys _ k1).mono ?_; rintro e w2 ⟨q, rfl, hq, hb2⟩)
    have HG := Lib.hid (HF.out w2 (bl_step hb1 hb2))
    clear hm hq k1
    go_wp2
    go_ret2
    exact HG.out
  by_cases hmy : mv ys = false
  · have HF := Lib.hid (HN.out (by simp [jok, hmy]))
    rw [Bool.not_eq_false] at hmx
    go_enter Tryd.func6, Tryd.ntmps6
    go_wp2_with (fail)
    (go_at_call 21; refine (newMelody_any lo hi v xs _ h).mono ?_; rintro e w1 ⟨p, rfl, hm, hb1⟩)
    have k1 := k.below hb1 (.inr (Nat.le_refl _))
    clear h k
    go_wp2_with (fail)
    (go_at_call 21; refine (newMelody_any lo' hi' u ys _ k1).mono ?_; rintro e w2 ⟨q, rfl, hq, hb2⟩)
    have HG := Lib.hid (HF.out w2 (bl_step hb1 hb2))
    clear hm hq k1
    go_wp2
    go_ret2
    exact HG.out
  rw [Bool.not_eq_false] at hmx hmy
  obtain ⟨va, vc, rfl⟩ := own_trow h
  obtain ⟨ua, uc, rfl⟩ := own_trow k
  by_cases hs : xs.length + ys.length ≤ 24
  case neg =>
    have HF := Lib.hid (HN.out (by simp [jok]; omega))
    have hs' : (24 : Int) < (xs.length : Int) + (ys.length : Int) := by omega
    go_enter Tryd.func6, Tryd.ntmps6
    go_wp2_with (fail)
    (go_at_call 21; refine (newMelody_any lo hi _ xs _ h).mono ?_; rintro e w1 ⟨p, rfl, hm, hb1⟩)
    have k1 := k.below hb1 (.inr (Nat.le_refl _))
    clear h k
    go_wp2_with (fail)
    (go_at_call 21; refine (newMelody_any lo' hi' _ ys _ k1).mono ?_; rintro e w2 ⟨q, rfl, hq, hb2⟩)
    have HG := Lib.hid (HF.out w2 (bl_step hb1 hb2))
    clear hm hq k1
    go_wp2
    go_ret2
    exact HG.out
  have hj : jok xs ys = true := by simp [jok, hmx, hmy, hs]
  have HV := Lib.hid (mvl_yes hmx)
  have HW := Lib.hid (mvl_yes hmy)
  have HJ := Lib.hid (jn_yes hj)
  have HK := Lib.hid hj
  have hs' : decide ((24 : Int) < (xs.length : Int) + (ys.length : Int)) = false := by simp; omega
  have hln : (xs ++ ys).length ≤ 24 := by rw [List.length_append]; exact hs
  clear HN hj
  go_enter Tryd.func6, Tryd.ntmps6
  go_wp2_with (fail)
  (go_at_call 21; refine (newMelody_any lo hi _ xs _ h).mono ?_; rintro e w1 ⟨p, rfl, hm, hb1⟩)
  have k1 := k.below hb1 (.inr (Nat.le_refl _))
  clear h k
  go_wp2_with (fail)
  (go_at_call 21; refine (newMelody_any lo' hi' _ ys _ k1).mono ?_; rintro e w2 ⟨q, rfl, hq, hb2⟩)
  rw [HV.out] at hm
  rw [HW.out] at hq
  have hm := hm.below hb2
  have hbw := bl_step hb1 hb2
  clear k1
  go_wp2_with (fail)
  (go_at_call 22; refine (join_any xs ys p q _ _ _ hm hq hb2.size).mono ?_; rintro e w3 ⟨r, rfl, hr, hb3⟩)
  have hbw := bl_step hbw hb3
  clear hm hq
  go_wp2_with (fail)
  (go_at_call 23; refine (tones_any _ _ _ _ hr hln).mono ?_; rintro e w4 ⟨t, rfl, ht, hb4⟩)
  have HE : Hid (TBuilt2 w (jn xs ys) (jok xs ys) (.returned (.tuple #[t, .bool true])) w4) := by
    rw [HK.out, HJ.out]
    exact ⟨t, rfl, ⟨tmono ht.1 hbw.size, ht.2⟩, bl_step hbw hb4⟩
  clear hr ht
  go_wp2
  go_ret2
  exact HE.out

/-- tones appended to a row of the call's own, out of another slice *)-/
theorem append_tones {w : World} {ops : Array Oper} {rest : List Oper} {o : Oper} {a : Act} {Q : Exit → Act → World → Prop} (hgd : o.guard = none) (s x : Operand)
    (ho : o.op = .call { callee := .builtin .append, args := #[s, x], argTypes := #[23, 23] })
    (base lo hi : Nat) (v u : Value) (n : Nat) (cs : List Value) (ys : List (Int × Bool)) (hs : a.eval s = v) (hown : w.ownsRow base 52 2 v n cs) (hx : a.eval x = u) (hu : TRow w lo hi u ys)
    (hn : n ≤ 4000000) (hy : ys.length ≤ 4000000) (hbase : base ≤ w.heap.size)
    (h : ∀ v' w', w'.ownsRow base 52 2 v' (n + ys.length) (cs ++ tcs ys) → w.grownBy w' v.ownBlock → wpList Tryd.prog ops Q rest (a.put o.dst v') w') : wpList Tryd.prog ops Q (o :: rest) a w := by
  obtain ⟨i0, hi, hq0, hq1, hq2⟩ := info_parts infoTone
  rcases hu.1.2 with ⟨rfl, h0⟩ | ⟨g, cap, cur, rfl, _, hh, hc, _, hsz, htk⟩
  · have hy0 : ys = [] := List.eq_nil_of_length_eq_zero h0
    subst hy0
    exact wpList_append_own_none hgd s x _ ho base _ i0 2 Tryd.underlying23 hi v n cs hs hown hx (h v w (by simpa [tcs] using hown) (World.grownBy.refl _ _))
  · refine wpList_append_own w hgd s x _ ho base _ i0 (.agg #[.int .i64 0, .bool false]) 2 16 Tryd.underlying23 hi hq0 hq1 hq2 rfl (by decide) v n cs hs hown ⟨g, 0, none⟩ ys.length cap (tcs ys) hx (tcs_len ys) (fun j z hz => ?_) (tcs_one ys) (by unfold maxLen; omega) (by omega) hbase
      (fun v' w' h1 h2 _ => h v' w' h1 h2)
    exact hu.1.cells (g := g) rfl j z hz

end Go.Proofs.YthnofdkkocpjhaaDoor

namespace Go.Proofs.YthnofdkkocpjhaaDoor
open Go.RowKit
set_option maxRecDepth 100000
set_option linter.unusedVariables false

theorem manyOf_app (xs ys : List (Int × Bool)) : manyOf (xs ++ ys) = manyOf xs * manyOf ys := by
  unfold manyOf
  rw [List.foldl_append]
  have key : ∀ (l : List (Int × Bool)) (m : Int), l.foldl (fun m t => m * ic t) m = m * l.foldl (fun m t => m * ic t) 1 := by
    intro l
    induction l with
    | nil => intro m; simp
    | cons t r ih =>
      intro m
      rw [List.foldl_cons, List.foldl_cons, ih (m * ic t), ih (1 * ic t), Int.one_mul, Int.mul_assoc]
  exact key _ _
theorem sgo_app9 (xs ys : List (Int × Bool)) : sgo (xs ++ ys) = (sgo xs && sgo ys) := by unfold sgo; rw [List.all_append]
theorem chs_app (a b : List Int) : chs a + chs b ≤ chs (a ++ b) ∧ chs (a ++ b) ≤ chs a + chs b + 1 := by
  match a with
  | [] => simp [chs]
  | [x] =>
    cases b with
    | nil => simp [chs]
    | cons y r =>
      have h1 : chg x y ≤ 1 := by unfold chg; split <;> omega
      simp only [List.cons_append, List.nil_append, chs]
      omega
  | x :: y :: r =>
    have := chs_app (y :: r) b
    simp only [List.cons_append, chs] at this ⊢
    omega
theorem sings_app {a b : List Int} {xs ys : List (Int × Bool)} (h : sings a xs) (k : sings b ys) : sings (a ++ b) (xs ++ ys) := by
  induction a generalizing xs with
  | nil => cases xs with
    | nil => exact k
    | cons t r => exact absurd h (by simp [sings])
  | cons y l ih => cases xs with
    | nil => exact absurd h (by simp [sings])
    | cons u r => exact ⟨h.1, ih h.2⟩
theorem sings_split {l : List Int} {xs ys : List (Int × Bool)} (h : sings l (xs ++ ys)) : ∃ a b, l = a ++ b ∧ sings a xs ∧ sings b ys := by
  induction xs generalizing l with
  | nil => exact ⟨[], l, rfl, trivial, h⟩
  | cons u r ih => cases l with
    | nil => exact absurd h (by simp [sings])
    | cons y l =>
      obtain ⟨a, b, rfl, ha, hb⟩ := ih h.2
      exact ⟨y :: a, b, rfl, ⟨h.1, ha⟩, hb⟩
theorem chs_join {xs ys : List (Int × Bool)} (h1 : sgo xs = true) (h2 : sgo ys = true) : chs (sgb xs) + chs (sgb ys) ≤ chs (sgb (xs ++ ys)) ∧ chs (sgb (xs ++ ys)) ≤ chs (sgb xs) + chs (sgb ys) + 1 := by
  have h3 : sgo (xs ++ ys) = true := by rw [sgo_app9, h1, h2]; rfl
  obtain ⟨a, b, e, ha, hb⟩ := sings_split (sgb_sings h3)
  have a1 := sgb_best h1 ha
  have b1 := sgb_best h2 hb
  have c1 := chs_app a b
  have d1 := sgb_best h3 (sings_app (sgb_sings h1) (sgb_sings h2))
  have d2 := chs_app (sgb xs) (sgb ys)
  rw [← e] at c1
  omega
theorem mts_join {xs ys : List (Int × Bool)} (h1 : xs ≠ []) (h2 : ys ≠ []) : mts xs ++ ⟨#[32]⟩ ++ mts ys = mts (xs ++ ys) := by
  cases ys with
  | nil => exact absurd rfl h2
  | cons u r =>
    cases xs with
    | nil => exact absurd rfl h1
    | cons t q =>
      unfold mts
      rw [ByteArray.mk_append_mk, ByteArray.mk_append_mk]
      simp [mtx, List.flatMap_append]
theorem smu_in (xs : List (Int × Bool)) (zs : List Int) : -1 ≤ smu xs zs ∧ smu xs zs ≤ 24 := by
  cases h : sok xs zs with
  | false => rw [smu_no h]; decide
  | true =>
    have h1 := mutTo_bd zs (zs.length - 1)
    have h2 := sok_len h
    rw [smu_yes h]
    omega
theorem manyOf_in {xs : List (Int × Bool)} (h : mv xs = true) : 0 ≤ manyOf xs ∧ manyOf xs ≤ 3 ^ 24 := by
  have ha : allv xs = true := by simp [mv] at h; exact h.2
  have hl : xs.length ≤ 24 := by simp [mv] at h; exact h.1
  have hb := manyOf_bd ha xs.length
  rw [List.take_length] at hb
  refine ⟨hb.1, Int.le_trans hb.2 ?_⟩
  have : (3 : Nat) ^ xs.length ≤ 3 ^ 24 := Nat.pow_le_pow_right (by decide) hl
  exact_mod_cast this
/-- what the law FnMelodyJoin asks -/
theorem join_facts {xs ys : List (Int × Bool)} (h : jok xs ys = true) : mv xs = true ∧ mv ys = true ∧ mv (xs ++ ys) = true ∧ xs.length + ys.length ≤ 24 ∧ sbB (xs ++ ys) = (sbB xs && sbB ys) ∧
    (sbB (xs ++ ys) = true → smu xs (sbL xs) + smu ys (sbL ys) ≤ smu (xs ++ ys) (sbL (xs ++ ys)) ∧ smu (xs ++ ys) (sbL (xs ++ ys)) ≤ smu xs (sbL xs) + smu ys (sbL ys) + 1) := by
  have hm := jok_mv xs ys
  rw [h] at hm
  simp only [Bool.and_eq_true] at hm
  obtain ⟨⟨h1, h2⟩, h3⟩ := hm
  have hl : xs.length + ys.length ≤ 24 := by
    unfold jok at h
    rw [Bool.and_eq_true, decide_eq_true_eq] at h
    exact h.2
  refine ⟨h1, h2, h3, hl, ?_, fun hb => ?_⟩
  · unfold sbB
    rw [h1, h2, h3, sgo_app9]
    rfl
  · have g : sgo (xs ++ ys) = true := by unfold sbB at hb; rw [Bool.and_eq_true] at hb; exact hb.2
    have g2 := g
    rw [sgo_app9, Bool.and_eq_true] at g2
    have hc := chs_join g2.1 g2.2
    rw [(sb_yes h1 g2.1).1, (sb_yes h2 g2.2).1, (sb_yes h3 g).1, sings_smu9 h1 (sgb_sings g2.1), sings_smu9 h2 (sgb_sings g2.2), sings_smu9 h3 (sgb_sings g)]
    omega

end Go.Proofs.YthnofdkkocpjhaaDoor

namespace Go.Proofs.YthnofdkkocpjhaaDoor
open Go.RowKit
set_option maxRecDepth 100000
set_option linter.unusedVariables false

theorem trow_of {w : World} {base n : Nat} {v : Value} {xs : List (Int × Bool)} (h : w.ownsRow base 52 2 v n (tcs xs)) (hn : n = xs.length) : TRow w base w.heap.size v xs := by
  subst hn; exact ⟨h, fun g hg => (h.lt g hg).2⟩

set_option maxHeartbeats 4000000 in
theorem sMelodyJoin_any (lo hi lo' hi' : Nat) (v u : Value) (xs ys : List (Int × Bool)) (w : World) (h : TRow w lo hi v xs) (k : TRow w lo' hi' u ys) (hx : xs.length ≤ 1048576) (hy : ys.length ≤ 1048576) :
    Calls Tryd.prog 7 #[v, u] w (TBuilt2 w (jn xs ys) (jok xs ys)) := by
  have hb0 : Below w.heap.size w (w.alloc (.cells #[] 52)) := (Below.refl _ _).alloc (Nat.le_refl _) _
  have hown0 : (w.alloc (.cells #[] 52)).ownsRow w.heap.size 52 2 (.slice (some ⟨w.heap.size, 0, none⟩) 0 0) 0 [] := ⟨rfl, .inr ⟨w.heap.size, 0, #[], rfl, Nat.le_refl _, heap_alloc_new w _, by simp, by simp [maxLen], by simp, by simp⟩⟩
  have h1 := h.below hb0 (.inr (Nat.le_refl _))
  have hz1 : w.heap.size ≤ (w.alloc (.cells #[] 52)).heap.size := hb0.size
  have HN : Hid (jok xs ys = false → ∀ w1, Below w.heap.size w w1 → TBuilt2 w (jn xs ys) (jok xs ys) (.returned (.tuple #[.slice (some ⟨w1.heap.size, 0, none⟩) 0 0, .bool false])) (w1.alloc (.cells #[] 52))) := fun hj w1 hb => by
    rw [jn_no hj, hj]
    exact ⟨_, rfl, (empty_rowT w1).lohi hb.size (Nat.le_refl _), hb.alloc hb.size _⟩
  have HY : Hid (jok xs ys = true → ∀ (w1 : World) (o : Value), TRow w1 w.heap.size w1.heap.size o (xs ++ ys) → Below w.heap.size w w1 → TBuilt2 w (jn xs ys) (jok xs ys) (.returned (.tuple #[o, .bool true])) w1) := fun hj w1 o ho hb => by
    rw [jn_yes hj, hj]
    exact ⟨o, rfl, ho, hb⟩
  have hjm := jok_mv xs ys
  have HH := Lib.hid h
  have HK := Lib.hid k
  clear h k
  go_enter Tryd.func7, Tryd.ntmps7
  go_wp2_with (first | (at_builtin; refine append_tones rfl (.tmp 7) (.tmp 8) rfl w.heap.size lo hi _ v 0 [] xs rfl hown0 rfl h1 (by omega) (by omega) hz1 ?_; intro v1 w2 hown1 hg1; have hb2 : Below w.heap.size w w2 := hb0.grown hg1 hz1 (fun k hk => (hown0.lt k hk).1); have hu2 := HK.out.below hb2 (.inr (Nat.le_refl _)); have hz2 := hb2.size; clear hown0 hg1 h1) | (at_builtin; refine append_tones rfl (.tmp 9) (.tmp 10) rfl w.heap.size lo' hi' _ u _ _ ys rfl hown1 rfl hu2 (by omega) (by omega) hz2 ?_; intro v2 w3 hown2 hg2; have hb3 : Below w.heap.size w w3 := hb2.grown hg2 hz2 (fun k hk => (hown1.lt k hk).1); have hr3 : TRow w3 w.heap.size w3.heap.size v2 (xs ++ ys) := trow_of (by rw [tcs_app]; exact hown2) (by simp); clear hown1 hg2 hown2 hu2 hz2) | (fail))
  have hv3 := HH.out.below hb3 (.inr (Nat.le_refl _))
  have hu3 := HK.out.below hb3 (.inr (Nat.le_refl _))
  have HM := Lib.hid hjm
  clear HH HK hb0 hz1 hb2 hjm
  by_cases g1 : mv xs = false
  · have HF := Lib.hid (HN.out (by rw [← HM.out, g1]; rfl))
    go_wp2_with (fail)
    (go_at_call 24; refine (sMelodyValid_any _ _ v xs _ hv3).mono ?_; rintro e w4 ⟨rfl, hb4⟩)
    have HG := Lib.hid (HF.out w4 (bl_step hb3 hb4))
    clear hv3 hu3 hr3
    go_wp2
    go_ret2
    exact HG.out
  rw [Bool.not_eq_false] at g1
  by_cases g2 : mv ys = false
  · have HF := Lib.hid (HN.out (by rw [← HM.out, g1, g2]; rfl))
    go_wp2_with (fail)
    (go_at_call 24; refine (sMelodyValid_any _ _ v xs _ hv3).mono ?_; rintro e w4 ⟨rfl, hb4⟩)
    have hu4 := hu3.below hb4 (.inr (Nat.le_refl _))
    go_wp2_with (fail)
    (go_at_call 24; refine (sMelodyValid_any _ _ u ys _ hu4).mono ?_; rintro e w5 ⟨rfl, hb5⟩)
    have HG := Lib.hid (HF.out w5 (bl_step (bl_step hb3 hb4) hb5))
    clear hv3 hu3 hr3 hu4
    go_wp2
    go_ret2
    exact HG.out
  rw [Bool.not_eq_false] at g2
  by_cases g3 : mv (xs ++ ys) = false
  · have HF := Lib.hid (HN.out (by rw [← HM.out, g1, g2, g3]; rfl))
    go_wp2_with (fail)
    (go_at_call 24; refine (sMelodyValid_any _ _ v xs _ hv3).mono ?_; rintro e w4 ⟨rfl, hb4⟩)
    have hu4 := hu3.below hb4 (.inr (Nat.le_refl _))
    have hr4 := hr3.below hb4 (.inl (Nat.le_refl _))
    go_wp2_with (fail)
    (go_at_call 24; refine (sMelodyValid_any _ _ u ys _ hu4).mono ?_; rintro e w5 ⟨rfl, hb5⟩)
    have hr5 := hr4.below hb5 (.inl hb4.size)
    go_wp2_with (fail)
    (go_at_call 24; refine (sMelodyValid_any _ _ v2 (xs ++ ys) _ hr5).mono ?_; rintro e w6 ⟨rfl, hb6⟩)
    have HG := Lib.hid (HF.out w6 (bl_step (bl_step (bl_step hb3 hb4) hb5) hb6))
    clear hv3 hu3 hr3 hu4 hr4 hr5
    go_wp2
    go_ret2
    exact HG.out
  rw [Bool.not_eq_false] at g3
  have HF := Lib.hid (HY.out (by rw [← HM.out, g1, g2, g3]; rfl))
  go_wp2_with (fail)
  (go_at_call 24; refine (sMelodyValid_any _ _ v xs _ hv3).mono ?_; rintro e w4 ⟨rfl, hb4⟩)
  have hu4 := hu3.below hb4 (.inr (Nat.le_refl _))
  have hr4 := hr3.below hb4 (.inl (Nat.le_refl _))
  go_wp2_with (fail)
  (go_at_call 24; refine (sMelodyValid_any _ _ u ys _ hu4).mono ?_; rintro e w5 ⟨rfl, hb5⟩)
  have hr5 := hr4.below hb5 (.inl hb4.size)
  go_wp2_with (fail)
  (go_at_call 24; refine (sMelodyValid_any _ _ v2 (xs ++ ys) _ hr5).mono ?_; rintro e w6 ⟨rfl, hb6⟩)
  have hr6 := hr5.below hb6 (.inl (Nat.le_trans hb4.size hb5.size))
  have HG := Lib.hid (HF.out w6 v2 (hr6.lohi (Nat.le_refl _) (Nat.le_trans (Nat.le_trans hb4.size hb5.size) hb6.size)) (bl_step (bl_step (bl_step hb3 hb4) hb5) hb6))
  clear hv3 hu3 hr3 hu4 hr4 hr5 hr6
  go_wp2
  go_ret2
  exact HG.out

end Go.Proofs.YthnofdkkocpjhaaDoor

namespace Go.Proofs.YthnofdkkocpjhaaDoor
open Go.RowKit Go.ChangeShapes Go.WideShapes Go.ChangeAt
set_option maxRecDepth 100000
set_option linter.unusedVariables false

section
variable {H : Type} {enc : TypeId × Value → H} {w : World} {base : Nat} {spare : Nat → Bool} {held : Bool}
theorem code_in {a : Option Addr} {n c : Nat} {d : DataW H} {p : List MemPlace} (h : DataW.Trod enc Tryd.prog w base spare held 22 (.slice a n c) d p) : CodeAt w a n ∧ n ≤ c ∧ c ≤ maxLen := by
  obtain ⟨fuel, hf⟩ := h
  rcases open_ints Tryd.underlying22 Tryd.underlying5 (by kernel_rfl) hf with ⟨hcs, _⟩ | ⟨x, l, c', zs, hcs, _, hl, hm, hz, _, hcell, hwz⟩
  · simp [Value.cells] at hcs
    obtain ⟨rfl, rfl, rfl⟩ := hcs
    exact ⟨.inl rfl, Nat.le_refl _, Nat.zero_le _⟩
  · simp [Value.cells] at hcs
    obtain ⟨rfl, rfl, rfl⟩ := hcs
    refine ⟨?_, hl, hm⟩
    have hlen : n ≤ zs.length := by rw [hz]; split <;> omega
    by_cases hn : n = 0
    · exact .inl hn
    obtain ⟨A, off, rfl, hc'⟩ := ints_at hcell (by omega)
    refine .inr ⟨A, off, rfl, World.block_lt_of_cell? w _ (hc' 0 (by omega)), fun i hi => ?_⟩
    have hb := hwz (zs.getD i 0) (by rw [List.getD_eq_getElem?_getD, List.getElem?_eq_getElem (by omega)]; exact List.getElem_mem _)
    have hx : 0 ≤ zs.getD i 0 ∧ zs.getD i 0 ≤ 255 := by simpa [Lit.wf, IntKind.min, IntKind.max, IntKind.signed, IntKind.bits] using hb
    exact ⟨zs.getD i 0, hx.1, hx.2, hc' i (by omega)⟩
end

end Go.Proofs.YthnofdkkocpjhaaDoor

namespace Go.Proofs.YthnofdkkocpjhaaDoor
open Go.RowKit
set_option maxRecDepth 100000
set_option linter.unusedVariables false

def DrewMj (w : World) (e : Ending) (w' : World) : Prop :=
  ∃ v u xs ys, e = .returned (.tuple #[v, u]) ∧ TRow w' w.heap.size w'.heap.size v xs ∧ TRow w' w.heap.size w'.heap.size u ys ∧ xs.length ≤ 20 ∧ ys.length ≤ 10 ∧ Below w.heap.size w w'
theorem drewMj {w w3 w4 : World} {B A q lo hi : Nat} {v u : Value} {xs ys : List (Int × Bool)} (hv : TRow w3 lo hi v xs) (hi3 : hi ≤ w3.heap.size) (h : DmInv w3 w4 B A q u ys) (hB : B < lo) (hw : w.heap.size ≤ lo) (hb : Below w.heap.size w w3) (hBw : w.heap.size ≤ B) (hl : xs.length ≤ 20) (hl2 : ys.length ≤ 10) : DrewMj w (.returned (.tuple #[v, u])) w4 := by
  refine ⟨v, u, xs, ys, rfl, ?_, ⟨tmono h.own hb.size, fun g hg => (h.own.lt g hg).2⟩, hl, hl2, below_gb hb h.gb hBw⟩
  exact (hv.keep fun k h1 h2 _ => h.gb.block k h1 (fun e => by injection e with e; omega)).lohi hw (Nat.le_trans hi3 h.gb.size)

set_option maxHeartbeats 3000000 in
theorem drawMelodyJoin_any (a : Option Addr) (n cap : Nat) (w : World) (h : CodeAt w a n) (hc : n ≤ cap) (hcap : cap ≤ maxLen) :
    Calls Tryd.prog 5 #[.slice a n cap] w (DrewMj w) := by
  go_enter Tryd.func5, Tryd.ntmps5
  go_wp2_with (fail)
  (go_at_call 18; refine (open_any a n cap _ h hc hcap).mono ?_; rintro e w1 ⟨A, rfl, hr1, hb1, hs1⟩)
  have hB := hr1.lt
  clear h hc hcap
  go_wp2_with (fail)
  (go_at_call 19; refine (l91Melody_any w.heap.size A 0 10 (by omega) (by omega) _ hr1).mono ?_; rintro e w2 ⟨v, xs, rfl, hI, hl⟩)
  have hrow : TRow w2 w1.heap.size w2.heap.size v xs := ⟨hI.own, fun g hg => (hI.own.lt g hg).2⟩
  have hrd := hI.rd
  have hb2 : Below w.heap.size w w2 := below_gb hb1 hI.gb (Nat.le_refl _)
  have z12 := hI.gb.size
  clear hI hr1 hb1 hs1
  go_wp2_with (fail)
  (go_at_call 20; refine (pick_any 12 w.heap.size A 24 (by omega) (by omega) (by omega) _ hrd).mono ?_; rintro e w3 ⟨k, rfl, k0, k1, hr3, hg3⟩)
  have hrow3 : TRow w3 w1.heap.size w2.heap.size v xs := hrow.keep fun j h1 h2 _ => hg3.block j h1 (fun e => by injection e with e; omega)
  have hb3 : Below w.heap.size w w3 := below_gb hb2 hg3 (Nat.le_refl _)
  have z23 := hg3.size
  clear hrow hrd hb2 hg3
  by_cases hk : k = 0
  · subst hk
    have hb0 : Below w3.heap.size w3 (w3.alloc (.cells #[] 52)) := (Below.refl _ _).alloc (Nat.le_refl _) _
    have hown0 : (w3.alloc (.cells #[] 52)).ownsRow w3.heap.size 52 2 (.slice (some ⟨w3.heap.size, 0, none⟩) 0 0) 0 [] := ⟨rfl, .inr ⟨w3.heap.size, 0, #[], rfl, Nat.le_refl _, heap_alloc_new w3 _, by simp, by simp [maxLen], by simp, by simp⟩⟩
    have h1 := hrow3.below hb0 (.inr (Nat.le_refl _))
    have hz1 : w3.heap.size ≤ (w3.alloc (.cells #[] 52)).heap.size := hb0.size
    have HR3 := Lib.hid hr3
    have HB3 := Lib.hid hb3
    have HROW := Lib.hid hrow3
    clear hr3 hb3 hrow3
    go_wp2_with (first | (at_builtin; refine append_tones rfl (.tmp 13) (.tmp 14) rfl w3.heap.size w1.heap.size w2.heap.size _ v 0 [] xs rfl hown0 rfl h1 (by omega) (by omega) hz1 ?_; intro v1 w4 hown1 hg1; have hb4 : Below w3.heap.size w3 w4 := hb0.grown hg1 hz1 (fun k hk => (hown0.lt k hk).1); have hu4 := HROW.out.below hb4 (.inr (Nat.le_refl _)); have hz2 := hb4.size; clear hown0 hg1 h1) | (at_builtin; refine append_tones rfl (.tmp 15) (.tmp 16) rfl w3.heap.size w1.heap.size w2.heap.size _ v _ _ xs rfl hown1 rfl hu4 (by omega) (by omega) hz2 ?_; intro v2 w5 hown2 hg2; have hb5 : Below w3.heap.size w3 w5 := hb4.grown hg2 hz2 (fun k hk => (hown1.lt k hk).1); have hr5 : TRow w5 w3.heap.size w5.heap.size v2 (xs ++ xs) := trow_of (by rw [tcs_app]; exact hown2) (by simp); clear hown1 hg2 hown2 hu4 hz2) | (fail))
    have hrd5 := HR3.out.below hb5
    have HB5 := Lib.hid (bl_step HB3.out hb5)
    have HR5 := Lib.hid hr5
    have z35 := hb5.size
    clear hr5 hb5 hb4 hb0 hz1
    (go_at_call 19; refine (l91Melody_any w.heap.size A 25 10 (by omega) (by omega) _ hrd5).mono ?_; rintro e w6 ⟨u, ys, rfl, hI6, hl6⟩)
    have HE := Lib.hid (drewMj HR5.out (Nat.le_refl _) hI6 (by omega) (by omega) HB5.out (Nat.le_refl _) (by rw [List.length_append]; omega) hl6)
    clear hI6 hrd5
    go_wp2
    go_ret2
    exact HE.out
  · have e0 : (k == 0) = false := by simpa using hk
    have HR3 := Lib.hid hrow3
    have HB3 := Lib.hid hb3
    clear hk hrow3 hb3
    go_wp2_with (fail)
    (go_at_call 19; refine (l91Melody_any w.heap.size A 25 10 (by omega) (by omega) _ hr3).mono ?_; rintro e w6 ⟨u, ys, rfl, hI6, hl6⟩)
    have HE := Lib.hid (drewMj HR3.out z23 hI6 (by omega) (by omega) HB3.out (Nat.le_refl _) (by omega) hl6)
    clear hI6 hr3
    go_wp2
    go_ret2
    exact HE.out

end Go.Proofs.YthnofdkkocpjhaaDoor

namespace Go.Proofs.YthnofdkkocpjhaaDoor
open Go.RowKit
set_option maxRecDepth 100000
set_option linter.unusedVariables false

theorem melodyText_any (lo hi : Nat) (v : Value) (xs : List (Int × Bool)) (w : World) (h : TRow w lo hi v xs) :
    Calls Tryd.prog 11 #[v] w fun e w' => e = .returned (.string (mts (mvl xs))) ∧ Below w.heap.size w w' := by
  have HV : Hid (allv (mvl xs) = true) := List.all_eq_true.2 fun t ht => mvl_mem ht
  have HL := Lib.hid (mvl_len xs)
  go_enter Tryd.func11, Tryd.ntmps11
  go_wp2_with (fail)
  (go_at_call 21; refine (newMelody_any lo hi v xs _ h).mono ?_; rintro e w1 ⟨p, rfl, hm, hb1⟩)
  go_wp2_with (fail)
  (go_at_call 31; refine (mtext_any p _ _ _ hm HV.out HL.out).mono ?_; rintro e w2 ⟨rfl, hb2⟩)
  clear hm h
  go_wp2
  go_ret
  exact ⟨rfl, bl_step hb1 hb2⟩

end Go.Proofs.YthnofdkkocpjhaaDoor

namespace Go.Proofs.YthnofdkkocpjhaaDoor
open Go.RowKit Go.ChangeShapes Go.WideShapes Go.ChangeAt Go.ChangeMaps
set_option maxRecDepth 100000
set_option linter.unusedVariables false

set_option maxHeartbeats 3000000 in
theorem fnMelodyJoin_walk (a : Option Addr) (n cap : Nat) (w : World) (h : CodeAt w a n) (hc : n ≤ cap) (hcap : cap ≤ maxLen) :
    Calls Tryd.prog 3 #[.slice a n cap] w fun e w' => e = .returned (.bool true) ∧ Below w.heap.size w w' := by
  by_cases hn : 1048576 < n
  · have g : (1048576 : Int) < (n : Int) := by omega
    go_enter Tryd.func3, Tryd.ntmps3
    go_wp2
    go_ret
    exact ⟨rfl, Below.refl _ _⟩
  have g : decide ((1048576 : Int) < (n : Int)) = false := by simp; omega
  go_enter Tryd.func3, Tryd.ntmps3
  go_wp2_with (fail)
  (go_at_call 5; refine (drawMelodyJoin_any a n cap _ h hc hcap).mono ?_; rintro e w1 ⟨v, u, xs, ys, rfl, hrx, hry, hlx, hly, hb1⟩)
  clear h hc hcap g hn
  have HB1 := Lib.hid hb1
  have HX := Lib.hid (fun W (hb : Below w1.heap.size w1 W) => hrx.below (w' := W) hb (.inr (Nat.le_refl _)))
  have HY := Lib.hid (fun W (hb : Below w1.heap.size w1 W) => hry.below (w' := W) hb (.inr (Nat.le_refl _)))
  have KI := Lib.hid (fun W h k => melodyJoin_any w.heap.size w1.heap.size w.heap.size w1.heap.size v u xs ys W h k (by omega) (by omega))
  have KS := Lib.hid (fun W h k => sMelodyJoin_any w.heap.size w1.heap.size w.heap.size w1.heap.size v u xs ys W h k (by omega) (by omega))
  unfold TBuilt2 at KI KS
  have KE := Lib.hid (fun lo hi lo' hi' v u W h k => sameTones_yes lo hi lo' hi' v u (jn xs ys) W h k)
  cases hj : jok xs ys with
  | false =>
    rw [hj] at KI KS
    generalize jn xs ys = zs at *
    clear hj hrx hry hb1
    go_wp2_with (fail)
    (go_at_call 6; refine (KI.out _ (HX.out _ (Below.refl _ _)) (HY.out _ (Below.refl _ _))).mono ?_; rintro e w2 ⟨vo, rfl, hro, hb2⟩)
    go_wp2_with (fail)
    (go_at_call 7; refine (KS.out _ (HX.out _ hb2) (HY.out _ hb2)).mono ?_; rintro e w3 ⟨vs, rfl, hrs, hb3⟩)
    have hro3 := hro.below hb3 (.inr (Nat.le_refl _))
    have HRO := Lib.hid (fun W (hb : Below w3.heap.size w3 W) => hro3.below (w' := W) hb (.inr (Nat.le_refl _)))
    have HRS := Lib.hid (fun W (hb : Below w3.heap.size w3 W) => hrs.below (w' := W) hb (.inr (Nat.le_refl _)))
    have HB3 := Lib.hid (bl_step (bl_step HB1.out hb2) hb3)
    clear hro hro3 hrs hb2 hb3
    go_wp2_with (fail)
    (go_at_call 8; refine (KE.out _ _ _ _ _ _ _ (HRO.out _ (Below.refl _ _)) (HRS.out _ (Below.refl _ _))).mono ?_; rintro e w4 ⟨rfl, hb4⟩)
    go_wp2_with (fail)
    (go_at_call 8; refine (KE.out _ _ _ _ _ _ _ (HRO.out _ hb4) (HRS.out _ hb4)).mono ?_; rintro e w5 ⟨rfl, hb5⟩)
    go_wp2
    go_ret
    exact ⟨rfl, bl_step (bl_step HB3.out hb4) hb5⟩
  | true =>
    obtain ⟨f1, f2, f3, f4, f5, f6⟩ := join_facts hj
    rw [jn_yes hj] at KI KS KE
    rw [hj] at KI KS
    have KBx := Lib.hid (fun lo hi v W h => singBest_any lo hi v xs W h)
    have KBy := Lib.hid (fun lo hi v W h => singBest_any lo hi v ys W h)
    have KBz := Lib.hid (fun lo hi v W h => singBest_any lo hi v (xs ++ ys) W h)
    unfold IMade2 at KBx KBy KBz
    have KMx := Lib.hid (fun lo hi v W h => singMany_any lo hi v xs W h)
    have KMy := Lib.hid (fun lo hi v W h => singMany_any lo hi v ys W h)
    have KMz := Lib.hid (fun lo hi v W h => singMany_any lo hi v (xs ++ ys) W h)
    rw [sangM_yes f1] at KMx
    rw [sangM_yes f2] at KMy
    rw [sangM_yes f3, manyOf_app] at KMz
    have KTx := Lib.hid (fun lo hi v W h => melodyText_any lo hi v xs W h)
    have KTy := Lib.hid (fun lo hi v W h => melodyText_any lo hi v ys W h)
    have KTz := Lib.hid (fun lo hi v W h => melodyText_any lo hi v (xs ++ ys) W h)
    rw [mvl_yes f1] at KTx
    rw [mvl_yes f2] at KTy
    rw [mvl_yes f3] at KTz
    have KUx := Lib.hid (fun lo hi lo' hi' v u W h k => singMutations_any lo hi lo' hi' v u xs (sbL xs) W h k)
    have KUy := Lib.hid (fun lo hi lo' hi' v u W h k => singMutations_any lo hi lo' hi' v u ys (sbL ys) W h k)
    have KUz := Lib.hid (fun lo hi lo' hi' v u W h k => singMutations_any lo hi lo' hi' v u (xs ++ ys) (sbL (xs ++ ys)) W h k)
    have bx := manyOf_in f1
    have by' := manyOf_in f2
    have bz := manyOf_in f3
    rw [manyOf_app] at bz
    have ux := smu_in xs (sbL xs)
    have uy := smu_in ys (sbL ys)
    have HJT : Hid (xs ≠ [] → ys ≠ [] → mts xs ++ ⟨#[32]⟩ ++ mts ys = mts (xs ++ ys)) := fun h1 h2 => mts_join h1 h2
    have sx := mts_size xs
    have sy := mts_size ys
    have HNX : Hid (0 < xs.length → xs ≠ []) := fun h e => by rw [e] at h; exact absurd h (by decide)
    have HNY : Hid (0 < ys.length → ys ≠ []) := fun h e => by rw [e] at h; exact absurd h (by decide)
    have HF5 := Lib.hid f5
    have HF6 := Lib.hid f6
    clear f1 f2 f3 f5 f6 hj
    obtain ⟨va, vc, rfl, _⟩ := hrx.flat (rfl : xs.length = xs.length)
    obtain ⟨ua, uc, rfl, _⟩ := hry.flat (rfl : ys.length = ys.length)
    clear hrx hry hb1
    generalize sbB (xs ++ ys) = sz at *
    generalize sbB xs = sx1 at *
    generalize sbB ys = sy1 at *
    generalize smu xs (sbL xs) = mx at *
    generalize smu ys (sbL ys) = my at *
    generalize smu (xs ++ ys) (sbL (xs ++ ys)) = mz at *
    generalize mts xs = tx at *
    generalize mts ys = ty at *
    generalize mts (xs ++ ys) = tz at *
    obtain ⟨Px, hPx⟩ : ∃ P, manyOf xs = P := ⟨_, rfl⟩
    obtain ⟨Py, hPy⟩ : ∃ P, manyOf ys = P := ⟨_, rfl⟩
    rw [hPx] at KMx KMz bx bz
    rw [hPy] at KMy KMz by' bz
    have h24 : (3 : Int) ^ 24 = 282429536481 := (by decide)
    rw [h24] at bz
    obtain ⟨Pz, hPz⟩ : ∃ P, Px * Py = P := ⟨_, rfl⟩
    rw [hPz] at KMz bz
    have wm : IntKind.i64.wrap (Px * Py) = Pz := by rw [hPz]; exact IntWalk.i64_in _ (by omega)
    have wm2 : wrap64 (Px * Py) = Pz := by rw [hPz]; exact IntWalk.wrap64_in _ (by omega)
    clear hPz h24
    clear hPx hPy bx by' bz
    have ws1 : IntKind.i64.wrap (mx + my) = mx + my := IntWalk.i64_in _ (by omega)
    have ws2 : IntKind.i64.wrap (mx + my + 1) = mx + my + 1 := IntWalk.i64_in _ (by omega)
    obtain ⟨both, hboth⟩ : ∃ b, mx + my = b := ⟨_, rfl⟩
    rw [hboth] at ws1 ws2
    have HBO := Lib.hid hboth
    have hadd1 : ∀ W : World, (Op.stringOp .add tx ⟨#[32]⟩).run Tryd.prog W = .ok (.string (tx ++ ⟨#[32]⟩)) W := fun W => run_string_add_sum W _ _ (by show tx.size + 1 ≤ _; omega)
    have hadd2 : ∀ W : World, (Op.stringOp .add (tx ++ ⟨#[32]⟩) ty).run Tryd.prog W = .ok (.string (tx ++ ⟨#[32]⟩ ++ ty)) W := fun W => run_string_add_sum W _ _ (by rw [ByteArray.size_append]; show tx.size + 1 + ty.size ≤ _; omega)
    generalize tx ++ (⟨#[32]⟩ : ByteArray) = tx2 at *
    obtain ⟨tq, htq⟩ : ∃ q, tx2 ++ ty = q := ⟨_, rfl⟩
    rw [htq] at hadd2 HJT
    clear htq hboth
    have bth : decide (both ≤ mz) = true ∨ sz = false := by
      cases hs : sz with
      | false => exact .inr rfl
      | true => exact .inl (decide_eq_true (by have := (HF6.out hs).1; have := HBO.out; omega))
    have bth2 : decide (mz ≤ both + 1) = true ∨ sz = false := by
      cases hs : sz with
      | false => exact .inr rfl
      | true => exact .inl (decide_eq_true (by have := (HF6.out hs).2; have := HBO.out; omega))
    have BT := Lib.hid bth
    have BT2 := Lib.hid bth2
    have hmx : mx + my = both := HBO.out
    have ws0 : IntKind.i64.wrap (mx + my) = both := by rw [hmx]; exact ws1
    have HBX := Lib.hid hmx
    clear bth bth2 hmx HF6 HBO ux uy sx sy f4 hlx hly ws1
    go_wp2_with (fail)
    (go_at_call 6; refine (KI.out _ (HX.out _ (Below.refl _ _)) (HY.out _ (Below.refl _ _))).mono ?_; rintro e w2 ⟨vo, rfl, hro, hb2⟩)
    go_wp2_with (fail)
    (go_at_call 7; refine (KS.out _ (HX.out _ hb2) (HY.out _ hb2)).mono ?_; rintro e w3 ⟨vs, rfl, hrs, hb3⟩)
    have hro3 := hro.below hb3 (.inr (Nat.le_refl _))
    have HRO := Lib.hid (fun W (hb : Below w3.heap.size w3 W) => hro3.below (w' := W) hb (.inr (Nat.le_refl _)))
    have B3 := Lib.hid (bl_step hb2 hb3)
    have HRS := Lib.hid hrs
    clear hro hro3 hb2 hb3 hrs
    go_wp2_with (fail)
    (go_at_call 8; refine (KE.out _ _ _ _ _ _ _ (HRO.out _ (Below.refl _ _)) HRS.out).mono ?_; rintro e w4 ⟨rfl, hb4⟩)
    have D4 := Lib.hid hb4
    have B4 := Lib.hid (bl_step B3.out hb4)
    clear hb4
    go_wp2_with (fail)
    (go_at_call 9; refine (KBx.out _ _ _ _ (HX.out _ B4.out)).mono ?_; rintro e w5 ⟨x, rfl, hx, hb5⟩)
    have D5 := Lib.hid (bl_step D4.out hb5)
    have B5 := Lib.hid (bl_step B4.out hb5)
    have HXB := Lib.hid (fun W (hb : Below w5.heap.size w5 W) => hx.below (w' := W) hb (.inr (Nat.le_refl _)))
    clear hb5 hx
    go_wp2_with (fail)
    (go_at_call 9; refine (KBy.out _ _ _ _ (HY.out _ B5.out)).mono ?_; rintro e w6 ⟨y, rfl, hy, hb6⟩)
    have E6 := Lib.hid hb6
    have D6 := Lib.hid (bl_step D5.out hb6)
    have B6 := Lib.hid (bl_step B5.out hb6)
    have HYB := Lib.hid (fun W (hb : Below w6.heap.size w6 W) => hy.below (w' := W) hb (.inr (Nat.le_refl _)))
    clear hb6 hy
    go_wp2_with (fail)
    (go_at_call 9; refine (KBz.out _ _ _ _ (HRO.out _ D6.out)).mono ?_; rintro e w7 ⟨z, rfl, hz, hb7⟩)
    have F7 := Lib.hid hb7
    have E7 := Lib.hid (bl_step E6.out hb7)
    have D7 := Lib.hid (bl_step D6.out hb7)
    have B7 := Lib.hid (bl_step B6.out hb7)
    have HZB := Lib.hid (fun W (hb : Below w7.heap.size w7 W) => hz.below (w' := W) hb (.inr (Nat.le_refl _)))
    clear hb7 hz
    have hz5 : sz = (sx1 && sy1) := HF5.out
    subst hz5
    clear HF5
    cases sx1
    all_goals cases sy1
    all_goals
      first | (have BT' := BT.out.resolve_right (by decide); have BT2' := BT2.out.resolve_right (by decide)) | skip
      go_wp2_with (fail)
      (go_at_call 10; refine (KMz.out _ _ _ _ (HRO.out _ D7.out)).mono ?_; rintro e w8 ⟨rfl, hb8⟩)
      have C8 := Lib.hid hb8
      clear hb8
      go_wp2_with (fail)
      (go_at_call 10; refine (KMx.out _ _ _ _ (HX.out _ (bl_step B7.out C8.out))).mono ?_; rintro e w9 ⟨rfl, hb9⟩)
      have C9 := Lib.hid (bl_step C8.out hb9)
      clear hb9
      go_wp2_with (fail)
      (go_at_call 10; refine (KMy.out _ _ _ _ (HY.out _ (bl_step B7.out C9.out))).mono ?_; rintro e w10 ⟨rfl, hb10⟩)
      have C10 := Lib.hid (bl_step C9.out hb10)
      clear hb10
      by_cases gx : 0 < xs.length
      case neg =>
        have g1 : decide ((0 : Int) < (xs.length : Int)) = false := decide_eq_false (by omega)
        have g2 : decide (0 < xs.length) = false := decide_eq_false gx
        go_wp2_with (fail)
        (go_at_call 12; refine (KUz.out _ _ _ _ _ _ _ (HRO.out _ (bl_step D7.out C10.out)) (HZB.out _ C10.out)).mono ?_; rintro e wa ⟨rfl, hba⟩)
        have Ca := Lib.hid (bl_step C10.out hba)
        clear hba
        go_wp2_with (fail)
        (go_at_call 12; refine (KUx.out _ _ _ _ _ _ _ (HX.out _ (bl_step B7.out Ca.out)) (HXB.out _ (bl_step (bl_step E6.out F7.out) Ca.out))).mono ?_; rintro e wb ⟨rfl, hbb⟩)
        have Cb := Lib.hid (bl_step Ca.out hbb)
        clear hbb
        go_wp2_with (fail)
        (go_at_call 12; refine (KUy.out _ _ _ _ _ _ _ (HY.out _ (bl_step B7.out Cb.out)) (HYB.out _ (bl_step F7.out Cb.out))).mono ?_; rintro e wc ⟨rfl, hbc⟩)
        go_wp2
        go_ret
        exact ⟨rfl, bl_step HB1.out (bl_step B7.out (bl_step Cb.out hbc))⟩
      have g1 : decide ((0 : Int) < (xs.length : Int)) = true := decide_eq_true (by omega)
      have g2 : decide (0 < xs.length) = true := decide_eq_true gx
      by_cases gy : 0 < ys.length
      case neg =>
        have g3 : decide ((0 : Int) < (ys.length : Int)) = false := decide_eq_false (by omega)
        have g4 : decide (0 < ys.length) = false := decide_eq_false gy
        go_wp2_with (fail)
        (go_at_call 12; refine (KUz.out _ _ _ _ _ _ _ (HRO.out _ (bl_step D7.out C10.out)) (HZB.out _ C10.out)).mono ?_; rintro e wa ⟨rfl, hba⟩)
        have Ca := Lib.hid (bl_step C10.out hba)
        clear hba
        go_wp2_with (fail)
        (go_at_call 12; refine (KUx.out _ _ _ _ _ _ _ (HX.out _ (bl_step B7.out Ca.out)) (HXB.out _ (bl_step (bl_step E6.out F7.out) Ca.out))).mono ?_; rintro e wb ⟨rfl, hbb⟩)
        have Cb := Lib.hid (bl_step Ca.out hbb)
        clear hbb
        go_wp2_with (fail)
        (go_at_call 12; refine (KUy.out _ _ _ _ _ _ _ (HY.out _ (bl_step B7.out Cb.out)) (HYB.out _ (bl_step F7.out Cb.out))).mono ?_; rintro e wc ⟨rfl, hbc⟩)
        go_wp2
        go_ret
        exact ⟨rfl, bl_step HB1.out (bl_step B7.out (bl_step Cb.out hbc))⟩
      have g3 : decide ((0 : Int) < (ys.length : Int)) = true := decide_eq_true (by omega)
      have g4 : decide (0 < ys.length) = true := decide_eq_true gy
      have htz : tq = tz := HJT.out (HNX.out gx) (HNY.out gy)
      subst htz
      go_wp2_with (fail)
      (go_at_call 11; refine (KTz.out _ _ _ _ (HRO.out _ (bl_step D7.out C10.out))).mono ?_; rintro e w11 ⟨rfl, hb11⟩)
      have C11 := Lib.hid (bl_step C10.out hb11)
      clear hb11
      go_wp2_with (fail)
      (go_at_call 11; refine (KTx.out _ _ _ _ (HX.out _ (bl_step B7.out C11.out))).mono ?_; rintro e w12 ⟨rfl, hb12⟩)
      have C12 := Lib.hid (bl_step C11.out hb12)
      clear hb12
      go_wp2_with (fail)
      (go_at_call 11; refine (KTy.out _ _ _ _ (HY.out _ (bl_step B7.out C12.out))).mono ?_; rintro e w13 ⟨rfl, hb13⟩)
      have C13 := Lib.hid (bl_step C12.out hb13)
      clear hb13
      go_wp2_with (fail)
      (go_at_call 12; refine (KUz.out _ _ _ _ _ _ _ (HRO.out _ (bl_step D7.out C13.out)) (HZB.out _ C13.out)).mono ?_; rintro e wa ⟨rfl, hba⟩)
      have Ca := Lib.hid (bl_step C13.out hba)
      clear hba
      go_wp2_with (fail)
      (go_at_call 12; refine (KUx.out _ _ _ _ _ _ _ (HX.out _ (bl_step B7.out Ca.out)) (HXB.out _ (bl_step (bl_step E6.out F7.out) Ca.out))).mono ?_; rintro e wb ⟨rfl, hbb⟩)
      have Cb := Lib.hid (bl_step Ca.out hbb)
      clear hbb
      go_wp2_with (fail)
      (go_at_call 12; refine (KUy.out _ _ _ _ _ _ _ (HY.out _ (bl_step B7.out Cb.out)) (HYB.out _ (bl_step F7.out Cb.out))).mono ?_; rintro e wc ⟨rfl, hbc⟩)
      go_wp2
      go_ret
      exact ⟨rfl, bl_step HB1.out (bl_step B7.out (bl_step Cb.out hbc))⟩


noncomputable def fnMelodyJoin_world (os : Os) : World := { World.holding Tryd.prog os ⟨#[], #[], []⟩ with heap := ((((World.holding Tryd.prog os ⟨#[], #[], []⟩).heap.modify 3 fun | .cells _ t frozen => .cells #[.int .u8 0, .int .u8 1, .int .u8 28, .int .u8 2, .int .u8 29, .int .u8 14, .int .u8 24, .int .u8 3, .int .u8 30, .int .u8 22, .int .u8 20, .int .u8 15, .int .u8 25, .int .u8 17, .int .u8 4, .int .u8 8, .int .u8 31, .int .u8 27, .int .u8 13, .int .u8 23, .int .u8 21, .int .u8 19, .int .u8 16, .int .u8 7, .int .u8 26, .int .u8 12, .int .u8 18, .int .u8 6, .int .u8 11, .int .u8 5, .int .u8 10, .int .u8 9] t frozen | o => o).modify 4 fun | .cells _ t frozen => .cells #[.int .u8 0, .int .u8 1, .int .u8 56, .int .u8 2, .int .u8 57, .int .u8 49, .int .u8 28, .int .u8 3, .int .u8 61, .int .u8 58, .int .u8 42, .int .u8 50, .int .u8 38, .int .u8 29, .int .u8 17, .int .u8 4, .int .u8 62, .int .u8 47, .int .u8 59, .int .u8 36, .int .u8 45, .int .u8 43, .int .u8 51, .int .u8 22, .int .u8 53, .int .u8 39, .int .u8 33, .int .u8 30, .int .u8 24, .int .u8 18, .int .u8 12, .int .u8 5, .int .u8 63, .int .u8 55, .int .u8 48, .int .u8 27, .int .u8 60, .int .u8 41, .int .u8 37, .int .u8 16, .int .u8 46, .int .u8 35, .int .u8 44, .int .u8 21, .int .u8 52, .int .u8 32, .int .u8 23, .int .u8 11, .int .u8 54, .int .u8 26, .int .u8 40, .int .u8 15, .int .u8 34, .int .u8 20, .int .u8 31, .int .u8 10, .int .u8 25, .int .u8 14, .int .u8 19, .int .u8 9, .int .u8 13, .int .u8 8, .int .u8 7, .int .u8 6] t frozen | o => o).modify 2 fun | .cells _ t frozen => .cells #[.int .u64 1, .int .u64 10, .int .u64 100, .int .u64 1000, .int .u64 10000, .int .u64 100000, .int .u64 1000000, .int .u64 10000000, .int .u64 100000000, .int .u64 1000000000, .int .u64 10000000000, .int .u64 100000000000, .int .u64 1000000000000, .int .u64 10000000000000, .int .u64 100000000000000, .int .u64 1000000000000000, .int .u64 10000000000000000, .int .u64 100000000000000000, .int .u64 1000000000000000000, .int .u64 10000000000000000000] t frozen | o => o) }
theorem fnMelodyJoin_met (os : Os) : laidMet Tryd.prog Rows.fnMelodyJoinRow.laid ((fnMelodyJoin_world os).forCall (fun _ _ => 0) ⟨#[], #[.slice none 0 0], []⟩).memory :=
  laidMet_of_run' 8 (by kernel_rfl) (by kernel_rfl)
theorem fnMelodyJoin_reads (os : Os) {H : Type} (enc : TypeId × Value → H) : ∃ places, DataW.whole enc Tryd.prog ((fnMelodyJoin_world os).forCall (fun _ _ => 0) ⟨#[], #[.slice none 0 0], []⟩).memory Tryd.f3.params.toList Rows.fnMelodyJoinSpec.vars false (#[.slice none 0 0] : Array Value).toList 8 = some ([.nil], [], places) :=
  ⟨((DataW.whole enc Tryd.prog ((fnMelodyJoin_world os).forCall (fun _ _ => 0) ⟨#[], #[.slice none 0 0], []⟩).memory Tryd.f3.params.toList Rows.fnMelodyJoinSpec.vars false (#[.slice none 0 0] : Array Value).toList 8).getD ([], [], [])).2.2, by kernel_rfl⟩
set_option maxRecDepth 100000 in
theorem fnMelodyJoin_lifted (os : Os) (started : os.Started) (H : Type) (enc : TypeId × Value → H) (F : Stop.Interp) :
    ReturnsInHanded {} Tryd.checked os 3 .any ((OpenSpec.ofChange Rows.fnMelodyJoinSpec).preRow enc Tryd.prog Tryd.f3 Rows.fnMelodyJoinRow.domain false Rows.fnMelodyJoinRow.laid) (((OpenSpec.ofChange Rows.fnMelodyJoinSpec).at F).post enc Tryd.prog Tryd.f3 false true false false) := by
  obtain ⟨places, hx⟩ := fnMelodyJoin_reads os enc
  refine returnsInHanded_of_row (C := Tryd.checked) (s := OpenSpec.ofChange Rows.fnMelodyJoinSpec) own started (by kernel_rfl) Tryd.func3
    (witness_row_at (enc := enc) (C := Tryd.checked) false (fnMelodyJoin_world os) #[.slice none 0 0] rfl (by kernel_rfl) (by kernel_rfl) (by kernel_rfl)
      (OpenSpec.preRow_of_cond 8 hx (by kernel_rfl) (fun k hk => by cases hk) (by kernel_rfl) (fnMelodyJoin_met os))) ?_
  intro W base args ds gs before hval0 hW _ _ _ hL _ _
  have hval : ∀ (j : Nat) t v, Tryd.f3.params[j]? = some t → args[j]? = some v → Value.okWide Tryd.prog W .any base t v := hval0
  have hW' := hW
  obtain ⟨p, q, hA0, hV, rfl, _, _⟩ := hW
  have hA : DataW.TrodAll enc Tryd.prog W 0 (fun _ => true) true Tryd.f3.params.toList args.toList ds p := hA0
  rw [Tryd.params3] at hA hval
  obtain ⟨v0, vs0, d0, ds0, p0, q0, hargs, rfl, rfl, h0, r0⟩ := trodAll_cons hA
  obtain ⟨rfl, rfl, rfl⟩ := trodAll_nil r0
  obtain rfl : args = #[v0] := by cases args; simp_all
  obtain ⟨rfl, rfl⟩ := trodVars_none hV
  obtain ⟨a0, n0, c0, rfl⟩ := okWide_slice Tryd.underlying22 (hval 0 22 v0 rfl rfl)
  have k0 := h0
  have lt0 : ∀ x ∈ p0, x.block < W.heap.size := by obtain ⟨m, hm⟩ := k0; exact DataW.trod_lt m _ _ _ hm
  have y0 := code_in h0
  clear hA0 hval0
  refine (fnMelodyJoin_walk a0 n0 c0 W y0.1 y0.2.1 y0.2.2).mono fun e W' ⟨he, hb⟩ => ?_
  subst he
  exact ⟨_, rfl, _, _, _, [], _, [], hW', trodAll_cons_mk (shut_bool Tryd.underlying4 _) trodAll_mk0, trodAll_cons_mk (Below.trod laidOut (by kernel_rfl) (of_decide_eq_true (by kernel_rfl)) k0 hb lt0) (trodAll_mk0), rfl, hb.frame _, fun h => by cases h⟩



end Go.Proofs.YthnofdkkocpjhaaDoor
