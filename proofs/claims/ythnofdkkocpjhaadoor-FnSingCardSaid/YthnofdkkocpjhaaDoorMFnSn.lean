/-
  The law FnSing: for every code, a melody is sung with names.
-/
import Derived.Test.YthnofdkkocpjhaaDoorSg5
import Derived.Test.YthnofdkkocpjhaaDoorBase
import Derived.WalkLawsBesides
import Derived.Handy
import Derived.Deep.QuietTactic
import Derived.BigQuiet
import Derived.Test.YthnofdkkocpjhaaDoorSing4
import Derived.Test.YthnofdkkocpjhaaDoorStx
import Derived.Test.YthnofdkkocpjhaaDoorSti
import Derived.Test.YthnofdkkocpjhaaDoorSts
import Derived.Test.YthnofdkkocpjhaaDoorMelV
import Derived.Test.YthnofdkkocpjhaaDoorDraw2
import Derived.Test.YthnofdkkocpjhaaDoorTL2
import Derived.Test.YthnofdkkocpjhaaDoorTI
import Derived.Test.YthnofdkkocpjhaaDoorDrawM
import Derived.Test.YthnofdkkocpjhaaDoorHexAll
import Derived.Test.YthnofdkkocpjhaaDoorOpen
import Derived.Test.YthnofdkkocpjhaaDoorDraw1
import Derived.Test.YthnofdkkocpjhaaDoorLaid1
import Derived.ChangeMaps5
import Derived.Deep.DeepHandedRow
import Derived.Deep.DeepRowAt
import Derived.OpenVars
import Derived.SevenTiedAt
import Derived.Test.YthnofdkkocpjhaaDoorCards
import Derived.Test.YthnofdkkocpjhaaDoorTie
namespace Go.Proofs.YthnofdkkocpjhaaDoor
set_option maxRecDepth 100000
set_option linter.unusedVariables false

/-- one list stands ahead of another or is it -/
def lexle : List Int → List Int → Prop
  | x :: a, y :: l => x < y ∨ (x = y ∧ lexle a l)
  | [], [] => True
  | _, _ => False
/-- each step is a hexachord of its tone -/
def sings : List Int → List (Int × Bool) → Prop
  | k :: l, t :: r => k ∈ hx t ∧ sings l r
  | [], [] => True
  | _, _ => False
theorem hx_sorted (t : Int × Bool) : (hx t).Pairwise (· < ·) := by
  unfold hx hall
  refine List.Pairwise.filter _ ?_
  rw [List.pairwise_map]
  exact List.pairwise_lt_range.imp fun h => by omega
theorem gre_best {r : List (Int × Bool)} (hg : sgo r = true) (h : Int) {l : List Int} (hl : sings l r) : chs (h :: gre r h) < chs (h :: l) ∨ (chs (h :: gre r h) = chs (h :: l) ∧ lexle (gre r h) l) := by
  induction r generalizing h l with
  | nil =>
    cases l with
    | nil => exact .inr ⟨rfl, trivial⟩
    | cons k l => exact absurd hl (by simp [sings])
  | cons t r ih =>
    cases l with
    | nil => exact absurd hl (by simp [sings])
    | cons k l =>
      obtain ⟨hk, hl⟩ := hl
      obtain ⟨hn, hg'⟩ := sgo_cons hg
      have IH := fun x => ih hg' x hl
      have eF : ∀ x, few (t :: r) x + chg h x = chs (h :: x :: gre r x) := fun x => by
        simp only [chs]; rw [← few_chs (t := t) hg']; omega
      rcases bst_spec (fun x => few (t :: r) x + chg h x) (hx t) with ⟨h1, _⟩ | ⟨a, b, z, h1, h2, h3, h4⟩
      · exact absurd h1 hn
      have ez : bstI (fun x => few (t :: r) x + chg h x) (hx t) = z := by unfold bstI; rw [h2]; rfl
      show chs (h :: bstI (fun x => few (t :: r) x + chg h x) (hx t) :: gre r (bstI (fun x => few (t :: r) x + chg h x) (hx t))) < chs (h :: k :: l) ∨ (chs (h :: bstI (fun x => few (t :: r) x + chg h x) (hx t) :: gre r (bstI (fun x => few (t :: r) x + chg h x) (hx t))) = chs (h :: k :: l) ∧ lexle (bstI (fun x => few (t :: r) x + chg h x) (hx t) :: gre r (bstI (fun x => few (t :: r) x + chg h x) (hx t))) (k :: l))
      rw [ez]
      have hz := h4 k hk
      simp only [eF] at hz h3
      have e2 : ∀ m : List Int, chs (h :: k :: m) = chg h k + chs (k :: m) := fun m => rfl
      have ik := IH k
      rw [e2] at hz ⊢
      have hord : k ∈ a ∨ k = z ∨ z < k := by
        rw [h1] at hk
        rcases List.mem_append.1 hk with hk | hk
        · exact .inl hk
        · rcases List.mem_cons.1 hk with hk | hk
          · exact .inr (.inl hk)
          · right; right
            have hs := hx_sorted t
            rw [h1, List.pairwise_append] at hs
            exact (List.pairwise_cons.1 hs.2.1).1 k hk
      rcases hord with ho | rfl | ho
      · have := h3 k ho
        rw [e2] at this
        left
        rcases ik with ik | ik <;> omega
      · rw [e2]
        rcases ik with ik | ⟨ik, il⟩
        · left; omega
        · right; exact ⟨by omega, .inr ⟨rfl, il⟩⟩
      · rcases Nat.lt_or_ge (chs (h :: z :: gre r z)) (chg h k + chs (k :: l)) with hlt | hge
        · exact .inl hlt
        · right
          refine ⟨?_, .inl ho⟩
          rcases ik with ik | ⟨ik, _⟩ <;> omega
theorem sgb_best {xs : List (Int × Bool)} (hg : sgo xs = true) {l : List Int} (hl : sings l xs) : chs (sgb xs) < chs l ∨ (chs (sgb xs) = chs l ∧ lexle (sgb xs) l) := by
  cases xs with
  | nil => cases l with
    | nil => exact .inr ⟨rfl, trivial⟩
    | cons k l => exact absurd hl (by simp [sings])
  | cons t r => cases l with
    | nil => exact absurd hl (by simp [sings])
    | cons k l =>
      obtain ⟨hk, hl⟩ := hl
      obtain ⟨hn, hg'⟩ := sgo_cons hg
      rcases bst_spec (few (t :: r)) (hx t) with ⟨h1, _⟩ | ⟨a, b, z, h1, h2, h3, h4⟩
      · exact absurd h1 hn
      have ez : bstI (few (t :: r)) (hx t) = z := by unfold bstI; rw [h2]; rfl
      show chs (bstI (few (t :: r)) (hx t) :: gre r (bstI (few (t :: r)) (hx t))) < chs (k :: l) ∨ (chs (bstI (few (t :: r)) (hx t) :: gre r (bstI (few (t :: r)) (hx t))) = chs (k :: l) ∧ lexle (bstI (few (t :: r)) (hx t) :: gre r (bstI (few (t :: r)) (hx t))) (k :: l))
      rw [ez]
      have hz := h4 k hk
      have ik := gre_best hg' k hl
      have eF : ∀ x, few (t :: r) x = chs (x :: gre r x) := fun x => few_chs hg' x
      simp only [eF] at hz h3
      have hord : k ∈ a ∨ k = z ∨ z < k := by
        rw [h1] at hk
        rcases List.mem_append.1 hk with hk | hk
        · exact .inl hk
        · rcases List.mem_cons.1 hk with hk | hk
          · exact .inr (.inl hk)
          · right; right
            have hs := hx_sorted t
            rw [h1, List.pairwise_append] at hs
            exact (List.pairwise_cons.1 hs.2.1).1 k hk
      rcases hord with ho | rfl | ho
      · have := h3 k ho
        left
        rcases ik with ik | ik <;> omega
      · rcases ik with ik | ⟨ik, il⟩
        · left; omega
        · right; exact ⟨by omega, .inr ⟨rfl, il⟩⟩
      · rcases Nat.lt_or_ge (chs (z :: gre r z)) (chs (k :: l)) with hlt | hge
        · exact .inl hlt
        · right
          refine ⟨?_, .inl ho⟩
          rcases ik with ik | ⟨ik, _⟩ <;> omega
theorem lexle_set {a : List Int} {i : Nat} {k : Int} (h : lexle a (a.set i k)) (hi : i < a.length) : a[i] ≤ k := by
  induction a generalizing i with
  | nil => simp at hi
  | cons x a ih =>
    cases i with
    | zero =>
      simp only [List.set_cons_zero, lexle] at h
      simp only [List.getElem_cons_zero]
      rcases h with h | ⟨h, _⟩ <;> omega
    | succ i =>
      simp only [List.set_cons_succ, lexle] at h
      simp only [List.getElem_cons_succ]
      rcases h with h | ⟨_, h⟩
      · omega
      · exact ih h (by simpa using hi)
theorem sings_set {l : List Int} {xs : List (Int × Bool)} {i : Nat} {k : Int} {t : Int × Bool} (h : sings l xs) (ht : xs[i]? = some t) (hk : k ∈ hx t) : sings (l.set i k) xs := by
  induction l generalizing xs i with
  | nil => cases xs with
    | nil => simp at ht
    | cons t r => exact absurd h (by simp [sings])
  | cons y l ih => cases xs with
    | nil => exact absurd h (by simp [sings])
    | cons u r => cases i with
      | zero =>
        simp at ht; subst ht
        exact ⟨hk, h.2⟩
      | succ i => exact ⟨h.1, ih h.2 (by simpa using ht)⟩
theorem gre_sings {r : List (Int × Bool)} (hg : sgo r = true) (h : Int) : sings (gre r h) r := by
  induction r generalizing h with
  | nil => trivial
  | cons t r ih =>
    obtain ⟨hn, hg'⟩ := sgo_cons hg
    exact ⟨(bst_in hn).2.1, ih hg' _⟩
theorem sgb_sings {xs : List (Int × Bool)} (hg : sgo xs = true) : sings (sgb xs) xs := by
  cases xs with
  | nil => trivial
  | cons t r =>
    obtain ⟨hn, hg'⟩ := sgo_cons hg
    exact ⟨(bst_in hn).2.1, gre_sings hg' _⟩
/-- the promise's mathematics: one step replaced -/
theorem sgb_swap {xs : List (Int × Bool)} (hg : sgo xs = true) {i : Nat} {k : Int} {t : Int × Bool} (ht : xs[i]? = some t) (hk : k ∈ hx t) (hi : i < (sgb xs).length) :
    chs (sgb xs) ≤ chs ((sgb xs).set i k) ∧ (chs (sgb xs) = chs ((sgb xs).set i k) → (sgb xs)[i] ≤ k) := by
  rcases sgb_best hg (sings_set (sgb_sings hg) ht hk) with h | ⟨h, hl⟩
  · exact ⟨by omega, fun e => by omega⟩
  · exact ⟨by omega, fun _ => lexle_set hl hi⟩

end Go.Proofs.YthnofdkkocpjhaaDoor

namespace Go.Proofs.YthnofdkkocpjhaaDoor
open Go.RowKit
set_option maxRecDepth 100000
set_option linter.unusedVariables false

def nmc (l : List UInt8) : Nat := if l = [] then 0 else l.count 32 + 1
theorem count_snoc (s : ByteArray) (k : Nat) (h : k < s.size) : (s.data.toList.take (k + 1)).count 32 = (s.data.toList.take k).count 32 + (if s[k].toNat = 32 then 1 else 0) := by
  have e : s.data.toList.take (k + 1) = s.data.toList.take k ++ [s[k]] := by
    rw [List.take_succ_eq_append_getElem (by simpa using h)]; rfl
  rw [e, List.count_append, List.count_singleton]
  have : (s[k] == 32) = decide (s[k].toNat = 32) := by
    rw [Bool.eq_iff_iff, beq_iff_eq, decide_eq_true_iff]
    exact ⟨fun h => by rw [h]; rfl, fun h => UInt8.toNat_inj.1 h⟩
  rw [this]
  simp
set_option maxHeartbeats 2000000 in
theorem names_any (s : ByteArray) (hs : s.size ≤ 1000000) (w : World) :
    Calls Tryd.prog 17 #[.string s] w fun e w' => e = .returned (.int .i64 ((nmc s.data.toList : Nat) : Int)) ∧ Below w.heap.size w w' := by
  by_cases he : s.data.toList = []
  · have hse : s = ⟨#[]⟩ := by
      obtain ⟨⟨d⟩⟩ := s
      have : d = [] := he
      rw [this]
    subst hse
    go_enter Tryd.func17, Tryd.ntmps17
    go_wp2
    go_ret
    exact ⟨rfl, Below.refl _ _⟩
  have g0 : s.toList.isEmpty = false := by rw [ByteArray.toList_eq]; simpa using he
  have HE : Hid (nmc s.data.toList = s.data.toList.count 32 + 1) := by show nmc s.data.toList = _; unfold nmc; rw [if_neg he]
  clear he
  go_enter Tryd.func17, Tryd.ntmps17
  go_wp2
  go_loopw [3, 4] (fun n i wr => ∃ k m : Nat, k ≤ s.size ∧ i = .int .i64 k ∧ n = .int .i64 ((m : Int) + 1) ∧ m ≤ k ∧ Hid (m = (s.data.toList.take k).count 32) ∧ Below w.heap.size w wr) (fun _ i _ => s.size - (intOf i).toNat)
  case atStart => exact ⟨0, 0, Nat.zero_le _, rfl, rfl, Nat.le_refl _, rfl, Below.refl _ _⟩
  case round =>
    obtain ⟨k, m, hk, rfl, rfl, hm, HM, hb⟩ := hrel
    by_cases hlt : k < s.size
    · have k1 : (k : Int) < (s.size : Int) := by omega
      have k0 : (0 : Int) ≤ (k : Int) := by omega
      have HC := Lib.hid (count_snoc s k hlt)
      by_cases h32 : s[k].toNat = 32
      · have g1 : ((s[k].toNat : Int) == 32) = true := by simp; omega
        have HN : Hid (m + 1 = (s.data.toList.take (k + 1)).count 32) := by
          show _ = _
          rw [HC.out, if_pos h32, ← HM.out]
        clear h32 HC
        go_wp2
        go_roundw
        case rel => exact ⟨k + 1, m + 1, by omega, by go_num, by go_num, by omega, HN.out, hb⟩
        case measure => simp [intOf]; omega
      · have g1 : ((s[k].toNat : Int) == 32) = false := by simp; omega
        have HN : Hid (m = (s.data.toList.take (k + 1)).count 32) := by
          show _ = _
          rw [HC.out, if_neg h32, ← HM.out]; rfl
        clear h32 HC
        go_wp2
        go_roundw
        case rel => exact ⟨k + 1, m, by omega, by go_num, rfl, by omega, HN.out, hb⟩
        case measure => simp [intOf]; omega
    · have hke : k = s.size := by omega
      subst hke
      have HF : Hid (((nmc s.data.toList : Nat) : Int) = (m : Int) + 1) := by
        show _ = _
        rw [HE.out, HM.out, List.take_of_length_le (by simp)]; rfl
      clear HM
      go_wp2
      go_ret
      exact ⟨by rw [HF.out]; rfl, hb⟩

end Go.Proofs.YthnofdkkocpjhaaDoor

namespace Go.Proofs.YthnofdkkocpjhaaDoor
open Go.RowKit
set_option maxRecDepth 100000
set_option linter.unusedVariables false

theorem bl_drewN5 {B : Nat} {a w : World} (h : Below B a w) (n : Nat) : Below B a (w.drewN n) := ⟨h.os, h.tape, h.output, h.size, h.block⟩
/-- the mutations among the first k + 1 steps -/
def mutTo (zs : List Int) (k : Nat) : Int := ((List.range k).filter fun i => zs.getD (i + 1) 0 != zs.getD i 0).length
def smu (xs : List (Int × Bool)) (zs : List Int) : Int := if sok xs zs then mutTo zs (zs.length - 1) else -1
theorem smu_no {xs : List (Int × Bool)} {zs : List Int} (h : sok xs zs = false) : smu xs zs = -1 := by simp [smu, h]
theorem smu_yes {xs : List (Int × Bool)} {zs : List Int} (h : sok xs zs = true) : smu xs zs = mutTo zs (zs.length - 1) := by simp [smu, h]
theorem mutTo_hit {zs : List Int} {k : Nat} (h : (zs.getD (k + 1) 0 != zs.getD k 0) = true) : mutTo zs (k + 1) = mutTo zs k + 1 := by
  unfold mutTo; rw [List.range_succ, List.filter_append]; simp at h; simp [h]
theorem mutTo_miss {zs : List Int} {k : Nat} (h : (zs.getD (k + 1) 0 != zs.getD k 0) = false) : mutTo zs (k + 1) = mutTo zs k := by
  unfold mutTo; rw [List.range_succ, List.filter_append]; simp at h; simp [h]
theorem mutTo_bd (zs : List Int) (k : Nat) : 0 ≤ mutTo zs k ∧ mutTo zs k ≤ k := by
  have := List.length_filter_le (fun i => zs.getD (i + 1) 0 != zs.getD i 0) (List.range k)
  simp only [List.length_range] at this
  unfold mutTo
  omega
theorem sok_len {xs : List (Int × Bool)} {zs : List Int} (h : sok xs zs = true) : zs.length ≤ 24 := by
  simp [sok, mv] at h; omega

set_option maxHeartbeats 4000000 in
theorem singMutations_any (lo hi lo' hi' : Nat) (v u : Value) (xs : List (Int × Bool)) (zs : List Int) (w : World) (h : TRow w lo hi v xs) (k : IRow w lo' hi' u zs) :
    Calls Tryd.prog 12 #[v, u] w fun e w' => e = .returned (.int .i64 (smu xs zs)) ∧ Below w.heap.size w w' := by
  by_cases hv : sok xs zs = false
  · rw [smu_no hv]
    go_enter Tryd.func12, Tryd.ntmps12
    go_wp2_with (fail)
    (go_at_call 16; refine (singOk_any _ _ _ _ v u xs zs _ h k).mono ?_; rintro e w1 ⟨rfl, hb1⟩)
    clear h k
    go_wp2
    go_ret
    exact ⟨rfl, hb1⟩
  rw [Bool.not_eq_false] at hv
  rw [smu_yes hv]
  have hl := sok_len hv
  rcases k.form with ⟨rfl, rfl⟩ | ⟨g', cap', cur, rfl, _, _, hgs', hcap', hmax', _, _, _, hc', _⟩
  · go_enter Tryd.func12, Tryd.ntmps12
    go_wp2_with (fail)
    (go_at_call 16; refine (singOk_any _ _ _ _ v _ xs [] _ h k).mono ?_; rintro e w1 ⟨rfl, hb1⟩)
    clear h k
    go_wp2
    go_rounds 1
    go_ret
    exact ⟨rfl, hb1⟩
  have HC' := Lib.hid hc'
  clear hc' hmax'
  go_enter Tryd.func12, Tryd.ntmps12
  go_wp2_with (fail)
  (go_at_call 16; refine (singOk_any _ _ _ _ v _ xs zs _ h k).mono ?_; rintro e w1 ⟨rfl, hb1⟩)
  clear h k
  go_wp2
  clear hv
  go_loopw [5, 6] (fun n i wr => ∃ k : Nat, k ≤ zs.length - 1 ∧ i = .int .i64 ((k : Int) + 1) ∧ n = .int .i64 (mutTo zs k) ∧ Below w.heap.size w wr) (fun _ i _ => zs.length - (intOf i).toNat)
  case atStart => exact ⟨0, Nat.zero_le _, rfl, by simp [mutTo], hb1⟩
  case round =>
    obtain ⟨k, hk, rfl, rfl, hb⟩ := hrel
    by_cases hlt : k + 1 < zs.length
    · have e0 := (hb.cell (p := ⟨g', k, none⟩) hgs').trans (HC'.out k (by omega))
      have e1 := (hb.cell (p := ⟨g', k + 1, none⟩) hgs').trans (HC'.out (k + 1) hlt)
      obtain ⟨m0, m1⟩ := mutTo_bd zs k
      have hk0 : (0 : Int) ≤ (k : Int) := by omega
      have hk1 : (k : Int) + 1 < (zs.length : Int) := by omega
      have hk2 : (0 : Int) ≤ (k : Int) + 1 := by omega
      have hk3 : (k : Int) < (zs.length : Int) := by omega
      have s1w : IntKind.i64.wrap ((k : Int) + 1 - 1) = (k : Int) := by rw [show (k : Int) + 1 - 1 = (k : Int) by omega]; exact IntWalk.i64_in _ (by omega)
      have s4w : IntKind.i64.wrap (k : Int) = (k : Int) := IntWalk.i64_in _ (by omega)
      have s3w : ((k : Int) + 1).toNat = k + 1 := by omega
      by_cases hm : (zs.getD (k + 1) 0 != zs.getD k 0) = true
      · have HX := Lib.hid (mutTo_hit hm)
        generalize zs.getD (k + 1) 0 = y at e1 hm
        generalize zs.getD k 0 = x at e0 hm
        generalize mutTo zs k = n at m0 m1 HX
        go_wp2
        go_quiet (fail)
        go_wp2
        go_roundw
        case rel => exact ⟨k + 1, by omega, by go_num, by rw [HX.out], bl_drewN5 hb _⟩
        case measure => simp [intOf]; omega
      · rw [Bool.not_eq_true] at hm
        have HX := Lib.hid (mutTo_miss hm)
        generalize zs.getD (k + 1) 0 = y at e1 hm
        generalize zs.getD k 0 = x at e0 hm
        generalize mutTo zs k = n at m0 m1 HX
        go_wp2
        go_quiet (fail)
        go_wp2
        go_roundw
        case rel => exact ⟨k + 1, by omega, by go_num, by rw [HX.out], bl_drewN5 hb _⟩
        case measure => simp [intOf]; omega
    · have hk1 : (zs.length : Int) ≤ (k : Int) + 1 := by omega
      have HE : Hid (k = zs.length - 1) := (by omega : k = zs.length - 1)
      go_wp2
      go_ret
      exact ⟨by rw [← HE.out]; rfl, hb⟩

end Go.Proofs.YthnofdkkocpjhaaDoor

namespace Go.Proofs.YthnofdkkocpjhaaDoor
open Go.RowKit
set_option maxRecDepth 100000
set_option linter.unusedVariables false

theorem flat_count9 {r : List ByteArray} (h : ∀ x ∈ r, ∀ c ∈ x.data.toList, c ≠ 32) : ((r.map fun y => 32 :: y.data.toList).flatten).count 32 = r.length := by
  induction r with
  | nil => rfl
  | cons x r ih =>
    have h0 : x.data.toList.count 32 = 0 := by
      rw [List.count_eq_zero]
      intro hm
      exact h x List.mem_cons_self 32 hm rfl
    rw [List.map_cons, List.flatten_cons, List.count_append, ih (fun y hy => h y (List.mem_cons_of_mem _ hy)), List.count_cons_self, h0, List.length_cons]
    omega
theorem nmc_jnw9 {ws : List ByteArray} (h0 : ∀ x ∈ ws, x.data.toList ≠ []) (h : ∀ x ∈ ws, ∀ c ∈ x.data.toList, c ≠ 32) : nmc (jnw ws) = ws.length := by
  cases ws with
  | nil => rfl
  | cons x r =>
    rw [jnw_cons]
    have hx0 := h0 x List.mem_cons_self
    have hx : x.data.toList.count 32 = 0 := by
      rw [List.count_eq_zero]
      intro hm
      exact h x List.mem_cons_self 32 hm rfl
    unfold nmc
    rw [if_neg (fun e => hx0 (List.append_eq_nil_iff.1 e).1), List.count_append, hx, flat_count9 (fun y hy => h y (List.mem_cons_of_mem _ hy)), List.length_cons]
    omega
theorem hsy_le9 (n s : Int) (b : Bool) : hsy n s b ≤ 5 := by
  unfold hsy
  split
  · rename_i g
    rw [Bool.and_eq_true] at g
    exact (hok_in g.1).2.2
  · omega
theorem syl_ok9 {k : Nat} (h : k < 6) : (syl k).data.toList ≠ [] ∧ ∀ c ∈ (syl k).data.toList, c ≠ 32 := by
  have : k = 0 ∨ k = 1 ∨ k = 2 ∨ k = 3 ∨ k = 4 ∨ k = 5 := by omega
  rcases this with rfl | rfl | rfl | rfl | rfl | rfl <;> decide
theorem sgt_names {xs : List (Int × Bool)} {zs : List Int} (h : sok xs zs = true) : nmc (sgt xs zs).data.toList = xs.length := by
  rw [sgt_yes h]
  show nmc (jnw _) = _
  have key : ∀ x ∈ sgw xs zs xs.length, ∃ k, k < 6 ∧ x = syl k := fun x hx => by
    unfold sgw at hx
    obtain ⟨i, _, rfl⟩ := List.mem_map.1 hx
    exact ⟨_, by have := hsy_le9 (zs.getD i 0) (xs.getD i (0, false)).1 (xs.getD i (0, false)).2; omega, rfl⟩
  rw [nmc_jnw9, sgw_len]
  · intro x hx
    obtain ⟨k, hk, rfl⟩ := key x hx
    exact (syl_ok9 hk).1
  · intro x hx
    obtain ⟨k, hk, rfl⟩ := key x hx
    exact (syl_ok9 hk).2
theorem sgt_nil_or {xs : List (Int × Bool)} {zs : List Int} (h : sok xs zs = true) (hx : xs ≠ []) : (sgt xs zs).data.toList ≠ [] := by
  intro e
  have h1 := sgt_names h
  rw [e] at h1
  have h2 : nmc [] = 0 := rfl
  rw [h2] at h1
  exact hx (List.eq_nil_of_length_eq_zero h1.symm)
theorem hx_mem9 {t : Int × Bool} {a : Int} (h : 0 ≤ hsy a t.1 t.2) : a ∈ hx t := by
  have hv : 0 ≤ a ∧ a ≤ 20 := by
    unfold hsy at h
    split at h
    · rename_i g
      rw [Bool.and_eq_true] at g
      have := hxv_in (hok_in g.1).1
      omega
    · omega
  unfold hx hall
  rw [List.mem_filter]
  refine ⟨List.mem_map.2 ⟨a.toNat, List.mem_range.2 (by omega), by omega⟩, ?_⟩
  unfold inHex
  exact decide_eq_true h
theorem sings_mk {l : List Int} {xs : List (Int × Bool)} (hl : l.length = xs.length) (h : ∀ i t, xs[i]? = some t → l.getD i 0 ∈ hx t) : sings l xs := by
  induction l generalizing xs with
  | nil => cases xs with
    | nil => trivial
    | cons t r => simp at hl
  | cons y l ih => cases xs with
    | nil => simp at hl
    | cons u r => exact ⟨h 0 u rfl, ih (by simpa using hl) fun i t ht => h (i + 1) t (by simpa using ht)⟩
theorem sok_sings {xs : List (Int × Bool)} {zs : List Int} (h : sok xs zs = true) : sings zs xs := sings_mk (sok_parts2 h).1 fun i t ht => hx_mem9 (sok_hit h ht)
theorem sings_sgo {l : List Int} {xs : List (Int × Bool)} (h : sings l xs) : sgo xs = true := by
  induction l generalizing xs with
  | nil => cases xs with
    | nil => rfl
    | cons t r => exact absurd h (by simp [sings])
  | cons y l ih => cases xs with
    | nil => rfl
    | cons u r =>
      have h1 := ih h.2
      unfold sgo at h1 ⊢
      rw [List.all_cons, h1, Bool.and_true]
      have := h.1
      cases hu : hx u with
      | nil => rw [hu] at this; cases this
      | cons => rfl
theorem mutTo_chs9 (zs : List Int) : mutTo zs (zs.length - 1) = (chs zs : Int) := by
  have key : ∀ (r : List Int) (a : Int), mutTo (a :: r) r.length = (chs (a :: r) : Int) := by
    intro r
    induction r with
    | nil => intro a; rfl
    | cons b r ih =>
      intro a
      have h := ih b
      unfold mutTo at h ⊢
      rw [List.length_cons, List.range_succ_eq_map, List.filter_cons, List.filter_map]
      have e : ((fun i => (a :: b :: r).getD (i + 1) 0 != (a :: b :: r).getD i 0) ∘ Nat.succ) = fun i => (b :: r).getD (i + 1) 0 != (b :: r).getD i 0 := by
        funext i; rfl
      rw [e]
      have e0 : (a :: b :: r).getD (0 + 1) 0 = b := rfl
      have e1 : (a :: b :: r).getD 0 0 = a := rfl
      rw [e0, e1]
      show _ = ((chg a b + chs (b :: r) : Nat) : Int)
      by_cases hab : b = a
      · subst hab
        simp [chg] at h ⊢
        omega
      · have h2 : ¬ a = b := fun e => hab e.symm
        simp [chg, hab, h2] at h ⊢
        omega
  cases zs with
  | nil => rfl
  | cons a r => exact key r a
theorem sings_len9 {l : List Int} {xs : List (Int × Bool)} (h : sings l xs) : l.length = xs.length := by
  induction l generalizing xs with
  | nil => cases xs with
    | nil => rfl
    | cons t r => exact absurd h (by simp [sings])
  | cons y l ih => cases xs with
    | nil => exact absurd h (by simp [sings])
    | cons u r => simp [ih h.2]
theorem sings_at9 {l : List Int} {xs : List (Int × Bool)} (h : sings l xs) {i : Nat} {t : Int × Bool} (ht : xs[i]? = some t) : l.getD i 0 ∈ hx t := by
  induction l generalizing xs i with
  | nil => cases xs with
    | nil => simp at ht
    | cons t r => exact absurd h (by simp [sings])
  | cons y l ih => cases xs with
    | nil => exact absurd h (by simp [sings])
    | cons u r => cases i with
      | zero => simp at ht; subst ht; exact h.1
      | succ i => exact ih h.2 (by simpa using ht)
theorem sings_sok {l : List Int} {xs : List (Int × Bool)} (hm : mv xs = true) (h : sings l xs) : sok xs l = true :=
  sok_yes hm (sings_len9 h) (List.all_eq_true.2 fun i hi => by
    have hi' : i < xs.length := by simpa using hi
    have ht := List.getElem?_eq_getElem hi'
    have h1 := sings_at9 h ht
    have h2 := (List.mem_filter.1 h1).2
    rw [List.getD_eq_getElem?_getD (l := xs), ht]
    simpa [inHex] using h2)
theorem sings_smu9 {l : List Int} {xs : List (Int × Bool)} (hm : mv xs = true) (h : sings l xs) : smu xs l = (chs l : Int) := by
  rw [smu_yes (sings_sok hm h), mutTo_chs9]
theorem sok_mv {xs : List (Int × Bool)} {zs : List Int} (h : sok xs zs = true) : mv xs = true := by
  simp [sok] at h; exact h.1.1
/-- what the law FnSing asks -/
theorem sing_facts {xs : List (Int × Bool)} {zs : List Int} (h : sok xs zs = true) (hx : xs ≠ []) : sbB xs = true ∧ smu xs (sbL xs) ≤ smu xs zs ∧ smu xs zs < (xs.length : Int) ∧ 0 ≤ smu xs (sbL xs) := by
  have hm := sok_mv h
  have hs := sok_sings h
  have hg := sings_sgo hs
  obtain ⟨e1, e2⟩ := sb_yes hm hg
  have hb := sgb_best hg hs
  have hl := sings_len9 hs
  have hp : 0 < xs.length := List.length_pos_iff.2 hx
  have hbd := mutTo_bd zs (zs.length - 1)
  rw [e1, e2, sings_smu9 hm (sgb_sings hg), sings_smu9 hm hs]
  rw [mutTo_chs9] at hbd
  refine ⟨rfl, ?_, ?_, ?_⟩
  · rcases hb with h | h <;> omega
  · omega
  · omega

end Go.Proofs.YthnofdkkocpjhaaDoor

namespace Go.Proofs.YthnofdkkocpjhaaDoor
open Go.RowKit
set_option maxRecDepth 100000
set_option linter.unusedVariables false

theorem singOk_len (lo hi : Nat) (v : Value) (a : Option Addr) (n c : Nat) (xs : List (Int × Bool)) (w : World) (h : TRow w lo hi v xs) (hn : n ≠ xs.length) :
    Calls Tryd.prog 16 #[v, .slice a n c] w fun e w' => e = .returned (.bool false) ∧ Below w.heap.size w w' := by
  have KV := Lib.hid (melodyValid_any lo hi v xs w h)
  obtain ⟨va, vc, rfl, _⟩ := h.flat (rfl : xs.length = xs.length)
  have hl' : ((n : Int) != (xs.length : Int)) = true := by simp; omega
  cases hv : mv xs
  all_goals
    rw [hv] at KV
    clear h
    go_enter Tryd.func16, Tryd.ntmps16
    go_wp2_with (fail)
    (go_at_call 37; refine KV.out.mono ?_; rintro e w1 ⟨rfl, hb1⟩)
    go_wp2
    go_ret
    exact ⟨rfl, hb1⟩
theorem sSingOk_len (lo hi : Nat) (v : Value) (a : Option Addr) (n c : Nat) (xs : List (Int × Bool)) (w : World) (h : TRow w lo hi v xs) (hn : n ≠ xs.length) :
    Calls Tryd.prog 35 #[v, .slice a n c] w fun e w' => e = .returned (.bool false) ∧ Below w.heap.size w w' := by
  have KV := Lib.hid (sMelodyValid_any lo hi v xs w h)
  obtain ⟨va, vc, rfl, _⟩ := h.flat (rfl : xs.length = xs.length)
  have hl' : ((n : Int) != (xs.length : Int)) = true := by simp; omega
  cases hv : mv xs
  all_goals
    rw [hv] at KV
    clear h
    go_enter Tryd.func35, Tryd.ntmps35
    go_wp2_with (fail)
    (go_at_call 24; refine KV.out.mono ?_; rintro e w1 ⟨rfl, hb1⟩)
    go_wp2
    go_ret
    exact ⟨rfl, hb1⟩
theorem singText_len (lo hi : Nat) (v : Value) (a : Option Addr) (n c : Nat) (xs : List (Int × Bool)) (w : World) (h : TRow w lo hi v xs) (hn : n ≠ xs.length) :
    Calls Tryd.prog 14 #[v, .slice a n c] w fun e w' => e = .returned (.string ⟨#[]⟩) ∧ Below w.heap.size w w' := by
  have KO := Lib.hid (singOk_len lo hi v a n c xs w h hn)
  clear h
  go_enter Tryd.func14, Tryd.ntmps14
  go_wp2_with (fail)
  (go_at_call 16; refine KO.out.mono ?_; rintro e w1 ⟨rfl, hb1⟩)
  go_wp2
  go_ret
  exact ⟨rfl, hb1⟩
theorem sSingText_len (lo hi : Nat) (v : Value) (a : Option Addr) (n c : Nat) (xs : List (Int × Bool)) (w : World) (h : TRow w lo hi v xs) (hn : n ≠ xs.length) :
    Calls Tryd.prog 15 #[v, .slice a n c] w fun e w' => e = .returned (.string ⟨#[]⟩) ∧ Below w.heap.size w w' := by
  have KO := Lib.hid (sSingOk_len lo hi v a n c xs w h hn)
  clear h
  go_enter Tryd.func15, Tryd.ntmps15
  go_wp2_with (fail)
  (go_at_call 35; refine KO.out.mono ?_; rintro e w1 ⟨rfl, hb1⟩)
  go_wp2
  go_ret
  exact ⟨rfl, hb1⟩

end Go.Proofs.YthnofdkkocpjhaaDoor

namespace Go.Proofs.YthnofdkkocpjhaaDoor
open Go.RowKit
set_option maxRecDepth 100000
set_option linter.unusedVariables false

def HexPicked (B A q : Nat) (w : World) (e : Ending) (w' : World) : Prop :=
  ∃ n : Int, e = .returned (.int .i64 n) ∧ -1 ≤ n ∧ n ≤ 22 ∧ Rd w' B A (q + 2) ∧ w.grownBy w' (some B)

set_option maxHeartbeats 2000000 in
theorem l91Hex_any (B A q : Nat) (hq : q ≤ 900000) (w : World) (h : Rd w B A q) :
    Calls Tryd.prog 46 #[.pointer (some ⟨B, 0, none⟩)] w (HexPicked B A q w) := by
  have hB := h.lt
  have hA := h.ltA
  go_enter Tryd.func46, Tryd.ntmps46
  go_wp2_with (fail)
  (go_at_call 20; refine (pick_any 6 B A q (by omega) (by omega) (by omega) _ h).mono ?_; rintro e w1 ⟨k1, rfl, h10, h11, hr1, hb1⟩; obtain ⟨hc1, hf1, hz1⟩ := bg hb1; (try simp at hz1); clear hc1 hf1)
  by_cases g0 : k1 = 0
  · subst g0
    go_wp2_with (fail)
    (go_at_call 20; refine (pick_any 24 B A (q + 1) (by omega) (by omega) (by omega) _ hr1).mono ?_; rintro e w2 ⟨k2, rfl, h20, h21, hr2, hb2⟩; obtain ⟨hc2, hf2, hz2⟩ := bg hb2; (try simp at hz2); (try (refine got (p := w1.heap.size < w2.heap.size) ?_ ?_; (focus (go_size; done)); intro q2_w10)); (try (refine got (p := w2.cell? ⟨w1.heap.size, 0, none⟩ = some (.int .i64 0)) ?_ ?_; (focus (refine (hc2 _ _ ?_ ?_).trans ?_; (focus (go_size; done)); (focus (first | omega | (simp; omega))); go_simp; done)); intro c2_w10_0)); (try (refine got (p := w2.cell? ⟨w1.heap.size, 1, none⟩ = some (.int .i64 3)) ?_ ?_; (focus (refine (hc2 _ _ ?_ ?_).trans ?_; (focus (go_size; done)); (focus (first | omega | (simp; omega))); go_simp; done)); intro c2_w10_1)); (try (refine got (p := w2.cell? ⟨w1.heap.size, 2, none⟩ = some (.int .i64 6)) ?_ ?_; (focus (refine (hc2 _ _ ?_ ?_).trans ?_; (focus (go_size; done)); (focus (first | omega | (simp; omega))); go_simp; done)); intro c2_w10_2)); (try (refine got (p := w2.cell? ⟨w1.heap.size, 3, none⟩ = some (.int .i64 7)) ?_ ?_; (focus (refine (hc2 _ _ ?_ ?_).trans ?_; (focus (go_size; done)); (focus (first | omega | (simp; omega))); go_simp; done)); intro c2_w10_3)); (try (refine got (p := w2.cell? ⟨w1.heap.size, 4, none⟩ = some (.int .i64 10)) ?_ ?_; (focus (refine (hc2 _ _ ?_ ?_).trans ?_; (focus (go_size; done)); (focus (first | omega | (simp; omega))); go_simp; done)); intro c2_w10_4)); (try (refine got (p := w2.cell? ⟨w1.heap.size, 5, none⟩ = some (.int .i64 13)) ?_ ?_; (focus (refine (hc2 _ _ ?_ ?_).trans ?_; (focus (go_size; done)); (focus (first | omega | (simp; omega))); go_simp; done)); intro c2_w10_5)); (try (refine got (p := w2.cell? ⟨w1.heap.size, 6, none⟩ = some (.int .i64 14)) ?_ ?_; (focus (refine (hc2 _ _ ?_ ?_).trans ?_; (focus (go_size; done)); (focus (first | omega | (simp; omega))); go_simp; done)); intro c2_w10_6)); (try (refine got (p := ∀ o, w2.frozen? ⟨w1.heap.size, o, none⟩ = false) ?_ ?_; (focus (intro o; refine (hf2 _ _ ?_ ?_).trans ?_; (focus (go_size; done)); (focus (first | omega | (simp; omega))); go_simp; done)); intro f2_w10)); clear hc2 hf2)
    go_wp2
    go_ret
    exact ⟨_, rfl, by omega, by omega, by (repeat' (first | (with_reducible refine Rd.set_ ?_ ?_ ?_ _) | (with_reducible refine Rd.alloc ?_ _) | (with_reducible refine Rd.drew ?_) | (refine Rd.more (by assumption) ?_; (first | omega | (simp; omega))) | (show _ ≠ _; (first | omega | (simp; omega))))), by (repeat' (first | (with_reducible exact gb_refl _ _) | (with_reducible refine gb_alloc ?_ _) | (with_reducible refine gb_drew ?_) | (with_reducible refine gb_set ?_ ?_ _) | (with_reducible refine gb_step ?_ (by assumption)) | (with_reducible refine gb_bl ?_ (by assumption)) | (left; rfl) | (right; go_size) | go_size))⟩
  have e0 : (k1 == 0) = false := by simpa using g0
  clear g0
  go_wp2_with (fail)
  (go_at_call 20; refine (pick_any 7 B A (q + 1) (by omega) (by omega) (by omega) _ (hr1.alloc _)).mono ?_; rintro e w2 ⟨k2, rfl, h20, h21, hr2, hb2⟩; obtain ⟨hc2, hf2, hz2⟩ := bg hb2; (try simp at hz2); (try (refine got (p := w1.heap.size < w2.heap.size) ?_ ?_; (focus (go_size; done)); intro q2_w10)); (try (refine got (p := w2.cell? ⟨w1.heap.size, 0, none⟩ = some (.int .i64 0)) ?_ ?_; (focus (refine (hc2 _ _ ?_ ?_).trans ?_; (focus (go_size; done)); (focus (first | omega | (simp; omega))); go_simp; done)); intro c2_w10_0)); (try (refine got (p := w2.cell? ⟨w1.heap.size, 1, none⟩ = some (.int .i64 3)) ?_ ?_; (focus (refine (hc2 _ _ ?_ ?_).trans ?_; (focus (go_size; done)); (focus (first | omega | (simp; omega))); go_simp; done)); intro c2_w10_1)); (try (refine got (p := w2.cell? ⟨w1.heap.size, 2, none⟩ = some (.int .i64 6)) ?_ ?_; (focus (refine (hc2 _ _ ?_ ?_).trans ?_; (focus (go_size; done)); (focus (first | omega | (simp; omega))); go_simp; done)); intro c2_w10_2)); (try (refine got (p := w2.cell? ⟨w1.heap.size, 3, none⟩ = some (.int .i64 7)) ?_ ?_; (focus (refine (hc2 _ _ ?_ ?_).trans ?_; (focus (go_size; done)); (focus (first | omega | (simp; omega))); go_simp; done)); intro c2_w10_3)); (try (refine got (p := w2.cell? ⟨w1.heap.size, 4, none⟩ = some (.int .i64 10)) ?_ ?_; (focus (refine (hc2 _ _ ?_ ?_).trans ?_; (focus (go_size; done)); (focus (first | omega | (simp; omega))); go_simp; done)); intro c2_w10_4)); (try (refine got (p := w2.cell? ⟨w1.heap.size, 5, none⟩ = some (.int .i64 13)) ?_ ?_; (focus (refine (hc2 _ _ ?_ ?_).trans ?_; (focus (go_size; done)); (focus (first | omega | (simp; omega))); go_simp; done)); intro c2_w10_5)); (try (refine got (p := w2.cell? ⟨w1.heap.size, 6, none⟩ = some (.int .i64 14)) ?_ ?_; (focus (refine (hc2 _ _ ?_ ?_).trans ?_; (focus (go_size; done)); (focus (first | omega | (simp; omega))); go_simp; done)); intro c2_w10_6)); (try (refine got (p := ∀ o, w2.frozen? ⟨w1.heap.size, o, none⟩ = false) ?_ ?_; (focus (intro o; refine (hf2 _ _ ?_ ?_).trans ?_; (focus (go_size; done)); (focus (first | omega | (simp; omega))); go_simp; done)); intro f2_w10)); clear hc2 hf2)
  have h2 : k2 = 0 ∨ k2 = 1 ∨ k2 = 2 ∨ k2 = 3 ∨ k2 = 4 ∨ k2 = 5 ∨ k2 = 6 := by omega
  rcases h2 with rfl | rfl | rfl | rfl | rfl | rfl | rfl
  all_goals
    go_wp2
    go_ret
    exact ⟨_, rfl, by omega, by omega, by (repeat' (first | (with_reducible refine Rd.set_ ?_ ?_ ?_ _) | (with_reducible refine Rd.alloc ?_ _) | (with_reducible refine Rd.drew ?_) | (refine Rd.more (by assumption) ?_; (first | omega | (simp; omega))) | (show _ ≠ _; (first | omega | (simp; omega))))), by (repeat' (first | (with_reducible exact gb_refl _ _) | (with_reducible refine gb_alloc ?_ _) | (with_reducible refine gb_drew ?_) | (with_reducible refine gb_set ?_ ?_ _) | (with_reducible refine gb_step ?_ (by assumption)) | (with_reducible refine gb_bl ?_ (by assumption)) | (left; rfl) | (right; go_size) | go_size))⟩

def DrewHex (w : World) (e : Ending) (w' : World) : Prop :=
  ∃ n k : Int, e = .returned (.tuple #[.int .i64 n, .int .i64 k]) ∧ -1 ≤ n ∧ n ≤ 22 ∧ -1 ≤ k ∧ k ≤ 6 ∧ Below w.heap.size w w'

end Go.Proofs.YthnofdkkocpjhaaDoor

namespace Go.Proofs.YthnofdkkocpjhaaDoor
open Go.RowKit
set_option maxRecDepth 100000
set_option linter.unusedVariables false

theorem elemTonesA : Tryd.prog.underlying 23 = some (.slice (Tryd.prog.elem 23)) := by simp [Program.elem, Tryd.underlying23]
theorem sizeTonesA (W : World) : (Go.sizeOf (Tryd.prog.elem 23)).run Tryd.prog W = .ok 2 W := by
  have e : Tryd.prog.elem 23 = 52 := by simp [Program.elem, Tryd.underlying23]
  rw [e]
  exact Tryd.sizeOf52 W
theorem tslice_hi (a : Option Addr) (L cap q : Nat) (hq : q ≤ cap) (W : World) : (Instr.slice 23 (.slice a L cap) none (some (.int .i64 (q : Int))) none).run Tryd.prog W = .ok (.slice a q cap) W := by
  rw [run_slice_h W _ a L cap elemTonesA .i64 _ (by omega) (by omega), sizeTonesA]
  simp [Result.andThen, sliced, Addr.add]
theorem tslice_lo (a : Option Addr) (L cap q : Nat) (hq : q ≤ L) (W : World) : (Instr.slice 23 (.slice a L cap) (some (.int .i64 (q : Int))) none none).run Tryd.prog W = .ok (.slice (if cap = q then a else a.map (·.add (q * 2))) (L - q) (cap - q)) W := by
  rw [run_slice_l W _ a L cap elemTonesA .i64 _ (by omega) (by omega), sizeTonesA]
  simp [Result.andThen, sliced]
theorem ArgT.takeA {w : World} {a : Option Addr} {ys : List (Int × Bool)} (h : ArgT w a ys) (q : Nat) : ArgT w a (ys.take q) := by
  rcases h with rfl | ⟨A, off, rfl, hA, hc⟩
  · exact .inl (by simp)
  · refine .inr ⟨A, off, rfl, hA, fun i t ht => hc i t ?_⟩
    rw [List.getElem?_take] at ht
    split at ht
    · exact ht
    · cases ht
theorem ArgT.dropA {w : World} {a : Option Addr} {ys : List (Int × Bool)} {cap q : Nat} (h : ArgT w a ys) (hl : ys.length ≤ cap) (hq : q ≤ ys.length) : ArgT w (if cap = q then a else a.map (·.add (q * 2))) (ys.drop q) := by
  rcases h with rfl | ⟨A, off, rfl, hA, hc⟩
  · exact .inl (by simp)
  · by_cases e : cap = q
    · exact .inl (List.drop_of_length_le (by omega))
    · rw [if_neg e]
      refine .inr ⟨A, off + q * 2, by simp [Addr.add], hA, fun i t ht => ?_⟩
      rw [List.getElem?_drop] at ht
      have := hc (q + i) t ht
      rw [show off + q * 2 + i * 2 = off + (q + i) * 2 by omega]
      exact this
theorem TRow.argA {w : World} {lo hi : Nat} {v : Value} {xs : List (Int × Bool)} (h : TRow w lo hi v xs) : ∃ a c, v = .slice a xs.length c ∧ xs.length ≤ c ∧ c ≤ maxLen ∧ ArgT w a xs := by
  rcases h.form with ⟨rfl, rfl⟩ | ⟨g, cap, rfl, _, _, hg, hc, hm, hcell⟩
  · exact ⟨none, 0, rfl, Nat.le_refl _, Nat.zero_le _, .inl rfl⟩
  · refine ⟨_, cap, rfl, hc, hm, .inr ⟨g, 0, rfl, hg, fun i t ht => ?_⟩⟩
    rw [Nat.zero_add]
    exact hcell i t ht

theorem elemIntsA : Tryd.prog.underlying 29 = some (.slice (Tryd.prog.elem 29)) := by simp [Program.elem, Tryd.underlying29]
theorem sizeIntsA (W : World) : (Go.sizeOf (Tryd.prog.elem 29)).run Tryd.prog W = .ok 1 W := by
  have e : Tryd.prog.elem 29 = 3 := by simp [Program.elem, Tryd.underlying29]
  rw [e]
  exact Tryd.sizeOf3 W
theorem islice_hi (a : Option Addr) (L cap q : Nat) (hq : q ≤ cap) (W : World) : (Instr.slice 29 (.slice a L cap) none (some (.int .i64 (q : Int))) none).run Tryd.prog W = .ok (.slice a q cap) W := by
  rw [run_slice_h W _ a L cap elemIntsA .i64 _ (by omega) (by omega), sizeIntsA]
  simp [Result.andThen, sliced, Addr.add]
theorem islice_lo (a : Option Addr) (L cap q : Nat) (hq : q ≤ L) (W : World) : (Instr.slice 29 (.slice a L cap) (some (.int .i64 (q : Int))) none none).run Tryd.prog W = .ok (.slice (if cap = q then a else a.map (·.add q)) (L - q) (cap - q)) W := by
  rw [run_slice_l W _ a L cap elemIntsA .i64 _ (by omega) (by omega), sizeIntsA]
  simp [Result.andThen, sliced]
theorem ArgI.take {w : World} {a : Option Addr} {zs : List Int} (h : ArgI w a zs) (q : Nat) : ArgI w a (zs.take q) := by
  rcases h with rfl | ⟨A, off, rfl, hA, hc⟩
  · exact .inl (by simp)
  · refine .inr ⟨A, off, rfl, hA, fun i hi => ?_⟩
    rw [List.length_take] at hi
    have e : (zs.take q).getD i 0 = zs.getD i 0 := by simp [List.getD_eq_getElem?_getD, List.getElem?_take_of_lt (by omega : i < q)]
    rw [e]
    exact hc i (by omega)
theorem ArgI.drop {w : World} {a : Option Addr} {zs : List Int} {cap q : Nat} (h : ArgI w a zs) (hl : zs.length ≤ cap) (hq : q ≤ zs.length) : ArgI w (if cap = q then a else a.map (·.add q)) (zs.drop q) := by
  rcases h with rfl | ⟨A, off, rfl, hA, hc⟩
  · exact .inl (by simp)
  · by_cases e : cap = q
    · exact .inl (List.drop_of_length_le (by omega))
    · rw [if_neg e]
      refine .inr ⟨A, off + q, by simp [Addr.add], hA, fun i hi => ?_⟩
      rw [List.length_drop] at hi
      have e2 : (zs.drop q).getD i 0 = zs.getD (q + i) 0 := by simp [List.getD_eq_getElem?_getD, List.getElem?_drop]
      rw [e2, show off + q + i = off + (q + i) by omega]
      exact hc (q + i) (by omega)
theorem IRow.argA {w : World} {lo hi : Nat} {v : Value} {zs : List Int} (h : IRow w lo hi v zs) : ∃ a c, v = .slice a zs.length c ∧ zs.length ≤ c ∧ c ≤ maxLen ∧ ArgI w a zs := by
  rcases h.form with ⟨rfl, rfl⟩ | ⟨g, cap, cur, rfl, _, _, hg, hc, hm, _, _, _, hcell, _⟩
  · exact ⟨none, 0, rfl, Nat.le_refl _, Nat.zero_le _, .inl rfl⟩
  · refine ⟨_, cap, rfl, hc, hm, .inr ⟨g, 0, rfl, hg, fun i hi => ?_⟩⟩
    rw [Nat.zero_add]
    exact hcell i hi

end Go.Proofs.YthnofdkkocpjhaaDoor

namespace Go.Proofs.YthnofdkkocpjhaaDoor
open Go.RowKit
set_option maxRecDepth 100000
set_option linter.unusedVariables false

/-- the drawing loop's state: the melody's row, in blocks below hi; the steps' own row, from hi on; the reader -/
structure SgInv (w wr : World) (B A q hi : Nat) (v u : Value) (xs : List (Int × Bool)) (zs : List Int) : Prop where
  mel : TRow wr w.heap.size hi v xs
  own : wr.ownsRow hi 3 1 u zs.length (zs.map (Value.int .i64))
  rd : Rd wr B A q
  gb : w.grownBy wr (some B)
  le : w.heap.size ≤ hi
  lt : hi ≤ wr.heap.size
theorem SgInv.below {w wr w1 : World} {B A q hi : Nat} {v u : Value} {xs : List (Int × Bool)} {zs : List Int} (h : SgInv w wr B A q hi v u xs zs) (hb : Below wr.heap.size wr w1) : SgInv w w1 B A q hi v u xs zs :=
  ⟨h.mel.below hb (.inl h.lt), tbelow h.own hb, h.rd.below hb, gb_bl h.gb hb, h.le, Nat.le_trans h.lt hb.size⟩
theorem SgInv.more {w wr : World} {B A q q' hi : Nat} {v u : Value} {xs : List (Int × Bool)} {zs : List Int} (h : SgInv w wr B A q hi v u xs zs) (hq : q ≤ q') : SgInv w wr B A q' hi v u xs zs :=
  ⟨h.mel, h.own, h.rd.more hq, h.gb, h.le, h.lt⟩
theorem SgInv.pick {w wr w1 : World} {B A q q' hi : Nat} {v u : Value} {xs : List (Int × Bool)} {zs : List Int} (h : SgInv w wr B A q hi v u xs zs) (hr : Rd w1 B A q') (hg : wr.grownBy w1 (some B)) (hB : B < w.heap.size) : SgInv w w1 B A q' hi v u xs zs := by
  have hle := h.le
  refine ⟨h.mel.keep (fun k h1 h2 h3 => hg.block k h1 (fun e => by injection e; omega)), h.own.kept hg ?_, hr, gb_step h.gb hg, h.le, Nat.le_trans h.lt hg.size⟩
  right
  intro e
  have := (h.own.lt B e).1
  omega
theorem SgInv.app {w wr w2 : World} {B A q hi : Nat} {v u u' : Value} {xs : List (Int × Bool)} {zs : List Int} {z : Int} {o : Obj} (h : SgInv w wr B A q hi v u xs zs) (hB : B < w.heap.size) (hA : A < w.heap.size)
    (hown : w2.ownsRow hi 3 1 u' (zs.length + 1) (zs.map (Value.int .i64) ++ [.int .i64 z])) (hg : (wr.alloc o).grownBy w2 u.ownBlock) : SgInv w w2 B A q hi v u' xs (zs ++ [z]) := by
  have hle := h.le
  have hlt : ∀ g, u.ownBlock = some g → hi ≤ g := fun g hg => (h.own.lt g hg).1
  refine ⟨h.mel.keep (fun k h1 h2 h3 => (hg.block k (by simp; omega) (fun e => by have := hlt k e.symm; omega)).trans (Below.heap_alloc wr o k h1)), by simpa using hown,
    (h.rd.alloc o).grown hg (fun e => by have := hlt B e.symm; omega) (fun e => by have := hlt A e.symm; omega), gb_own h.gb hg (fun g hg => Nat.le_trans h.le (hlt g hg)), h.le, ?_⟩
  have h1 := hg.size
  have h2 := h.lt
  simp at h1
  omega
theorem SgInv.start {w w1 : World} {B A q : Nat} {v : Value} {xs : List (Int × Bool)} (h : DmInv w w1 B A q v xs) : SgInv w (w1.alloc (.cells #[] 3)) B A q w1.heap.size v (.slice (some ⟨w1.heap.size, 0, none⟩) 0 0) xs [] := by
  have hm : TRow w1 w.heap.size w1.heap.size v xs := ⟨h.own, fun g hg => (h.own.lt g hg).2⟩
  exact ⟨hm.below ((Below.refl _ _).alloc (Nat.le_refl _) _) (.inl (Nat.le_refl _)), ⟨rfl, .inr ⟨w1.heap.size, 0, #[], rfl, Nat.le_refl _, heap_alloc_new w1 _, by simp, by simp [maxLen], by simp, by simp⟩⟩, h.rd.alloc _, gb_alloc h.gb _, h.gb.size, by simp⟩
/-- a store into the steps' row -/
theorem SgInv.store {w wr : World} {B A q hi g n c : Nat} {v : Value} {xs : List (Int × Bool)} {zs : List Int} {z : Int} (h : SgInv w wr B A q hi v (.slice (some ⟨g, 0, none⟩) n c) xs zs) (hB : B < w.heap.size) (hA : A < w.heap.size) (hz : 0 < zs.length) :
    SgInv w (wr.setCell ⟨g, 0, none⟩ (.int .i64 z)) B A q hi v (.slice (some ⟨g, 0, none⟩) n c) xs (zs.set 0 z) := by
  have hle := h.le
  have hg := (h.own.lt g rfl).1
  have hk : ∀ k, k ≠ g → (wr.setCell ⟨g, 0, none⟩ (.int .i64 z)).heap[k]? = wr.heap[k]? := fun k hk => Below.heap_setCell _ _ _ _ hk
  refine ⟨h.mel.keep (fun k h1 h2 h3 => hk k (by omega)), ?_, h.rd.set_ (by show g ≠ B; omega) (by show g ≠ A; omega) _, gb_set h.gb (.inr (by show w.heap.size ≤ g; omega)) _, h.le, by have := h.lt; simpa using this⟩
  obtain ⟨hln, h1 | ⟨g', cap, cur, hv, hb, hh, hc, hm, hsz, htk⟩⟩ := h.own
  · cases h1.1
  · injection hv with hv1 hv2 hv3
    injection hv1 with hv1
    injection hv1 with hv1
    subst hv1 hv2 hv3
    refine ⟨by simp, .inr ⟨g, c, cur.setIfInBounds 0 (.int .i64 z), by simp, hb, by simp [World.setCell, Array.getElem?_modify, hh], by simpa using hc, hm, by simpa using hsz, ?_⟩⟩
    rw [List.length_set, Array.toList_setIfInBounds, List.take_set, htk]
    cases zs with
    | nil => simp at hz
    | cons a r => rfl

theorem bl_drewN7 {B : Nat} {a w : World} (h : Below B a w) (n : Nat) : Below B a (w.drewN n) := ⟨h.os, h.tape, h.output, h.size, h.block⟩
/-- what the draw leaves: steps of the call's own, or a list that is not as long as the melody -/
def Steps (w : World) (lo hi n : Nat) (u : Value) : Prop := (∃ zs : List Int, IRow w lo hi u zs ∧ zs.length ≤ 8) ∨ ∃ a m c, u = .slice a m c ∧ m ≠ n
def SungPicked (B A q : Nat) (w : World) (e : Ending) (w' : World) : Prop :=
  ∃ v u xs, e = .returned (.tuple #[v, u]) ∧ TRow w' w.heap.size w'.heap.size v xs ∧ xs.length ≤ 8 ∧ Steps w' w.heap.size w'.heap.size xs.length u ∧ w.grownBy w' (some B)
theorem sungPicked {B A q q' hi : Nat} {w w' : World} {v u : Value} {xs : List (Int × Bool)} {zs : List Int} (h : SgInv w w' B A q' hi v u xs zs) (hx : xs.length ≤ 8) (hz : zs.length ≤ 8) : SungPicked B A q w (.returned (.tuple #[v, u])) w' :=
  ⟨v, u, xs, rfl, ⟨h.mel.1, fun g hg => Nat.lt_of_lt_of_le (h.mel.2 g hg) h.lt⟩, hx, .inl ⟨zs, ⟨tmono h.own h.le, fun g hg => (h.own.lt g hg).2⟩, hz⟩, h.gb⟩
theorem sungPicked' {B A q q' hi m c : Nat} {a : Option Addr} {w w' : World} {v u : Value} {xs : List (Int × Bool)} {zs : List Int} (h : SgInv w w' B A q' hi v u xs zs) (hx : xs.length ≤ 8) (hm : m ≠ xs.length) : SungPicked B A q w (.returned (.tuple #[v, .slice a m c])) w' :=
  ⟨v, _, xs, rfl, ⟨h.mel.1, fun g hg => Nat.lt_of_lt_of_le (h.mel.2 g hg) h.lt⟩, hx, .inr ⟨a, m, c, rfl, hm⟩, h.gb⟩
theorem inewsD {w : World} {z : Int} {t : TypeId} : ∀ j u, ([.int .i64 z] : List Value)[j]? = some u → (w.alloc (.cells #[.int .i64 z] t)).cell? ((⟨w.heap.size, 0, none⟩ : Addr).add j) = some u := by
  intro j u hj
  match j, hj with
  | 0, hj => simp at hj; subst hj; simp [Addr.add]
theorem inewsD_one {z : Int} : ∀ u ∈ ([.int .i64 z] : List Value), u.oneCell' = true := by
  intro u hu; simp at hu; subst hu; rfl

set_option maxHeartbeats 8000000 in
theorem l91Sung_any (B A q : Nat) (hq : q ≤ 800000) (w : World) (h : Rd w B A q) :
    Calls Tryd.prog 32 #[.pointer (some ⟨B, 0, none⟩)] w (SungPicked B A q w) := by
  obtain ⟨i0, hi, hq0, hq1, hq2⟩ := info_parts infoInt
  have hB := h.lt
  have hA := h.ltA
  go_enter Tryd.func32, Tryd.ntmps32
  go_wp2_with (fail)
  (go_at_call 19; refine (l91Melody_any B A q 8 (by omega) (by omega) _ h).mono ?_; rintro e w1 ⟨v, xs, rfl, hI, hl⟩)
  have hI0 := SgInv.start hI
  clear hI h
  obtain ⟨va, vc, rfl⟩ : ∃ a c, v = .slice a xs.length c := by
    rcases hI0.mel.form with ⟨rfl, rfl⟩ | ⟨g, cap, rfl, _⟩
    · exact ⟨none, 0, rfl⟩
    · exact ⟨_, _, rfl⟩
  have HI0 := Lib.hid hI0
  clear hI0
  go_wp2
  go_loopw [5, 6] (fun u i wr => ∃ (k : Nat) (zs : List Int), k ≤ xs.length ∧ zs.length = k ∧ i = .int .i64 k ∧ SgInv w wr B A (q + 20 + k) w1.heap.size (.slice va xs.length vc) u xs zs) (fun _ i _ => xs.length - (intOf i).toNat)
  case atStart => exact ⟨0, [], Nat.zero_le _, rfl, rfl, HI0.out.more (by omega)⟩
  case round =>
    obtain ⟨k, zs, hk, hzl, rfl, hI⟩ := hrel
    clear HI0
    by_cases hlt : k < xs.length
    · have ht : xs[k]? = some xs[k] := List.getElem?_eq_getElem hlt
      rcases hI.mel.form with ⟨_, hx⟩ | ⟨g, cap, hv, _, hg2, hgs, _, _, hc⟩
      · subst hx; simp at hlt
      injection hv with hv1 _ hv2
      subst hv1 hv2
      obtain ⟨e1, e2⟩ := hc k _ ht
      have hk0 : (0 : Int) ≤ (k : Int) := by omega
      have hk1 : (k : Int) < (xs.length : Int) := by omega
      have HI := Lib.hid hI
      have HZ := Lib.hid hzl
      clear hI hc ht hzl
      generalize xs[k] = t at e1 e2
      obtain ⟨s, b⟩ := t
      go_wp2_with (fail)
      (go_at_call 45; refine (sHexAll_any s b _).mono ?_; rintro e w2 ⟨u2, rfl, hr2, hb2⟩)
      have HI2 := Lib.hid (HI.out.below hb2)
      clear e1 e2
      have hzz : zs.length ≤ 7 := by have := HZ.out; omega
      rcases hr2.form with ⟨rfl, hnil⟩ | ⟨g2, cap2, cur2, rfl, hg20, hg21, hgs2, _, _, _, _, _, hc2, _⟩
      · have hown := HI2.out.own
        have hsz := HI2.out.lt
        clear hr2
        go_wp2_with (at_builtin; refine wpList_append_own _ rfl _ _ 29 rfl w1.heap.size 3 i0 (.int .i64 0) 1 8 Tryd.underlying29 hi hq0 hq1 hq2 rfl (by decide) _ _ _ rfl (hown.alloc _) ⟨w2.heap.size, 0, none⟩ 1 1 [.int .i64 3] rfl rfl inewsD inewsD_one (by unfold maxLen; omega) (by omega) (by simp; omega) ?_)
        intro v' w4 hown' hgrow _
        have HI4 := Lib.hid (HI2.out.app hB hA hown' hgrow)
        clear hown hown' hgrow
        go_wp2
        go_roundw
        case rel => exact ⟨k + 1, _, by omega, by rw [List.length_append, HZ.out]; rfl, by go_num, HI4.out.more (by omega)⟩
        case measure => simp [intOf]; omega
      · by_cases hz0 : (hall s b 21).length = 0
        · have hown := HI2.out.own
          have hsz := HI2.out.lt
          have hz1 : (((hall s b 21).length : Int) == 0) = true := by rw [hz0]; rfl
          clear hr2 hc2
          go_wp2_with (at_builtin; refine wpList_append_own _ rfl _ _ 29 rfl w1.heap.size 3 i0 (.int .i64 0) 1 8 Tryd.underlying29 hi hq0 hq1 hq2 rfl (by decide) _ _ _ rfl (hown.alloc _) ⟨w2.heap.size, 0, none⟩ 1 1 [.int .i64 3] rfl rfl inewsD inewsD_one (by unfold maxLen; omega) (by omega) (by simp; omega) ?_)
          intro v' w4 hown' hgrow _
          have HI4 := Lib.hid (HI2.out.app hB hA hown' hgrow)
          clear hown hown' hgrow
          go_wp2
          go_roundw
          case rel => exact ⟨k + 1, _, by omega, by rw [List.length_append, HZ.out]; rfl, by go_num, HI4.out.more (by omega)⟩
          case measure => simp [intOf]; omega
        · have hln := hall_len s b 21
          have hz1 : (((hall s b 21).length : Int) == 0) = false := by rw [beq_eq_false_iff_ne]; omega
          have HC2 := Lib.hid hc2
          clear hr2 hc2
          generalize (hall s b 21).length = L at hz0 hz1 hln HC2
          go_wp2_with (fail)
          (go_at_call 20; refine (pick_any (L : Int) B A (q + 20 + k) (by omega) (by omega) (by omega) _ HI2.out.rd).mono ?_; rintro e w3 ⟨j3, rfl, h30, h31, hr3, hg3⟩)
          obtain ⟨j, rfl⟩ : ∃ j : Nat, j3 = j := ⟨j3.toNat, by omega⟩
          have ez := (World.cell?_of_block (w := w2) (a := ⟨g2, j, none⟩) (hg3.block g2 hgs2 (fun e => by injection e; have := HI.out.gb.size; have := HI.out.lt; omega))).trans (HC2.out j (by omega))
          have HI3 := Lib.hid (HI2.out.pick hr3 hg3 hB)
          clear hr3 hg3
          generalize (hall s b 21).getD j 0 = z at ez
          have hown := HI3.out.own
          have hsz := HI3.out.lt
          go_wp2_with (at_builtin; refine wpList_append_own _ rfl _ _ 29 rfl w1.heap.size 3 i0 (.int .i64 0) 1 8 Tryd.underlying29 hi hq0 hq1 hq2 rfl (by decide) _ _ _ rfl (hown.alloc _) ⟨w3.heap.size, 0, none⟩ 1 1 [.int .i64 z] rfl rfl inewsD inewsD_one (by unfold maxLen; omega) (by omega) (by simp; omega) ?_)
          intro v' w4 hown' hgrow _
          have HI4 := Lib.hid (HI3.out.app hB hA hown' hgrow)
          clear hown hown' hgrow ez
          go_wp2
          go_roundw
          case rel => exact ⟨k + 1, _, by omega, by rw [List.length_append, HZ.out]; rfl, by go_num, HI4.out.more (by omega)⟩
          case measure => simp [intOf]; omega
    · have hke : k = xs.length := by omega
      subst hke
      obtain ⟨ua, uc, rfl, huc⟩ : ∃ a c, u5 = .slice a zs.length c ∧ zs.length ≤ c := by
        rcases hI.own.2 with ⟨rfl, h0⟩ | ⟨g, cap, cur, rfl, _, _, hc, _⟩
        · rw [h0]; exact ⟨none, 0, rfl, Nat.le_refl _⟩
        · exact ⟨_, _, rfl, hc⟩
      rw [hzl] at huc ⊢
      by_cases hz0 : xs.length = 0
      · have HE := Lib.hid (sungPicked (q := q) hI hl (by omega))
        rw [hzl] at HE
        rw [hz0] at HE ⊢
        clear hI hz0
        go_wp2
        go_ret2
        exact HE.out
      · have hz1 : (0 : Int) < (xs.length : Int) := by omega
        go_wp2_with (fail)
        (go_at_call 20; refine (pick_any 16 B A (q + 20 + xs.length) (by omega) (by omega) (by omega) _ hI.rd).mono ?_; rintro e w3 ⟨c, rfl, hc0, hc1, hr3, hg3⟩)
        have HI3 := Lib.hid (hI.pick hr3 hg3 hB)
        clear hI hr3 hg3
        by_cases h0 : c = 0
        · subst h0
          go_wp2_with (fail)
          (go_at_call 46; refine (l91Hex_any B A (q + 20 + xs.length + 1) (by omega) _ HI3.out.rd).mono ?_; rintro e w4 ⟨n, rfl, _, _, hr4, hg4⟩)
          have hI4 := HI3.out.pick hr4 hg4 hB
          have hrow : IRow w4 w1.heap.size w4.heap.size (.slice ua zs.length uc) zs := ⟨hI4.own, fun g hg => (hI4.own.lt g hg).2⟩
          rcases hrow.form with ⟨_, hx⟩ | ⟨g, cap, cur, hv, _, _, _, _, _, _, _, _, hcc, hfz⟩
          · rw [hx] at hzl; simp at hzl; omega
          injection hv with hv1 hv2 hv3
          subst hv1
          have d0 := hcc 0 (by omega)
          have df := hfz 0
          have HE := Lib.hid (sungPicked (q := q) (hI4.store (z := n) hB hA (by omega)) hl (by rw [List.length_set]; omega))
          rw [hzl] at HE
          clear hI4 hrow hcc hfz hr4 hg4 hv2 hv3
          go_wp2
          go_ret2
          exact HE.out
        by_cases h1 : c = 1
        · subst h1
          have hs1 := islice_lo ua xs.length uc 1 (by omega)
          rw [show ((1 : Nat) : Int) = 1 from rfl] at hs1
          obtain ⟨a9, ha9⟩ : ∃ a9, (if uc = 1 then ua else ua.map (·.add 1)) = a9 := ⟨_, rfl⟩
          rw [ha9] at hs1
          have HE := Lib.hid (fun n => sungPicked' (B := B) (A := A) (q := q) (w := w) (w' := w3.drewN n) (a := a9) (m := xs.length - 1) (c := uc - 1) (HI3.out.below (bl_drewN7 (Below.refl _ _) n)) hl (by omega))
          clear ha9
          go_wp2
          go_quiet (fail)
          go_wp2
          go_ret2
          exact HE.out _
        · have HE := Lib.hid (sungPicked (q := q) HI3.out hl (by omega))
          rw [hzl] at HE
          have d0 : (c == 0) = false := by simpa using h0
          have d1 : (c == 1) = false := by simpa using h1
          go_wp2
          go_ret2
          exact HE.out

def DrewSu (w : World) (e : Ending) (w' : World) : Prop :=
  ∃ v u xs, e = .returned (.tuple #[v, u]) ∧ TRow w' w.heap.size w'.heap.size v xs ∧ xs.length ≤ 8 ∧ Steps w' w.heap.size w'.heap.size xs.length u ∧ Below w.heap.size w w'
theorem steps_lo {w : World} {lo lo' hi n : Nat} {u : Value} (h : Steps w lo hi n u) (hl : lo' ≤ lo) : Steps w lo' hi n u := by
  rcases h with ⟨zs, h1, h2⟩ | h
  · exact .inl ⟨zs, ⟨tmono h1.1 hl, h1.2⟩, h2⟩
  · exact .inr h

end Go.Proofs.YthnofdkkocpjhaaDoor

namespace Go.Proofs.YthnofdkkocpjhaaDoor
open Go.RowKit Go.ChangeShapes Go.WideShapes Go.ChangeAt
set_option maxRecDepth 100000
set_option linter.unusedVariables false

section
variable {H : Type} {enc : TypeId × Value → H} {w : World} {base : Nat} {spare : Nat → Bool} {held : Bool}
theorem code_in {a : Option Addr} {n c : Nat} {d : DataW H} {p : List MemPlace} (h : DataW.Trod enc Tryd.prog w base spare held 22 (.slice a n c) d p) : CodeAt w a n ∧ n ≤ c ∧ c ≤ maxLen := by
  obtain ⟨fuel, hf⟩ := h
  rcases open_ints Tryd.underlying22 Tryd.underlying5 (by kernel_rfl) hf with ⟨hcs, _⟩ | ⟨x, l, c', zs, hcs, _, hl, hm, hz, _, hcell, hwz⟩
  · simp [Value.cells] at hcs
    obtain ⟨rfl, rfl, rfl⟩ := hcs
    exact ⟨.inl rfl, Nat.le_refl _, Nat.zero_le _⟩
  · simp [Value.cells] at hcs
    obtain ⟨rfl, rfl, rfl⟩ := hcs
    refine ⟨?_, hl, hm⟩
    have hlen : n ≤ zs.length := by rw [hz]; split <;> omega
    by_cases hn : n = 0
    · exact .inl hn
    obtain ⟨A, off, rfl, hc'⟩ := ints_at hcell (by omega)
    refine .inr ⟨A, off, rfl, World.block_lt_of_cell? w _ (hc' 0 (by omega)), fun i hi => ?_⟩
    have hb := hwz (zs.getD i 0) (by rw [List.getD_eq_getElem?_getD, List.getElem?_eq_getElem (by omega)]; exact List.getElem_mem _)
    have hx : 0 ≤ zs.getD i 0 ∧ zs.getD i 0 ≤ 255 := by simpa [Lit.wf, IntKind.min, IntKind.max, IntKind.signed, IntKind.bits] using hb
    exact ⟨zs.getD i 0, hx.1, hx.2, hc' i (by omega)⟩
end

end Go.Proofs.YthnofdkkocpjhaaDoor

namespace Go.Proofs.YthnofdkkocpjhaaDoor
open Go.RowKit Go.ChangeShapes Go.WideShapes Go.ChangeAt Go.ChangeMaps
set_option maxRecDepth 100000
set_option linter.unusedVariables false

theorem drawSingText_any (a : Option Addr) (n cap : Nat) (w : World) (h : CodeAt w a n) (hc : n ≤ cap) (hcap : cap ≤ maxLen) :
    Calls Tryd.prog 13 #[.slice a n cap] w (DrewSu w) := by
  go_enter Tryd.func13, Tryd.ntmps13
  go_wp2_with (fail)
  (go_at_call 18; refine (open_any a n cap _ h hc hcap).mono ?_; rintro e w1 ⟨A, rfl, hr1, hb1, hs1⟩)
  go_wp2_with (fail)
  (go_at_call 32; refine (l91Sung_any w.heap.size A 0 (by omega) _ hr1).mono ?_; rintro e w2 ⟨v, u, xs, rfl, h1, h2, h3, hg2⟩)
  have HE : Hid (DrewSu w (.returned (.tuple #[v, u])) w2) := ⟨v, u, xs, rfl, ⟨tmono h1.1 hb1.size, h1.2⟩, h2, steps_lo h3 hb1.size, below_gb hb1 hg2 (Nat.le_refl _)⟩
  clear hr1 h1 h3
  go_wp2
  first | (go_ret2; exact HE.out) | (go_ret; exact HE.out)

set_option maxHeartbeats 3000000 in
theorem fnSing_walk (a : Option Addr) (n cap : Nat) (w : World) (h : CodeAt w a n) (hc : n ≤ cap) (hcap : cap ≤ maxLen) (ht : SylTab w) :
    Calls Tryd.prog 4 #[.slice a n cap] w fun e w' => e = .returned (.bool true) ∧ Below w.heap.size w w' := by
  by_cases hn : 1048576 < n
  · have g : (1048576 : Int) < (n : Int) := by omega
    go_enter Tryd.func4, Tryd.ntmps4
    go_wp2
    go_ret
    exact ⟨rfl, Below.refl _ _⟩
  have g : decide ((1048576 : Int) < (n : Int)) = false := by simp; omega
  have HT := Lib.hid (fun W (hb : Below w.heap.size w W) => ht.below hb)
  clear ht
  go_enter Tryd.func4, Tryd.ntmps4
  go_wp2_with (fail)
  (go_at_call 13; refine (drawSingText_any a n cap _ h hc hcap).mono ?_; rintro e w1 ⟨v, u, xs, rfl, hr1, hl8, hst, hb1⟩)
  clear h hc hcap g hn
  have HB1 := Lib.hid hb1
  rcases hst with ⟨zs, hz1, hz8⟩ | ⟨ua, um, uc, rfl, hne⟩
  case inr =>
    have KI := Lib.hid (fun W h => singText_len w.heap.size w1.heap.size v ua um uc xs W h hne)
    have KS := Lib.hid (fun W h => sSingText_len w.heap.size w1.heap.size v ua um uc xs W h hne)
    go_wp2_with (fail)
    (go_at_call 14; refine (KI.out _ hr1).mono ?_; rintro e w2 ⟨rfl, hb2⟩)
    go_wp2_with (fail)
    (go_at_call 15; refine (KS.out _ (hr1.below hb2 (.inr (Nat.le_refl _)))).mono ?_; rintro e w3 ⟨rfl, hb3⟩)
    clear hr1 hne
    go_wp2
    go_ret
    exact ⟨rfl, bl_step (bl_step HB1.out hb2) hb3⟩
  have KI := Lib.hid (fun W t h k => singText_any w.heap.size w1.heap.size w.heap.size w1.heap.size v u xs zs W t h k)
  have KS := Lib.hid (fun W h k => sSingText_any w.heap.size w1.heap.size w.heap.size w1.heap.size v u xs zs W h k)
  have HR := Lib.hid (fun W (hb : Below w1.heap.size w1 W) => hr1.below (w' := W) hb (.inr (Nat.le_refl _)))
  have HZ := Lib.hid (fun W (hb : Below w1.heap.size w1 W) => hz1.below (w' := W) hb (.inr (Nat.le_refl _)))
  by_cases hs : sok xs zs = true ∧ xs ≠ []
  case neg =>
    have he : sgt xs zs = ⟨#[]⟩ := by
      cases hh : sok xs zs with
      | false => exact sgt_no hh
      | true =>
        have hx : xs = [] := by
          by_cases hx : xs = []
          · exact hx
          · exact absurd ⟨hh, hx⟩ hs
        subst hx
        rw [sgt_yes hh]
        rfl
    rw [he] at KI KS
    clear he hs hr1 hz1
    go_wp2_with (fail)
    (go_at_call 14; refine (KI.out _ (HT.out _ HB1.out) (HR.out _ (Below.refl _ _)) (HZ.out _ (Below.refl _ _))).mono ?_; rintro e w2 ⟨rfl, hb2⟩)
    go_wp2_with (fail)
    (go_at_call 15; refine (KS.out _ (HR.out _ hb2) (HZ.out _ hb2)).mono ?_; rintro e w3 ⟨rfl, hb3⟩)
    go_wp2
    go_ret
    exact ⟨rfl, bl_step (bl_step HB1.out hb2) hb3⟩
  obtain ⟨hs, hx⟩ := hs
  obtain ⟨f1, f2, f3, f4⟩ := sing_facts hs hx
  have hnm := sgt_names hs
  have hnz := sgt_nil_or hs hx
  have hsz : (sgt xs zs).size ≤ 100 := by
    rw [sgt_yes hs]
    show (jnw (sgw xs zs xs.length)).toArray.size ≤ 100
    rw [List.size_toArray]
    have := sgw_jn xs zs (k := xs.length) (by omega)
    omega
  have KN := Lib.hid (names_any (sgt xs zs) (by omega))
  rw [hnm] at KN
  have KB := Lib.hid (fun lo hi v W h => singBest_any lo hi v xs W h)
  unfold IMade2 at KB
  rw [f1] at KB
  have KM := Lib.hid (fun W h k => singMutations_any w.heap.size w1.heap.size w.heap.size w1.heap.size v u xs zs W h k)
  have KM2 := Lib.hid (fun lo hi v2 W h k => singMutations_any w.heap.size w1.heap.size lo hi v v2 xs (sbL xs) W h k)
  have KO := Lib.hid (fun W h k => singOk_any w.heap.size w1.heap.size w.heap.size w1.heap.size v u xs zs W h k)
  rw [hs] at KO
  have ne1 : ((sgt xs zs).toList == []) = false := by rw [ByteArray.toList_eq]; simpa using hnz
  have ne2 : ¬ (sgt xs zs).toList = [] := by rw [ByteArray.toList_eq]; exact hnz
  have ne3 : (sgt xs zs).toList.isEmpty = false := by rw [ByteArray.toList_eq]; simpa using hnz
  have ne4 : ((sgt xs zs).toList != (sgt xs zs).toList) = false := by simp
  obtain ⟨L, hL⟩ : ∃ L, xs.length = L := ⟨_, rfl⟩
  obtain ⟨va, vc, rfl, _⟩ := hr1.flat hL
  rw [hL] at KN f3
  generalize smu xs (sbL xs) = m1 at KM2 f2 f4
  generalize smu xs zs = m2 at KM f2 f3
  generalize sgt xs zs = t at *
  clear hs hx hnm hnz hsz hr1 hz1 hL
  have t1 : decide (m1 ≤ m2) = true := decide_eq_true f2
  have t2 : decide (m2 < (L : Int)) = true := decide_eq_true f3
  go_wp2_with (fail)
  (go_at_call 14; refine (KI.out _ (HT.out _ HB1.out) (HR.out _ (Below.refl _ _)) (HZ.out _ (Below.refl _ _))).mono ?_; rintro e w2 ⟨rfl, hb2⟩)
  go_wp2_with (fail)
  (go_at_call 15; refine (KS.out _ (HR.out _ hb2) (HZ.out _ hb2)).mono ?_; rintro e w3 ⟨rfl, hb3⟩)
  have B3 := Lib.hid (bl_step hb2 hb3)
  clear hb2 hb3
  go_wp2_with (fail)
  (go_at_call 9; refine (KB.out _ _ _ _ (HR.out _ B3.out)).mono ?_; rintro e w4 ⟨ub, rfl, hub, hb4⟩)
  have B4 := Lib.hid (bl_step B3.out hb4)
  have HUB := Lib.hid (fun W (hb : Below w4.heap.size w4 W) => hub.below (w' := W) hb (.inr (Nat.le_refl _)))
  clear hb4 hub
  go_wp2_with (fail)
  (go_at_call 12; refine (KM.out _ (HR.out _ B4.out) (HZ.out _ B4.out)).mono ?_; rintro e w5 ⟨rfl, hb5⟩)
  have B5 := Lib.hid (bl_step B4.out hb5)
  have C5 := Lib.hid hb5
  clear hb5
  go_wp2_with (fail)
  (go_at_call 16; refine (KO.out _ (HR.out _ B5.out) (HZ.out _ B5.out)).mono ?_; rintro e w6 ⟨rfl, hb6⟩)
  have B6 := Lib.hid (bl_step B5.out hb6)
  have C6 := Lib.hid (bl_step C5.out hb6)
  clear hb6
  go_wp2_with (fail)
  (go_at_call 17; refine (KN.out _).mono ?_; rintro e w7 ⟨rfl, hb7⟩)
  have B7 := Lib.hid (bl_step B6.out hb7)
  have C7 := Lib.hid (bl_step C6.out hb7)
  clear hb7
  go_wp2_with (fail)
  (go_at_call 12; refine (KM2.out _ _ _ _ (HR.out _ B7.out) (HUB.out _ C7.out)).mono ?_; rintro e w8 ⟨rfl, hb8⟩)
  go_wp2
  go_ret
  exact ⟨rfl, bl_step HB1.out (bl_step B7.out hb8)⟩

noncomputable def fnSing_world (os : Os) : World := { World.holding Tryd.prog os ⟨#[], #[], []⟩ with heap := ((World.holding Tryd.prog os ⟨#[], #[], []⟩).heap.modify 0 fun | .cells _ t frozen => .cells #[.string ⟨#[117, 116]⟩, .string ⟨#[114, 101]⟩, .string ⟨#[109, 105]⟩, .string ⟨#[102, 97]⟩, .string ⟨#[115, 111, 108]⟩, .string ⟨#[108, 97]⟩] t frozen | o => o) }
theorem fnSing_met (os : Os) : laidMet Tryd.prog Rows.fnSingRow.laid ((fnSing_world os).forCall (fun _ _ => 0) ⟨#[], #[.slice none 0 0], []⟩).memory :=
  laidMet_of_run' 8 (by kernel_rfl) (by kernel_rfl)
theorem fnSing_reads (os : Os) {H : Type} (enc : TypeId × Value → H) : ∃ places, DataW.whole enc Tryd.prog ((fnSing_world os).forCall (fun _ _ => 0) ⟨#[], #[.slice none 0 0], []⟩).memory Tryd.f4.params.toList Rows.fnSingSpec.vars false (#[.slice none 0 0] : Array Value).toList 8 = some ([.nil], [Rows.laid_loop_example_neumes_impl_syllableNames], places) :=
  ⟨((DataW.whole enc Tryd.prog ((fnSing_world os).forCall (fun _ _ => 0) ⟨#[], #[.slice none 0 0], []⟩).memory Tryd.f4.params.toList Rows.fnSingSpec.vars false (#[.slice none 0 0] : Array Value).toList 8).getD ([], [], [])).2.2, by kernel_rfl⟩
set_option maxRecDepth 100000 in
theorem fnSing_lifted (os : Os) (started : os.Started) (H : Type) (enc : TypeId × Value → H) (F : Stop.Interp) :
    ReturnsInHanded {} Tryd.checked os 4 .any ((OpenSpec.ofChange Rows.fnSingSpec).preRow enc Tryd.prog Tryd.f4 Rows.fnSingRow.domain false Rows.fnSingRow.laid) (((OpenSpec.ofChange Rows.fnSingSpec).at F).post enc Tryd.prog Tryd.f4 false true false false) := by
  obtain ⟨places, hx⟩ := fnSing_reads os enc
  refine returnsInHanded_of_row (C := Tryd.checked) (s := OpenSpec.ofChange Rows.fnSingSpec) own started (by kernel_rfl) Tryd.func4
    (witness_row_at (enc := enc) (C := Tryd.checked) false (fnSing_world os) #[.slice none 0 0] rfl (by kernel_rfl) (by kernel_rfl) (by kernel_rfl)
      (OpenSpec.preRow_of_cond 8 hx (by kernel_rfl) (fun k hk => by cases hk) (by kernel_rfl) (fnSing_met os))) ?_
  intro W base args ds gs before hval0 hW _ _ _ hL _ _
  have hval : ∀ (j : Nat) t v, Tryd.f4.params[j]? = some t → args[j]? = some v → Value.okWide Tryd.prog W .any base t v := hval0
  have hW' := hW
  obtain ⟨p, q, hA0, hV, rfl, _, _⟩ := hW
  have hA : DataW.TrodAll enc Tryd.prog W 0 (fun _ => true) true Tryd.f4.params.toList args.toList ds p := hA0
  rw [Tryd.params4] at hA hval
  obtain ⟨v0, vs0, d0, ds0, p0, q0, hargs, rfl, rfl, h0, r0⟩ := trodAll_cons hA
  obtain ⟨rfl, rfl, rfl⟩ := trodAll_nil r0
  obtain rfl : args = #[v0] := by cases args; simp_all
  obtain ⟨g0, rfl⟩ := vars1 hV
  obtain ⟨a0, n0, c0, rfl⟩ := okWide_slice Tryd.underlying22 (hval 0 22 v0 rfl rfl)
  have k0 := h0
  have lt0 : ∀ x ∈ p0, x.block < W.heap.size := by obtain ⟨m, hm⟩ := k0; exact DataW.trod_lt m _ _ _ hm
  have y0 := code_in h0
  clear hA0 hval0
  refine (fnSing_walk a0 n0 c0 W y0.1 y0.2.1 y0.2.2 (sylTab_at hL (.head _))).mono fun e W' ⟨he, hb⟩ => ?_
  subst he
  exact ⟨_, rfl, _, _, _, [], _, _, hW', trodAll_cons_mk (shut_bool Tryd.underlying4 _) trodAll_mk0, trodAll_cons_mk (Below.trod laidOut (by kernel_rfl) (of_decide_eq_true (by kernel_rfl)) k0 hb lt0) (trodAll_mk0), hb.trodVars laidOut (by kernel_rfl) hV, hb.frame _, fun h => by cases h⟩



end Go.Proofs.YthnofdkkocpjhaaDoor
