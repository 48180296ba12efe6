/-
  The draws of one melody return; the ends of a melody.
-/
import Derived.Test.YtgehfianpahgcaaDrawM
import Derived.Test.YtgehfianpahgcaaMelR2
import Derived.Test.YtgehfianpahgcaaMelB
namespace Go.Proofs.Ytgehfianpahgcaa
open Go.RowKit
set_option maxRecDepth 100000
set_option linter.unusedVariables false

def DrewMel (most : Nat) (w : World) (e : Ending) (w' : World) : Prop :=
  ∃ v xs, e = .returned v ∧ TRow w' w.heap.size w'.heap.size v xs ∧ xs.length ≤ most ∧ Below w.heap.size w w'
theorem drewMel {B A q most : Nat} {w w1 w2 : World} {v : Value} {xs : List (Int × Bool)} (h : DmInv w1 w2 B A q v xs) (hl : xs.length ≤ most) (hb : Below w.heap.size w w1) (hB : w.heap.size ≤ B) : DrewMel most w (.returned v) w2 :=
  ⟨v, xs, rfl, ⟨tmono h.own hb.size, fun g hg => (h.own.lt g hg).2⟩, hl, below_gb hb h.gb hB⟩

theorem drawMelodyRange_any (a : Option Addr) (n cap : Nat) (w : World) (h : CodeAt w a n) (hc : n ≤ cap) (hcap : cap ≤ maxLen) :
    Calls Try.prog 12 #[.slice a n cap] w (DrewMel 10 w) := by
  go_enter Try.func12, Try.ntmps12
  go_wp2_with (fail)
  (go_at_call 34; refine (open_any a n cap _ h hc hcap).mono ?_; rintro e w1 ⟨A, rfl, hr1, hb1, hs1⟩)
  go_wp2_with (fail)
  (go_at_call 33; refine (l91Melody_any w.heap.size A 0 10 (by omega) (by omega) _ hr1).mono ?_; rintro e w2 ⟨v, xs, rfl, hI, hl⟩)
  have HE := Lib.hid (drewMel hI hl hb1 (Nat.le_refl _))
  clear hI hr1
  go_wp2
  go_ret
  exact HE.out

def anyS (a : Int) (xs : List (Int × Bool)) : Bool := xs.any fun t => t.1 == a
theorem anyS_snoc {a : Int} {xs : List (Int × Bool)} {k : Nat} {t : Int × Bool} (h : xs[k]? = some t) : anyS a (xs.take (k + 1)) = (anyS a (xs.take k) || t.1 == a) := by
  rw [List.take_add_one, h]; simp [anyS]
theorem anyS_yes {a : Int} {xs : List (Int × Bool)} {t : Int × Bool} (h : t ∈ xs) (e : t.1 = a) : anyS a xs = true := by
  unfold anyS; rw [List.any_eq_true]; exact ⟨t, h, by simp [e]⟩
theorem loF_spec (a : Int) (xs : List (Int × Bool)) : loF a xs ≤ a ∧ (∀ t, t ∈ xs → loF a xs ≤ t.1) ∧ (loF a xs = a ∨ ∃ t, t ∈ xs ∧ t.1 = loF a xs) := by
  induction xs generalizing a with
  | nil => exact ⟨Int.le_refl _, fun t h => (by cases h), .inl rfl⟩
  | cons u r ih =>
    have e : loF a (u :: r) = loF (min a u.1) r := rfl
    obtain ⟨h1, h2, h3⟩ := ih (min a u.1)
    rw [e]
    refine ⟨by omega, fun t ht => ?_, ?_⟩
    · rcases List.mem_cons.1 ht with rfl | ht
      · omega
      · exact h2 t ht
    · rcases h3 with h3 | ⟨t, ht, h3⟩
      · by_cases g : a ≤ u.1
        · left; omega
        · exact .inr ⟨u, List.mem_cons_self, by omega⟩
      · exact .inr ⟨t, List.mem_cons_of_mem _ ht, h3⟩
theorem hiF_spec (a : Int) (xs : List (Int × Bool)) : a ≤ hiF a xs ∧ (∀ t, t ∈ xs → t.1 ≤ hiF a xs) ∧ (hiF a xs = a ∨ ∃ t, t ∈ xs ∧ t.1 = hiF a xs) := by
  induction xs generalizing a with
  | nil => exact ⟨Int.le_refl _, fun t h => (by cases h), .inl rfl⟩
  | cons u r ih =>
    have e : hiF a (u :: r) = hiF (max a u.1) r := rfl
    obtain ⟨h1, h2, h3⟩ := ih (max a u.1)
    rw [e]
    refine ⟨by omega, fun t ht => ?_, ?_⟩
    · rcases List.mem_cons.1 ht with rfl | ht
      · omega
      · exact h2 t ht
    · rcases h3 with h3 | ⟨t, ht, h3⟩
      · by_cases g : u.1 ≤ a
        · left; omega
        · exact .inr ⟨u, List.mem_cons_self, by omega⟩
      · exact .inr ⟨t, List.mem_cons_of_mem _ ht, h3⟩
theorem hdS_mem {xs : List (Int × Bool)} (h : xs ≠ []) : ∃ t, t ∈ xs ∧ t.1 = hdS xs := by
  cases xs with
  | nil => exact absurd rfl h
  | cons u r => exact ⟨u, List.mem_cons_self, rfl⟩
theorem rg_facts {xs : List (Int × Bool)} (h : rgOk xs = true) : mv xs = true ∧ xs ≠ [] ∧ (∀ t, t ∈ xs → rgL xs ≤ t.1 ∧ t.1 ≤ rgH xs) ∧ (∃ t, t ∈ xs ∧ t.1 = rgL xs) ∧ (∃ t, t ∈ xs ∧ t.1 = rgH xs) := by
  obtain ⟨e1, e2⟩ := rg_yes h
  simp [rgOk] at h
  obtain ⟨t0, h0, g0⟩ := hdS_mem h.2
  obtain ⟨a1, a2, a3⟩ := loF_spec (hdS xs) xs
  obtain ⟨b1, b2, b3⟩ := hiF_spec (hdS xs) xs
  rw [← e1] at a1 a2 a3
  rw [← e2] at b1 b2 b3
  refine ⟨h.1, h.2, fun t ht => ⟨a2 t ht, b2 t ht⟩, ?_, ?_⟩
  · rcases a3 with a3 | a3
    · exact ⟨t0, h0, by omega⟩
    · exact a3
  · rcases b3 with b3 | b3
    · exact ⟨t0, h0, by omega⟩
    · exact b3
theorem rgOk_rev {xs : List (Int × Bool)} (h : rgOk xs = true) : rgOk xs.reverse = true := by
  simp [rgOk, mv, allv] at h ⊢
  exact h
theorem rg_rev {xs : List (Int × Bool)} (h : rgOk xs = true) : rgL xs.reverse = rgL xs ∧ rgH xs.reverse = rgH xs := by
  obtain ⟨_, _, h1, ⟨t1, m1, g1⟩, ⟨t2, m2, g2⟩⟩ := rg_facts h
  obtain ⟨_, _, k1, ⟨u1, n1, f1⟩, ⟨u2, n2, f2⟩⟩ := rg_facts (rgOk_rev h)
  have a1 := k1 t1 (by simpa using m1)
  have a2 := k1 t2 (by simpa using m2)
  have b1 := h1 u1 (by simpa using n1)
  have b2 := h1 u2 (by simpa using n2)
  omega
end Go.Proofs.Ytgehfianpahgcaa
