/-
  Contours counted: plain mathematics. How many lists of steps have a contour; turned and backwards there are as many.
-/
import Derived.Test.YtkjimilapgkajabDoorCv
namespace Go.Proofs.YtkjimilapgkajabDoor
set_option maxRecDepth 100000
set_option linter.unusedVariables false

def tnb (c : UInt8) : UInt8 := if c == 117 then 100 else if c == 100 then 117 else 115
/-- the way from a step to another one -/
def wy (a b : Nat) : UInt8 := if a < b then 117 else if b < a then 100 else 115
def ctot (e : Nat → Int) : Nat → Int
  | 0 => 0
  | n + 1 => ctot e n + e n
/-- of the lists that end at the first a steps, those that go on to b by the way c -/
def cpart (c : UInt8) (e : Nat → Int) (b n : Nat) : Int := ctot (fun a => if wy a b = c then e a else 0) n
/-- how many lists end at each step -/
def cfin (m : Nat) (l : List UInt8) (x : Nat → Int) : Nat → Int := l.foldl (fun e c b => cpart c e b (m + 1)) x
def cone : Nat → Int := fun _ => 1
def ccnt (m : Nat) (l : List UInt8) : Int := ctot (cfin m l cone) (m + 1)

theorem ctot_congr {e f : Nat → Int} {n : Nat} (h : ∀ a, a < n → e a = f a) : ctot e n = ctot f n := by
  induction n with
  | zero => rfl
  | succ n ih => unfold ctot; rw [ih fun a ha => h a (by omega), h n (by omega)]
theorem ctot_add (e f : Nat → Int) (n : Nat) : ctot (fun a => e a + f a) n = ctot e n + ctot f n := by
  induction n with
  | zero => rfl
  | succ n ih => unfold ctot; rw [ih]; omega
theorem ctot_zero (n : Nat) : ctot (fun _ => 0) n = 0 := by
  induction n with
  | zero => rfl
  | succ n ih => unfold ctot; rw [ih]; rfl
theorem ctot_const (x : Int) (n : Nat) : ctot (fun _ => x) n = x * n := by
  induction n with
  | zero => simp [ctot]
  | succ n ih => unfold ctot; rw [ih, Int.natCast_add, Int.mul_add]; simp
theorem ctot_mul (x : Int) (e : Nat → Int) (n : Nat) : ctot (fun a => x * e a) n = x * ctot e n := by
  induction n with
  | zero => simp [ctot]
  | succ n ih => unfold ctot; rw [ih, Int.mul_add]
theorem ctot_swap (g : Nat → Nat → Int) (n m : Nat) : ctot (fun a => ctot (fun b => g a b) m) n = ctot (fun b => ctot (fun a => g a b) n) m := by
  induction n with
  | zero => exact (ctot_zero m).symm
  | succ n ih =>
    show ctot (fun a => ctot (fun b => g a b) m) n + ctot (fun b => g n b) m = ctot (fun b => ctot (fun a => g a b) n + g n b) m
    rw [ih, ctot_add]
theorem ctot_first (e : Nat → Int) (n : Nat) : ctot e (n + 1) = e 0 + ctot (fun a => e (a + 1)) n := by
  induction n with
  | zero => simp [ctot]
  | succ n ih => rw [ctot, ih]; show _ = e 0 + (ctot (fun a => e (a + 1)) n + e (n + 1)); omega
theorem ctot_rev (e : Nat → Int) (n : Nat) : ctot (fun a => e (n - a)) (n + 1) = ctot e (n + 1) := by
  induction n generalizing e with
  | zero => rfl
  | succ n ih =>
    rw [ctot_first]
    show e (n + 1) + _ = ctot e (n + 1) + e (n + 1)
    rw [← ih e, ctot_congr (e := fun a => e (n + 1 - (a + 1))) (f := fun a => e (n - a)) fun a _ => by rw [show n + 1 - (a + 1) = n - a by omega]]
    omega
theorem ctot_bd {e : Nat → Int} {M : Int} (h : ∀ a, 0 ≤ e a ∧ e a ≤ M) (n : Nat) : 0 ≤ ctot e n ∧ ctot e n ≤ n * M := by
  induction n with
  | zero => simp [ctot]
  | succ n ih =>
    have := h n
    have e : ((n + 1 : Nat) : Int) * M = n * M + M := by rw [Int.natCast_add, Int.add_mul]; simp
    rw [e]
    unfold ctot
    omega
theorem ctot_le {e f : Nat → Int} {n : Nat} (h : ∀ a, a < n → e a ≤ f a) : ctot e n ≤ ctot f n := by
  induction n with
  | zero => exact Int.le_refl _
  | succ n ih => unfold ctot; have := ih fun a ha => h a (by omega); have := h n (by omega); omega
theorem cpart_bd {c : UInt8} {e : Nat → Int} {b : Nat} {M : Int} (h : ∀ a, 0 ≤ e a ∧ e a ≤ M) (n : Nat) : 0 ≤ cpart c e b n ∧ cpart c e b n ≤ n * M := by
  have h0 := h 0
  exact ctot_bd (fun a => by have := h a; (try dsimp only); split <;> omega) n
theorem cpart_succ (c : UInt8) (e : Nat → Int) (b a : Nat) : cpart c e b (a + 1) = cpart c e b a + if wy a b = c then e a else 0 := rfl
theorem mul_bd {n : Nat} {M : Int} (h : n ≤ 21) (hM : 0 ≤ M) : (n : Int) * M ≤ 21 * M := Int.mul_le_mul_of_nonneg_right (by omega) hM
def p21 : Nat → Int
  | 0 => 1
  | k + 1 => 21 * p21 k
theorem cfin_bd {m : Nat} (hm : m ≤ 20) (l : List UInt8) : ∀ (x : Nat → Int) (M : Int), (∀ a, 0 ≤ x a ∧ x a ≤ M) → ∀ b, 0 ≤ cfin m l x b ∧ cfin m l x b ≤ p21 l.length * M := by
  induction l with
  | nil => intro x M h b; have := h b; simp [cfin, p21]; exact this
  | cons c l ih =>
    intro x M h b
    have hM : 0 ≤ M := by have := h 0; omega
    have := ih (fun b => cpart c x b (m + 1)) (21 * M) (fun a => by
      have p := cpart_bd (c := c) (b := a) h (m + 1)
      have q := mul_bd (n := m + 1) (by omega) hM
      omega) b
    have e : p21 (c :: l).length * M = p21 l.length * (21 * M) := by
      show 21 * p21 l.length * M = _
      rw [Int.mul_comm 21, Int.mul_assoc]
    rw [e]
    exact this
theorem p21_8 : ∀ k, k < 9 → p21 k ≤ 37822859361 := by decide
theorem cfin_one_bd {m : Nat} (hm : m ≤ 20) {l : List UInt8} (hl : l.length ≤ 8) (b : Nat) : 0 ≤ cfin m l cone b ∧ cfin m l cone b ≤ 37822859361 := by
  have := cfin_bd hm l cone 1 (fun _ => by simp [cone]) b
  have := p21_8 l.length (by omega)
  omega
theorem cfin_snoc (m : Nat) (l : List UInt8) (c : UInt8) (x : Nat → Int) : cfin m (l ++ [c]) x = fun b => cpart c (cfin m l x) b (m + 1) := by simp [cfin]
theorem cfin_cons (m : Nat) (l : List UInt8) (c : UInt8) (x : Nat → Int) : cfin m (c :: l) x = cfin m l (fun b => cpart c x b (m + 1)) := rfl

theorem wy_turn {m a b : Nat} (ha : a ≤ m) (hb : b ≤ m) : wy (m - a) (m - b) = tnb (wy a b) := by
  unfold wy
  by_cases h : a < b
  · rw [if_neg (by omega), if_pos (by omega), if_pos h]; decide
  · by_cases k : b < a
    · rw [if_pos (by omega), if_neg h, if_pos k]; decide
    · rw [if_neg (by omega), if_neg (by omega), if_neg h, if_neg k]; decide
theorem wy_swap (a b : Nat) : wy b a = tnb (wy a b) := by
  unfold wy
  by_cases h : a < b
  · rw [if_neg (by omega), if_pos (by omega), if_pos h]; decide
  · by_cases k : b < a
    · rw [if_pos (by omega), if_neg h, if_pos k]; decide
    · rw [if_neg (by omega), if_neg (by omega), if_neg h, if_neg k]; decide
theorem wy_way (a b : Nat) : wayb (wy a b) = true := by unfold wy; split <;> (try split) <;> decide
theorem tnb_tnb {c : UInt8} (h : wayb c = true) : tnb (tnb c) = c := by
  simp [wayb] at h
  rcases h with (rfl | rfl) | rfl <;> decide
theorem tnb_eq {c d : UInt8} (h : wayb c = true) (k : wayb d = true) : (tnb d = tnb c) = (d = c) := by
  refine propext ⟨fun e => ?_, fun e => by rw [e]⟩
  rw [← tnb_tnb k, e, tnb_tnb h]
theorem cpart_turn {m b : Nat} {c : UInt8} (hc : wayb c = true) (hb : b ≤ m) (e f : Nat → Int) (h : ∀ a, a ≤ m → f a = e (m - a)) : cpart (tnb c) f b (m + 1) = cpart c e (m - b) (m + 1) := by
  unfold cpart
  rw [← ctot_rev]
  refine ctot_congr fun a ha => ?_
  (try dsimp only)
  rw [h (m - a) (by omega), show m - (m - a) = a by omega]
  have : (wy (m - a) b = tnb c) = (wy a (m - b) = c) := by
    have e := wy_turn (m := m) (a := a) (b := m - b) (by omega) (by omega)
    rw [show m - (m - b) = b by omega] at e
    rw [e, tnb_eq hc (wy_way _ _)]
  simp only [this]
theorem cfin_turn {m : Nat} (l : List UInt8) (hl : l.all wayb = true) : ∀ (x y : Nat → Int), (∀ a, a ≤ m → y a = x (m - a)) → ∀ b, b ≤ m → cfin m (l.map tnb) y b = cfin m l x (m - b) := by
  induction l with
  | nil => intro x y h b hb; exact h b hb
  | cons c l ih =>
    intro x y h b hb
    rw [List.all_cons, Bool.and_eq_true] at hl
    rw [List.map_cons, cfin_cons, cfin_cons]
    exact ih hl.2 _ _ (fun a ha => cpart_turn hl.1 ha x y h) b hb
theorem ccnt_turn {m : Nat} {l : List UInt8} (hl : l.all wayb = true) : ccnt m (l.map tnb) = ccnt m l := by
  unfold ccnt
  rw [← ctot_rev (cfin m l cone)]
  exact ctot_congr fun a ha => cfin_turn l hl cone cone (fun _ _ => rfl) a (by omega)

def cdot (m : Nat) (x y : Nat → Int) : Int := ctot (fun b => x b * y b) (m + 1)
theorem cdot_part (m : Nat) {c : UInt8} (hc : wayb c = true) (x y : Nat → Int) : cdot m y (fun b => cpart c x b (m + 1)) = cdot m (fun b => cpart (tnb c) y b (m + 1)) x := by
  unfold cdot cpart
  have e1 : ∀ b, y b * ctot (fun a => if wy a b = c then x a else 0) (m + 1) = ctot (fun a => if wy a b = c then y b * x a else 0) (m + 1) := fun b => by
    rw [← ctot_mul]; refine ctot_congr fun a _ => ?_; (try dsimp only); split <;> simp
  have e2 : ∀ b, ctot (fun a => if wy a b = tnb c then y a else 0) (m + 1) * x b = ctot (fun a => if wy a b = tnb c then y a * x b else 0) (m + 1) := fun b => by
    rw [Int.mul_comm, ← ctot_mul]; refine ctot_congr fun a _ => ?_; (try dsimp only); split <;> simp [Int.mul_comm]
  simp only [e1, e2]
  rw [ctot_swap]
  refine ctot_congr fun a _ => ctot_congr fun b _ => ?_
  have : (wy b a = tnb c) = (wy a b = c) := by rw [wy_swap a b, tnb_eq hc (wy_way _ _)]
  simp only [this]
theorem cdot_fin (m : Nat) (l : List UInt8) (hl : l.all wayb = true) : ∀ (x y : Nat → Int), cdot m y (cfin m l x) = cdot m (cfin m (l.map tnb).reverse y) x := by
  induction l with
  | nil => intro x y; rfl
  | cons c l ih =>
    intro x y
    rw [List.all_cons, Bool.and_eq_true] at hl
    rw [cfin_cons, ih hl.2, List.map_cons, List.reverse_cons, cfin_snoc]
    exact cdot_part m hl.1 _ _
theorem ccnt_back {m : Nat} {l : List UInt8} (hl : l.all wayb = true) : ccnt m (l.map tnb).reverse = ccnt m l := by
  have h := cdot_fin m l hl cone cone
  unfold cdot cone at h
  simp only [Int.one_mul, Int.mul_one] at h
  exact h.symm
theorem cpart_all (e : Nat → Int) (b n : Nat) : cpart 117 e b n + cpart 100 e b n + cpart 115 e b n = ctot e n := by
  unfold cpart
  rw [← ctot_add, ← ctot_add]
  refine ctot_congr fun a _ => ?_
  (try dsimp only)
  unfold wy
  by_cases h : a < b
  · simp only [if_pos h, if_true, show ¬ ((117 : UInt8) = 100) by decide, show ¬ ((117 : UInt8) = 115) by decide, if_false]; omega
  · by_cases k : b < a
    · simp only [if_neg h, if_pos k, if_true, show ¬ ((100 : UInt8) = 117) by decide, show ¬ ((100 : UInt8) = 115) by decide, if_false]; omega
    · simp only [if_neg h, if_neg k, if_true, show ¬ ((115 : UInt8) = 117) by decide, show ¬ ((115 : UInt8) = 100) by decide, if_false]; omega
theorem ccnt_all (m : Nat) (l : List UInt8) : ccnt m (l ++ [117]) + ccnt m (l ++ [100]) + ccnt m (l ++ [115]) = ccnt m l * (m + 1 : Nat) := by
  unfold ccnt
  rw [cfin_snoc, cfin_snoc, cfin_snoc, ← ctot_add, ← ctot_add]
  simp only [cpart_all]
  exact ctot_const _ _
theorem ctot_more {e : Nat → Int} (h : ∀ a, 0 ≤ e a) {n m : Nat} (hn : n ≤ m) : ctot e n ≤ ctot e m := by
  induction m with
  | zero => have : n = 0 := by omega
            subst this; exact Int.le_refl _
  | succ m ih =>
    by_cases k : n = m + 1
    · subst k; exact Int.le_refl _
    · have := ih (by omega); have := h m; show ctot e n ≤ ctot e m + e m; omega
theorem cfin_nonneg (m : Nat) (l : List UInt8) : ∀ (x : Nat → Int), (∀ a, 0 ≤ x a) → ∀ b, 0 ≤ cfin m l x b := by
  induction l with
  | nil => intro x h b; exact h b
  | cons c l ih =>
    intro x h b
    refine ih _ (fun a => ?_) b
    have : ctot (fun _ => 0) (m + 1) ≤ cpart c x a (m + 1) := ctot_le fun a _ => by (try dsimp only); split; exact h _; exact Int.le_refl _
    rw [ctot_zero] at this
    exact this
theorem cfin_mono {n m : Nat} (hn : n ≤ m) (l : List UInt8) : ∀ (x y : Nat → Int), (∀ a, x a ≤ y a) → (∀ a, 0 ≤ y a) → ∀ b, cfin n l x b ≤ cfin m l y b := by
  induction l with
  | nil => intro x y h _ b; exact h b
  | cons c l ih =>
    intro x y h h0 b
    have h1 : ∀ a k, 0 ≤ (if wy k a = c then y k else 0) := fun a k => by split; exact h0 _; exact Int.le_refl _
    refine ih _ _ (fun a => ?_) (fun a => ?_) b
    · refine Int.le_trans (ctot_le (f := fun k => if wy k a = c then y k else 0) fun k _ => ?_) (ctot_more (h1 a) (by omega))
      (try dsimp only); split; exact h _; exact Int.le_refl _
    · have : ctot (fun _ => 0) (m + 1) ≤ cpart c y a (m + 1) := ctot_le fun k _ => h1 a k
      rw [ctot_zero] at this
      exact this
theorem ccnt_mono {n m : Nat} (hn : n ≤ m) (l : List UInt8) : ccnt n l ≤ ccnt m l := by
  unfold ccnt
  refine Int.le_trans (ctot_le fun a _ => cfin_mono hn l cone cone (fun _ => Int.le_refl _) (fun _ => by simp [cone]) a) (ctot_more (cfin_nonneg m l cone (fun _ => by simp [cone])) (by omega))
theorem ccnt_bd {m : Nat} (hm : m ≤ 20) {l : List UInt8} (hl : l.length ≤ 8) : 0 ≤ ccnt m l ∧ ccnt m l ≤ 794280046581 := by
  have := ctot_bd (cfin_one_bd hm hl) (m + 1)
  unfold ccnt
  have := mul_bd (n := m + 1) (M := 37822859361) (by omega) (by decide)
  omega
end Go.Proofs.YtkjimilapgkajabDoor
