/-
  Songs with a tone ahead: what the search knows from step to step.
-/
import Derived.Test.YthnofdkkocpjhaaDoorSg2
import Derived.Test.YthnofdkkocpjhaaDoorHexAll2
namespace Go.Proofs.YthnofdkkocpjhaaDoor
open Go.RowKit
set_option maxRecDepth 100000
set_option linter.unusedVariables false

/-- blocks of integers, of songs and of melodies stay as they are -/
def Kt (w w' : World) : Prop := ∀ (B : Nat) (cs : Array Value) (t : TypeId) (f : Nat × Nat), (t = 3 ∨ t = 66 ∨ t = 61) → w.heap[B]? = some (.cells cs t f) → w'.heap[B]? = some (.cells cs t f)
theorem Kt.sgs {w w' : World} (h : Kt w w') : SgKept w w' := fun B cs f hh => h B cs _ f (.inr (.inl rfl)) hh
theorem Kt.refl (w : World) : Kt w w := fun _ _ _ _ _ h => h
theorem Kt.trans {w w1 w2 : World} (h : Kt w w1) (k : Kt w1 w2) : Kt w w2 := fun B cs t f ht hh => k B cs t f ht (h B cs t f ht hh)
theorem Mel.kt {w w' : World} {lo : Nat} {p : Option Addr} {xs : List (Int × Bool)} (h : Mel w lo p xs) (hk : Kt w w') : Mel w' lo p xs := by
  induction xs generalizing p with
  | nil => exact h
  | cons t r ih =>
    obtain ⟨B, q, hp, hlo, hh, hr⟩ := h
    exact ⟨B, q, hp, hlo, hk B _ _ _ (.inr (.inr rfl)) hh, ih hr⟩
theorem Kt.below {w w' : World} (h : Below w.heap.size w w') : Kt w w' := fun B cs t f _ hh => (h.block B (heap_lt hh)).trans hh
theorem Kt.fr {w w' : World} {lo Q : Nat} {v v' : Value} {ps : List (Option Addr)} (h : Qs w lo Q v ps) (k : Qfr w lo Q v w' v') : Kt w w' := by
  intro B cs t f ht hB
  refine (k.oth B (heap_lt hB) ?_ ?_).1.trans hB
  · rintro rfl
    have := h.blk
    rw [hB] at this
    injection this with this
    injection this with _ e
    subst e
    rcases ht with e | e | e <;> exact absurd e (by decide)
  · intro e
    rcases h.row with ⟨rfl, _⟩ | ⟨g', off, cap, cur, rfl, hl, hh, r⟩
    · simp [Value.ownBlock] at e
    · have e' : g' = B := by simpa [Value.ownBlock] using e
      subst e'
      rw [hh] at hB
      injection hB with hB
      injection hB with _ e
      subst e
      rcases ht with e | e | e <;> exact absurd e (by decide)
theorem Kt.store {w : World} {A i : Nat} {cur : Array Value} (h : w.heap[A]? = some (.cells cur 58 (0, 0))) (u : Value) : Kt w (w.setCell ⟨A, i, none⟩ u) := by
  intro B cs t f ht hB
  refine (Below.heap_setCell w ⟨A, i, none⟩ u B ?_).trans hB
  rintro rfl
  rw [h] at hB
  injection hB with hB
  injection hB with _ e
  subst e
  rcases ht with e | e | e <;> exact absurd e (by decide)

/-- the songs on a row of pointers -/
def SgL (w : World) (lo : Nat) : List (Option Addr) → List (List Int) → Prop
  | [], [] => True
  | p :: ps, l :: ls => Sg w lo p l ∧ SgL w lo ps ls
  | _, _ => False
theorem SgL.kept {w w' : World} {lo : Nat} {ps : List (Option Addr)} {ls : List (List Int)} (h : SgL w lo ps ls) (hk : SgKept w w') : SgL w' lo ps ls := by
  induction ps generalizing ls with
  | nil => cases ls <;> exact h
  | cons p ps ih =>
    cases ls with
    | nil => exact h
    | cons l ls => exact ⟨h.1.kept hk, ih h.2⟩
theorem SgL.snoc {w : World} {lo : Nat} {ps : List (Option Addr)} {ls : List (List Int)} {p : Option Addr} {l : List Int} (h : SgL w lo ps ls) (k : Sg w lo p l) : SgL w lo (ps ++ [p]) (ls ++ [l]) := by
  induction ps generalizing ls with
  | nil => cases ls with
    | nil => exact ⟨k, trivial⟩
    | cons l ls => exact absurd h (by simp [SgL])
  | cons p ps ih =>
    cases ls with
    | nil => exact absurd h (by simp [SgL])
    | cons l ls => exact ⟨h.1, ih h.2⟩
theorem SgL.nil_right {w : World} {lo : Nat} {ps : List (Option Addr)} (h : SgL w lo ps []) : ps = [] := by
  cases ps with
  | nil => rfl
  | cons p ps => exact absurd h (by simp [SgL])
theorem SgL.len {w : World} {lo : Nat} {ps : List (Option Addr)} {ls : List (List Int)} (h : SgL w lo ps ls) : ps.length = ls.length := by
  induction ps generalizing ls with
  | nil => cases ls with
    | nil => rfl
    | cons l ls => exact absurd h (by simp [SgL])
  | cons p ps ih =>
    cases ls with
    | nil => exact absurd h (by simp [SgL])
    | cons l ls => simp [ih h.2]

/-- the steps -/
def IAt (w : World) (v : Value) (xs : List Int) : Prop := ∃ a cap, v = .slice a xs.length cap ∧ ∀ (i : Nat) (x : Int), xs[i]? = some x → ∃ (g : Nat) (cur : Array Value), a = some ⟨g, 0, none⟩ ∧ w.heap[g]? = some (.cells cur 3 (0, 0)) ∧ cur[i]? = some (.int .i64 x)
theorem IAt.kept {w w' : World} {v : Value} {xs : List Int} (h : IAt w v xs) (hk : Kt w w') : IAt w' v xs := by
  obtain ⟨a, cap, hv, h⟩ := h
  refine ⟨a, cap, hv, fun i x hx => ?_⟩
  obtain ⟨g, cur, ha, hh, hc⟩ := h i x hx
  exact ⟨g, cur, ha, hk g cur _ _ (.inl rfl) hh, hc⟩
theorem IAt.of {w : World} {lo hi : Nat} {v : Value} {xs : List Int} (h : IRow w lo hi v xs) : IAt w v xs := by
  rcases h.form with ⟨rfl, rfl⟩ | ⟨g, cap, cur, rfl, _, _, _, _, _, hh, _, _, hc, _⟩
  · exact ⟨none, 0, rfl, fun i x hx => by simp at hx⟩
  · refine ⟨_, cap, rfl, fun i x hx => ⟨g, cur, rfl, hh, ?_⟩⟩
    obtain ⟨hi, rfl⟩ := List.getElem?_eq_some_iff.1 hx
    have := hc i hi
    simpa [World.cell?, hh, List.getD_eq_getElem?_getD, List.getElem?_eq_getElem hi] using this
theorem IAt.cell {w : World} {a : Option Addr} {n cap i : Nat} {x : Int} {xs : List Int} (h : IAt w (.slice a n cap) xs) (hx : xs[i]? = some x) : ∃ g, a = some ⟨g, 0, none⟩ ∧ g < w.heap.size ∧ w.cell? ⟨g, i, none⟩ = some (.int .i64 x) := by
  obtain ⟨a', cap', hv, h⟩ := h
  obtain ⟨g, cur, ha, hh, hc⟩ := h i x hx
  injection hv with hv
  subst hv
  exact ⟨g, ha, heap_lt hh, by simp [World.cell?, hh, hc]⟩

/-- the best songs so far, in block A -/
def Ba (w : World) (lo A n : Nat) (f : Nat → List Int) : Prop := ∃ cur, w.heap[A]? = some (.cells cur 58 (0, 0)) ∧ cur.size = n ∧ ∀ i, i < n → ∃ p, cur[i]? = some (.pointer p) ∧ Sg w lo p (f i)
theorem Ba.kept {w w' : World} {lo A n : Nat} {f : Nat → List Int} (h : Ba w lo A n f) (hA : w'.heap[A]? = w.heap[A]?) (hk : Kt w w') : Ba w' lo A n f := by
  obtain ⟨cur, hh, hs, hc⟩ := h
  refine ⟨cur, hA.trans hh, hs, fun i hi => ?_⟩
  obtain ⟨p, hp, hsg⟩ := hc i hi
  exact ⟨p, hp, hsg.kept hk.sgs⟩
theorem Ba.lt {w : World} {lo A n : Nat} {f : Nat → List Int} (h : Ba w lo A n f) : A < w.heap.size := by obtain ⟨cur, hh, _⟩ := h; exact heap_lt hh
theorem Ba.congr {w : World} {lo A n : Nat} {f g : Nat → List Int} (h : Ba w lo A n f) (e : ∀ i, i < n → g i = f i) : Ba w lo A n g := by
  obtain ⟨cur, hh, hs, hc⟩ := h
  refine ⟨cur, hh, hs, fun i hi => ?_⟩
  rw [e i hi]
  exact hc i hi
theorem Ba.at_ {w : World} {lo A n i : Nat} {f : Nat → List Int} (h : Ba w lo A n f) (hi : i < n) : ∃ p, w.cell? ⟨A, i, none⟩ = some (.pointer p) ∧ w.frozen? ⟨A, i, none⟩ = false ∧ Sg w lo p (f i) := by
  obtain ⟨cur, hh, _, hc⟩ := h
  obtain ⟨p, hp, hsg⟩ := hc i hi
  exact ⟨p, by simp [World.cell?, hh, hp], by simp [World.frozen?, hh], hsg⟩
theorem Ba.set {w : World} {lo A n m : Nat} {f g : Nat → List Int} {p : Option Addr} (h : Ba w lo A n f) (hm : m < n) (hp : Sg w lo p (g m)) (e : ∀ i, i < n → i ≠ m → g i = f i) : Ba (w.setCell ⟨A, m, none⟩ (.pointer p)) lo A n g := by
  obtain ⟨cur, hh, hs, hc⟩ := h
  have hk : Kt w (w.setCell ⟨A, m, none⟩ (.pointer p)) := Kt.store hh _
  refine ⟨cur.setIfInBounds m (.pointer p), by simp [World.setCell, Array.getElem?_modify, hh], by simpa using hs, fun i hi => ?_⟩
  by_cases e1 : i = m
  · subst e1
    have : i < cur.size := by omega
    exact ⟨p, by simp [this], hp.kept hk.sgs⟩
  · obtain ⟨q, hq, hsg⟩ := hc i hi
    refine ⟨q, by rw [Array.getElem?_setIfInBounds, if_neg (fun h => e1 h.symm)]; exact hq, ?_⟩
    rw [e i hi e1]
    exact hsg.kept hk.sgs

/-- all that the search knows: the queue still holds the songs R, l is under way -/
structure AhI (w0 wr : World) (lo Q A : Nat) (vs : Value) (hs : List Int) (v : Value) (ps : List (Option Addr)) (R : List (List Int)) (p : Option Addr) (l : List Int) (f : Nat → List Int) : Prop where
  q : Qs wr lo Q v ps
  r : SgL wr lo ps R
  a : v.ownBlock ≠ some A
  b : Ba wr lo A hs.length f
  i : IAt wr vs hs
  c : Sg wr lo p l
  bl : Below lo w0 wr
  la : lo ≤ A
  kt : Kt w0 wr
theorem AhI.loq {w0 wr : World} {lo Q A : Nat} {vs : Value} {hs : List Int} {v : Value} {ps : List (Option Addr)} {R : List (List Int)} {p : Option Addr} {l : List Int} {f : Nat → List Int} (h : AhI w0 wr lo Q A vs hs v ps R p l f) : lo ≤ wr.heap.size := by
  have := h.la; have := h.b.lt; omega
theorem AhI.below {w0 wr w' : World} {lo Q A : Nat} {vs : Value} {hs : List Int} {v : Value} {ps : List (Option Addr)} {R : List (List Int)} {p : Option Addr} {l : List Int} {f : Nat → List Int} (h : AhI w0 wr lo Q A vs hs v ps R p l f) (hb : Below wr.heap.size wr w') : AhI w0 w' lo Q A vs hs v ps R p l f :=
  ⟨h.q.below hb, h.r.kept (.below hb), h.a, h.b.kept (hb.block A h.b.lt) (.below hb), h.i.kept (.below hb), h.c.below hb, h.bl.trans (hb.mono h.loq), h.la, h.kt.trans (.below hb)⟩
theorem AhI.congr {w0 wr : World} {lo Q A : Nat} {vs : Value} {hs : List Int} {v : Value} {ps : List (Option Addr)} {R : List (List Int)} {p : Option Addr} {l : List Int} {f g : Nat → List Int} (h : AhI w0 wr lo Q A vs hs v ps R p l f) (e : ∀ i, i < hs.length → g i = f i) : AhI w0 wr lo Q A vs hs v ps R p l g :=
  ⟨h.q, h.r, h.a, h.b.congr e, h.i, h.c, h.bl, h.la, h.kt⟩
theorem Qs.neA {wr : World} {lo Q A n : Nat} {v : Value} {ps : List (Option Addr)} {f : Nat → List Int} (h : Qs wr lo Q v ps) (k : Ba wr lo A n f) : A ≠ Q := by
  rintro rfl
  obtain ⟨cur, hh, _⟩ := k
  rw [h.blk] at hh
  injection hh with hh
  injection hh with _ e
  exact absurd e (by decide)
theorem AhI.store {w0 wr : World} {lo Q A m : Nat} {vs : Value} {hs : List Int} {v : Value} {ps : List (Option Addr)} {R : List (List Int)} {p pb : Option Addr} {l : List Int} {f g : Nat → List Int} (h : AhI w0 wr lo Q A vs hs v ps R p l f) (hm : m < hs.length) (hp : Sg wr lo pb (g m)) (e : ∀ i, i < hs.length → i ≠ m → g i = f i) :
    AhI w0 (wr.setCell ⟨A, m, none⟩ (.pointer pb)) lo Q A vs hs v ps R p l g := by
  have hA := h.q.neA h.b
  obtain ⟨cur, hh, hsz, hc⟩ := h.b
  have hk : Kt wr (wr.setCell ⟨A, m, none⟩ (.pointer pb)) := Kt.store hh _
  refine ⟨h.q.kept fun g hg => Below.heap_setCell _ _ _ _ ?_, h.r.kept hk.sgs, h.a, h.b.set hm hp e, h.i.kept hk, h.c.kept hk.sgs, h.bl.setCell h.la _, h.la, h.kt.trans hk⟩
  show g ≠ A
  rcases hg with rfl | hg
  · exact Ne.symm hA
  · exact fun e => h.a (e ▸ hg)
/-- the next song is taken -/
theorem AhI.next {w0 wr w' : World} {lo Q A : Nat} {vs : Value} {hs : List Int} {v v' : Value} {ps ps' : List (Option Addr)} {R R' : List (List Int)} {p p' : Option Addr} {l l' : List Int} {f : Nat → List Int} (h : AhI w0 wr lo Q A vs hs v ps R p l f)
    (hq : Qs w' lo Q v' ps') (hr : SgL w' lo ps' R') (hc : Sg w' lo p' l') (hf : Qfr wr lo Q v w' v') : AhI w0 w' lo Q A vs hs v' ps' R' p' l' f := by
  have hk := Kt.fr h.q hf
  obtain ⟨h1, h2⟩ := hf.oth A h.b.lt (h.q.neA h.b) h.a
  exact ⟨hq, hr, h2, h.b.kept h1 hk, h.i.kept hk, hc, h.bl.trans hf.bl, h.la, h.kt.trans hk⟩

def TakeSg (w : World) (lo Q : Nat) (v : Value) (R : List (List Int)) (e : Ending) (w' : World) : Prop :=
  ∃ p v' ps', e = .returned (.tuple #[.pointer p, .bool (!R.isEmpty)]) ∧ Qs w' lo Q v' ps' ∧ SgL w' lo ps' R.tail ∧ Sg w' lo p (R.headD []) ∧ Qfr w lo Q v w' v'
theorem take_any (lo Q : Nat) (v : Value) (ps : List (Option Addr)) (R : List (List Int)) (w : World) (h : Qs w lo Q v ps) (hr : SgL w lo ps R) :
    Calls Tryd.prog 28 #[.pointer (some ⟨Q, 0, none⟩)] w (TakeSg w lo Q v R) := by
  cases R with
  | nil =>
    have := hr.nil_right
    subst this
    refine (take_none lo Q v w h).mono ?_
    rintro e w' ⟨rfl, rfl⟩
    exact ⟨none, v, [], rfl, h, trivial, rfl, ⟨Below.refl _ _, fun A _ _ h2 => ⟨rfl, h2⟩, .refl _⟩⟩
  | cons l R =>
    cases ps with
    | nil => exact absurd hr (by simp [SgL])
    | cons p ps =>
      refine (take_some lo Q v p ps w h).mono ?_
      rintro e w' ⟨rfl, v', hq, hf⟩
      have hk := Kt.fr h hf
      exact ⟨p, v', ps, rfl, hq, hr.2.kept hk.sgs, hr.1.kept hk.sgs, hf⟩
end Go.Proofs.YthnofdkkocpjhaaDoor
