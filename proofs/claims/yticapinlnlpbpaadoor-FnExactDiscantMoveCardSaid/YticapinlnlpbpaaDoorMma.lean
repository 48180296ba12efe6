/-
  Melodies moved: plain mathematics.
-/
import Derived.Test.YticapinlnlpbpaaDoorMmi
import Derived.Test.YticapinlnlpbpaaDoorSame
namespace Go.Proofs.YticapinlnlpbpaaDoor
set_option maxRecDepth 100000
set_option linter.unusedVariables false

theorem gd_at {xs : List (Int × Bool)} {i : Nat} (h : i < xs.length) : xs.getD i (0, false) = xs[i] := by
  rw [List.getD_eq_getElem?_getD, List.getElem?_eq_getElem h]; rfl
theorem mv_at {xs : List (Int × Bool)} (h : mv xs = true) {i : Nat} (hi : i < xs.length) : vd (xs.getD i (0, false)).1 (xs.getD i (0, false)).2 = true := by
  unfold mv at h
  rw [Bool.and_eq_true] at h
  rw [gd_at hi]
  exact allv_at h.2 (List.getElem?_eq_getElem hi)
theorem mv_len {xs : List (Int × Bool)} (h : mv xs = true) : xs.length ≤ 24 := by
  unfold mv at h
  rw [Bool.and_eq_true] at h
  exact of_decide_eq_true h.1
theorem mv_mk {xs : List (Int × Bool)} (h : xs.length ≤ 24) (g : ∀ i, i < xs.length → vd (xs.getD i (0, false)).1 (xs.getD i (0, false)).2 = true) : mv xs = true := by
  unfold mv allv
  rw [Bool.and_eq_true]
  refine ⟨decide_eq_true h, List.all_eq_true.2 fun t ht => ?_⟩
  obtain ⟨i, hi, rfl⟩ := List.mem_iff_getElem.1 ht
  have := g i hi
  rw [gd_at hi] at this
  exact this
theorem mv_rvd {xs : List (Int × Bool)} (h : mv xs = true) : mv xs.reverse = true := by
  simp [mv, allv] at h ⊢; exact h
theorem difs_at2 (d : Int → Bool → Int → Bool → Int) (xs : List (Int × Bool)) {k n : Nat} (h : k < n) : (difs d xs n).getD k 0 = d (xs.getD k (0, false)).1 (xs.getD k (0, false)).2 (xs.getD (k + 1) (0, false)).1 (xs.getD (k + 1) (0, false)).2 := by
  simp [difs, List.getD_eq_getElem?_getD, h]
theorem rvd_at {xs : List (Int × Bool)} {i j : Nat} (h : i + 1 + j = xs.length) : xs.reverse.getD i (0, false) = xs.getD j (0, false) := by
  rw [List.getD_eq_getElem?_getD, List.getD_eq_getElem?_getD, List.getElem?_reverse (by omega)]
  congr 2; omega

/-- ys is xs with each tone k steps and z semitones higher -/
structure Mvd (k z : Int) (xs ys : List (Int × Bool)) : Prop where
  len : xs.length = ys.length
  vx : mv xs = true
  vy : mv ys = true
  at_ : ∀ i, i < xs.length → (ys.getD i (0, false)).1 = (xs.getD i (0, false)).1 + k ∧ hgt (ys.getD i (0, false)).1 (ys.getD i (0, false)).2 = hgt (xs.getD i (0, false)).1 (xs.getD i (0, false)).2 + z
theorem Mvd.refl {xs : List (Int × Bool)} (h : mv xs = true) : Mvd 0 0 xs xs := ⟨rfl, h, h, fun i hi => ⟨(Int.add_zero _).symm, (Int.add_zero _).symm⟩⟩
theorem Mvd.symm {k z : Int} {xs ys : List (Int × Bool)} (h : Mvd k z xs ys) : Mvd (-k) (-z) ys xs :=
  ⟨h.len.symm, h.vy, h.vx, fun i hi => by
    obtain ⟨a, b⟩ := h.at_ i (by rw [h.len]; exact hi)
    exact ⟨by omega, by omega⟩⟩
theorem Mvd.trans {k z k' z' : Int} {xs ys zs : List (Int × Bool)} (h : Mvd k z xs ys) (g : Mvd k' z' ys zs) : Mvd (k + k') (z + z') xs zs :=
  ⟨h.len.trans g.len, h.vx, g.vy, fun i hi => by
    obtain ⟨a, b⟩ := h.at_ i hi
    obtain ⟨c, d⟩ := g.at_ i (by rw [← h.len]; exact hi)
    exact ⟨by omega, by omega⟩⟩
theorem Mvd.rev {k z : Int} {xs ys : List (Int × Bool)} (h : Mvd k z xs ys) : Mvd k z xs.reverse ys.reverse :=
  ⟨by simp [h.len], mv_rvd h.vx, mv_rvd h.vy, fun i hi => by
    rw [List.length_reverse] at hi
    have hl := h.len
    rw [rvd_at (xs := xs) (j := xs.length - 1 - i) (by omega), rvd_at (xs := ys) (j := xs.length - 1 - i) (by omega)]
    exact h.at_ _ (by omega)⟩
theorem Mvd.same {k z : Int} {xs ys : List (Int × Bool)} (h : Mvd k z xs ys) : msame xs ys = true := by
  have e : ∀ d : Int → Bool → Int → Bool → Int, (∀ i, i + 1 < xs.length → d (xs.getD i (0, false)).1 (xs.getD i (0, false)).2 (xs.getD (i + 1) (0, false)).1 (xs.getD (i + 1) (0, false)).2 = d (ys.getD i (0, false)).1 (ys.getD i (0, false)).2 (ys.getD (i + 1) (0, false)).1 (ys.getD (i + 1) (0, false)).2) →
      ieq (difs d xs (xs.length - 1)) (difs d ys (xs.length - 1)) = true := fun d hd =>
    ieq_all (by rw [difs_len, difs_len]) (fun i hi => by
      rw [difs_len] at hi
      rw [difs_at2 d _ hi, difs_at2 d _ hi]
      exact hd i (by omega))
  have hl := h.len
  have e1 : ieq (semisOf xs) (semisOf ys) = true := by
    unfold semisOf
    rw [mvl_yes h.vx, mvl_yes h.vy, ← h.len]
    refine e sem fun i hi => ?_
    rw [sem_yes (mv_at h.vx (by omega)) (mv_at h.vx hi), sem_yes (mv_at h.vy (by omega)) (mv_at h.vy (by omega))]
    have a := h.at_ i (by omega)
    have b := h.at_ (i + 1) hi
    omega
  have e2 : ieq (stepsOf xs) (stepsOf ys) = true := by
    unfold stepsOf
    rw [mvl_yes h.vx, mvl_yes h.vy, ← h.len]
    refine e stp fun i hi => ?_
    rw [stp_yes (mv_at h.vx (by omega)) (mv_at h.vx hi), stp_yes (mv_at h.vy (by omega)) (mv_at h.vy (by omega))]
    have a := h.at_ i (by omega)
    have b := h.at_ (i + 1) hi
    omega
  rw [msame_5 h.vx h.vy h.len e1, e2]
theorem same_mvd {xs ys : List (Int × Bool)} (h : msame xs ys = true) : ∃ z, Mvd ((ys.getD 0 (0, false)).1 - (xs.getD 0 (0, false)).1) z xs ys := by
  unfold msame at h
  rw [Bool.and_eq_true, Bool.and_eq_true, Bool.and_eq_true, Bool.and_eq_true] at h
  obtain ⟨⟨⟨⟨h1, h2⟩, h3⟩, h4⟩, h5⟩ := h
  have hl : xs.length = ys.length := of_decide_eq_true h3
  have e4 : semisOf xs = semisOf ys := of_decide_eq_true h4
  have e5 : stepsOf xs = stepsOf ys := of_decide_eq_true h5
  unfold semisOf at e4
  unfold stepsOf at e5
  rw [mvl_yes h1, mvl_yes h2] at e4 e5
  refine ⟨hgt (ys.getD 0 (0, false)).1 (ys.getD 0 (0, false)).2 - hgt (xs.getD 0 (0, false)).1 (xs.getD 0 (0, false)).2, hl, h1, h2, fun i => ?_⟩
  induction i with
  | zero => intro hi; exact ⟨by omega, by omega⟩
  | succ j ih =>
    intro hi
    obtain ⟨a, b⟩ := ih (by omega)
    have p := congrArg (fun l => l.getD j 0) e4
    have q := congrArg (fun l => l.getD j 0) e5
    (try dsimp only at p q)
    rw [difs_at2 sem _ (by omega), difs_at2 sem _ (by omega), sem_yes (mv_at h1 (by omega)) (mv_at h1 hi), sem_yes (mv_at h2 (by omega)) (mv_at h2 (by omega))] at p
    rw [difs_at2 stp _ (by omega), difs_at2 stp _ (by omega), stp_yes (mv_at h1 (by omega)) (mv_at h1 hi), stp_yes (mv_at h2 (by omega)) (mv_at h2 (by omega))] at q
    exact ⟨by omega, by omega⟩

theorem cnd_in {k z : Int} {c : Bool} {t : Int × Bool} (h : cnd k z c t = true) : abv t.1 t.2 k c = true ∧ hgt (t.1 + k) c - hgt t.1 t.2 = z := by
  unfold cnd at h
  rw [Bool.and_eq_true] at h
  exact ⟨h.1, eq_of_beq h.2⟩
theorem tmo_facts {k z : Int} {t : Int × Bool} (h : tmo k z t = true) : vd t.1 t.2 = true ∧ vd (tmv k z t).1 (tmv k z t).2 = true ∧ (tmv k z t).1 = t.1 + k ∧ hgt (tmv k z t).1 (tmv k z t).2 = hgt t.1 t.2 + z := by
  by_cases h0 : cnd k z false t = true
  · obtain ⟨a, b⟩ := cnd_in h0
    obtain ⟨c, d, e, f⟩ := abv_vd a
    have et : tmv k z t = (t.1 + k, false) := by unfold tmv; rw [h0]; rfl
    rw [et]
    exact ⟨c, d, rfl, by show hgt (t.1 + k) false = _; omega⟩
  · rw [Bool.not_eq_true] at h0
    have h1 : cnd k z true t = true := by unfold tmo at h; rw [h0, Bool.false_or] at h; exact h
    obtain ⟨a, b⟩ := cnd_in h1
    obtain ⟨c, d, e, f⟩ := abv_vd a
    have et : tmv k z t = (t.1 + k, true) := by unfold tmv; rw [h0]; rfl
    rw [et]
    exact ⟨c, d, rfl, by show hgt (t.1 + k) true = _; omega⟩
theorem tmo_of {k z : Int} {t u : Int × Bool} (hv : vd t.1 t.2 = true) (hu : vd u.1 u.2 = true) (h0 : -20 ≤ k) (h1 : k ≤ 20) (e : u.1 = t.1 + k) (g : hgt u.1 u.2 = hgt t.1 t.2 + z) : cnd k z u.2 t = true := by
  unfold cnd
  rw [Bool.and_eq_true]
  rw [e] at hu g
  exact ⟨ab_all hv h0 h1 hu, by rw [beq_iff_eq]; omega⟩
theorem cnd_tmo {k z : Int} {c : Bool} {t : Int × Bool} (h : cnd k z c t = true) : tmo k z t = true := by
  unfold tmo
  cases c
  · rw [h, Bool.true_or]
  · rw [h, Bool.or_true]
theorem mvd_map {k z : Int} {xs : List (Int × Bool)} (hm : mv xs = true) (h : xs.all (tmo k z) = true) : Mvd k z xs (xs.map (tmv k z)) := by
  have hg : ∀ i, i < xs.length → (xs.map (tmv k z)).getD i (0, false) = tmv k z (xs.getD i (0, false)) := fun i hi => by
    simp [List.getD_eq_getElem?_getD, hi]
  have hf : ∀ i, i < xs.length → tmo k z (xs.getD i (0, false)) = true := fun i hi => by
    rw [gd_at hi]; exact List.all_eq_true.1 h _ (List.getElem_mem hi)
  refine ⟨by simp, hm, mv_mk (by rw [List.length_map]; exact mv_len hm) (fun i hi => ?_), fun i hi => ?_⟩
  · rw [List.length_map] at hi
    rw [hg i hi]
    exact (tmo_facts (hf i hi)).2.1
  · rw [hg i hi]
    exact (tmo_facts (hf i hi)).2.2
theorem mmB_mv {k : Int} {xs : List (Int × Bool)} (h : mmB k xs = true) : mv xs = true := by
  unfold mmB at h
  rw [Bool.and_eq_true] at h
  exact h.1
theorem mm_mvd {k : Int} {xs : List (Int × Bool)} (h : mmB k xs = true) : ∃ z, Mvd k z xs (mmL k xs) := by
  have hm := mmB_mv h
  cases xs with
  | nil => exact ⟨0, by rw [(mm_nil k).1]; exact ⟨rfl, hm, hm, fun i hi => by simp at hi⟩⟩
  | cons t r =>
    have key : ∀ c, hitc k c (t :: r) = true → ∃ z, Mvd k z (t :: r) (mvz k c (t :: r)) := fun c hc => by
      have hc2 : (abv t.1 t.2 k c && (t :: r).all (tmo k (hgt (t.1 + k) c - hgt t.1 t.2))) = true := hc
      rw [Bool.and_eq_true] at hc2
      exact ⟨hgt (t.1 + k) c - hgt t.1 t.2, mvd_map hm hc2.2⟩
    by_cases h0 : hitc k false (t :: r) = true
    · rw [(mm_hit0 hm h0).1]; exact key false h0
    · rw [Bool.not_eq_true] at h0
      by_cases h1 : hitc k true (t :: r) = true
      · rw [(mm_hit1 hm h0 h1).1]; exact key true h1
      · rw [Bool.not_eq_true] at h1
        rw [(mm_miss hm h0 h1).2] at h
        cases h
theorem Mvd.mm {k z : Int} {xs ys : List (Int × Bool)} (h : Mvd k z xs ys) : mmB k xs = true := by
  cases xs with
  | nil => exact (mm_nil k).2
  | cons t r =>
    have hl := h.len
    have hx0 := mv_at h.vx (i := 0) (by simp)
    have hy0 := mv_at h.vy (i := 0) (by rw [← h.len]; simp)
    obtain ⟨a, b⟩ := h.at_ 0 (by simp)
    have e0 : (t :: r).getD 0 (0, false) = t := rfl
    rw [e0] at hx0 a b
    have b1 := vd_in hx0
    have b2 := vd_in hy0
    have hk0 : -20 ≤ k := by omega
    have hk1 : k ≤ 20 := by omega
    have hall : (t :: r).all (tmo k z) = true := List.all_eq_true.2 fun u hu => by
      obtain ⟨i, hi, rfl⟩ := List.mem_iff_getElem.1 hu
      obtain ⟨p, q⟩ := h.at_ i hi
      have v1 := mv_at h.vx hi
      have v2 := mv_at h.vy (i := i) (by rw [← h.len]; exact hi)
      rw [gd_at hi] at p q v1
      exact cnd_tmo (tmo_of v1 v2 hk0 hk1 p q)
    have hc := tmo_of hx0 hy0 hk0 hk1 a b
    generalize (ys.getD 0 (0, false)).2 = c at hc
    obtain ⟨c1, c2⟩ := cnd_in hc
    have hh : hitc k c (t :: r) = true := hitc_yes c1 (by rw [c2]; exact hall)
    show (mv (t :: r) && ((t :: r).isEmpty || (hitc k false (t :: r) || hitc k true (t :: r)))) = true
    rw [h.vx]
    cases c
    · rw [hh]; rfl
    · rw [hh, Bool.or_true, Bool.or_true]; rfl

theorem mm_len {k : Int} {xs : List (Int × Bool)} (h : mmB k xs = true) : (mmL k xs).length = xs.length := by
  obtain ⟨z, hM⟩ := mm_mvd h
  exact hM.len.symm
/-- a moved melody moves back -/
theorem mm_there_back {k : Int} {xs : List (Int × Bool)} (h : mmB k xs = true) : mmB (-k) (mmL k xs) = true ∧ msame xs (mmL k xs) = true ∧ msame xs (mmL (-k) (mmL k xs)) = true ∧ (mmL (-k) (mmL k xs)).length = xs.length ∧ mv xs = true ∧ mv (mmL k xs) = true ∧
    ∀ i, i < xs.length → ((mmL k xs).getD i (0, false)).1 = (xs.getD i (0, false)).1 + k ∧ ((mmL (-k) (mmL k xs)).getD i (0, false)).1 = (xs.getD i (0, false)).1 ∧ 0 ≤ (xs.getD i (0, false)).1 ∧ (xs.getD i (0, false)).1 ≤ 20 ∧ 0 ≤ (xs.getD i (0, false)).1 + k ∧ (xs.getD i (0, false)).1 + k ≤ 20 := by
  obtain ⟨z, hM⟩ := mm_mvd h
  have hB := hM.symm.mm
  obtain ⟨z', hN⟩ := mm_mvd hB
  have hT := hM.trans hN
  refine ⟨hB, hM.same, hT.same, hT.len.symm, hM.vx, hM.vy, fun i hi => ?_⟩
  have a := (hM.at_ i hi).1
  have b := (hT.at_ i hi).1
  have c := vd_in (mv_at hM.vx hi)
  have d := vd_in (mv_at hM.vy (i := i) (by rw [← hM.len]; exact hi))
  exact ⟨a, by omega, c.1, c.2, by omega, by omega⟩
/-- melodies that are the same are moved -/
theorem same_moved {xs ys : List (Int × Bool)} (h : msame xs ys = true) : mv xs = true ∧ mv ys = true ∧ xs.length = ys.length ∧ msame ys xs = true ∧ msame xs.reverse ys.reverse = true ∧ msame xs xs = true ∧
    mmB ((ys.getD 0 (0, false)).1 - (xs.getD 0 (0, false)).1) xs = true ∧ msame (mmL ((ys.getD 0 (0, false)).1 - (xs.getD 0 (0, false)).1) xs) ys = true := by
  obtain ⟨z, hM⟩ := same_mvd h
  have hB := hM.mm
  obtain ⟨z', hN⟩ := mm_mvd hB
  exact ⟨hM.vx, hM.vy, hM.len, hM.symm.same, hM.rev.same, (Mvd.refl hM.vx).same, hB, (hN.symm.trans hM).same⟩

theorem hgt7 (s : Int) (b : Bool) : hgt (s + 7) b = hgt s b + 12 := by
  unfold hgt
  rw [show (s + 7) % 7 = s % 7 by omega, show (s + 7) / 7 = s / 7 + 1 by omega]
  omega
theorem vd7 {s : Int} {b : Bool} (h : vd s b = true) (g : s + 7 ≤ 20) : vd (s + 7) b = true := by
  cases b <;> simp [vd] at h ⊢ <;> omega
theorem oct_no {xs : List (Int × Bool)} {i : Nat} (hi : i < xs.length) (g : 20 < (xs.getD i (0, false)).1 + 7) : mmB 7 xs = false := by
  by_cases h : mmB 7 xs = true
  · obtain ⟨z, hM⟩ := mm_mvd h
    have a := (hM.at_ i hi).1
    have d := vd_in (mv_at hM.vy (i := i) (by rw [← hM.len]; exact hi))
    omega
  · simpa using h
theorem oct_yes {xs : List (Int × Bool)} (hm : mv xs = true) (g : ∀ i, i < xs.length → (xs.getD i (0, false)).1 + 7 ≤ 20) : mmB 7 xs = true := by
  have hg : ∀ i, i < xs.length → (xs.map fun t => (t.1 + 7, t.2)).getD i (0, false) = ((xs.getD i (0, false)).1 + 7, (xs.getD i (0, false)).2) := fun i hi => by
    simp [List.getD_eq_getElem?_getD, hi]
  have hM : Mvd 7 12 xs (xs.map fun t => (t.1 + 7, t.2)) := by
    refine ⟨by simp, hm, mv_mk (by rw [List.length_map]; exact mv_len hm) (fun i hi => ?_), fun i hi => ?_⟩
    · rw [List.length_map] at hi
      rw [hg i hi]
      exact vd7 (mv_at hm hi) (g i hi)
    · rw [hg i hi]
      exact ⟨rfl, hgt7 _ _⟩
  exact hM.mm
theorem vd_hardly {s : Int} {b : Bool} (h : vd s b = true) (g : ¬ s % 7 = 2) : b = false := by
  cases b
  · rfl
  · exact absurd (vd_soft h) g
theorem hgt_b (s : Int) : hgt s true = hgt s false - 1 := by unfold hgt; simp
theorem oct_soft {xs : List (Int × Bool)} {j : Nat} (h : mmB 7 xs = true) (hj : j < xs.length) (hb : ¬ (xs.getD j (0, false)).1 % 7 = 2) : ∀ i, i < xs.length → ((mmL 7 xs).getD i (0, false)).2 = (xs.getD i (0, false)).2 := by
  obtain ⟨z, hM⟩ := mm_mvd h
  have hz : z = 12 := by
    obtain ⟨a, b⟩ := hM.at_ j hj
    have v1 := mv_at hM.vx hj
    have v2 := mv_at hM.vy (i := j) (by rw [← hM.len]; exact hj)
    have f1 := vd_hardly v1 hb
    have f2 := vd_hardly v2 (by rw [a]; omega)
    rw [f1, f2, a, hgt7] at b
    omega
  subst hz
  intro i hi
  obtain ⟨a, b⟩ := hM.at_ i hi
  rw [a, hgt7] at b
  generalize ((mmL 7 xs).getD i (0, false)).2 = p at b
  generalize (xs.getD i (0, false)).2 = q at b
  have e := hgt_b (xs.getD i (0, false)).1
  cases p <;> cases q
  · rfl
  · omega
  · omega
  · rfl
end Go.Proofs.YticapinlnlpbpaaDoor
