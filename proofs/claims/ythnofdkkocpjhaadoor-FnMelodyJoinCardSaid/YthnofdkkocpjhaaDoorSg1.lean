/-
  Songs as linked lists in the program: what hangs on a pointer, a song with a tone ahead, its steps.
-/
import Derived.Test.YthnofdkkocpjhaaDoorSbm
import Derived.Test.YthnofdkkocpjhaaDoorIb
import Derived.Test.YthnofdkkocpjhaaDoorMelT
namespace Go.Proofs.YthnofdkkocpjhaaDoor
open Go.RowKit
set_option maxRecDepth 100000
set_option linter.unusedVariables false

/-- the song that hangs on a pointer -/
def Sg (w : World) (lo : Nat) : Option Addr → List Int → Prop
  | p, [] => p = none
  | p, h :: r => ∃ B q, p = some ⟨B, 0, none⟩ ∧ lo ≤ B ∧ w.heap[B]? = some (.cells #[.int .i64 h, .int .i64 ((chs (h :: r) : Nat) : Int), .pointer q] 66 (0, 0)) ∧ Sg w lo q r
/-- all songs stay as they are -/
def SgKept (w w' : World) : Prop := ∀ (B : Nat) (cs : Array Value) (f : Nat × Nat), w.heap[B]? = some (.cells cs 66 f) → w'.heap[B]? = some (.cells cs 66 f)
theorem Sg.kept {w w' : World} {lo : Nat} {p : Option Addr} {l : List Int} (h : Sg w lo p l) (hk : SgKept w w') : Sg w' lo p l := by
  induction l generalizing p with
  | nil => exact h
  | cons t r ih =>
    obtain ⟨B, q, hp, hlo, hh, hr⟩ := h
    exact ⟨B, q, hp, hlo, hk B _ _ hh, ih hr⟩
theorem SgKept.trans {w w1 w2 : World} (h : SgKept w w1) (k : SgKept w1 w2) : SgKept w w2 := fun B cs f hh => k B cs f (h B cs f hh)
theorem SgKept.refl (w : World) : SgKept w w := fun _ _ _ h => h
theorem heap_lt {w : World} {B : Nat} {o : Obj} (h : w.heap[B]? = some o) : B < w.heap.size := by
  rcases Nat.lt_or_ge B w.heap.size with g | g
  · exact g
  · rw [Array.getElem?_eq_none g] at h; cases h
theorem SgKept.below {w w' : World} (hb : Below w.heap.size w w') : SgKept w w' := fun B cs f hh => (hb.block B (heap_lt hh)).trans hh
theorem Sg.below {w w' : World} {lo : Nat} {p : Option Addr} {l : List Int} (h : Sg w lo p l) (hb : Below w.heap.size w w') : Sg w' lo p l := h.kept (.below hb)
theorem Sg.mono {w : World} {lo lo' : Nat} {p : Option Addr} {l : List Int} (h : Sg w lo p l) (hl : lo' ≤ lo) : Sg w lo' p l := by
  induction l generalizing p with
  | nil => exact h
  | cons t r ih =>
    obtain ⟨B, q, hp, hlo, hh, hr⟩ := h
    exact ⟨B, q, hp, Nat.le_trans hl hlo, hh, ih hr⟩
theorem Sg.nil_iff {w : World} {lo : Nat} {p : Option Addr} {l : List Int} (h : Sg w lo p l) : p = none ↔ l = [] := by
  cases l with
  | nil => exact ⟨fun _ => rfl, fun _ => h⟩
  | cons t r => obtain ⟨B, q, hp, _⟩ := h; simp [hp]
/-- the first step's cells -/
theorem Sg.head {w : World} {lo : Nat} {p : Option Addr} {h : Int} {r : List Int} (k : Sg w lo p (h :: r)) : ∃ B q, p = some ⟨B, 0, none⟩ ∧ lo ≤ B ∧ B < w.heap.size ∧ w.cell? ⟨B, 0, none⟩ = some (.int .i64 h) ∧ w.cell? ⟨B, 1, none⟩ = some (.int .i64 ((chs (h :: r) : Nat) : Int)) ∧ w.cell? ⟨B, 2, none⟩ = some (.pointer q) ∧ Sg w lo q r := by
  obtain ⟨B, q, hp, hlo, hh, hr⟩ := k
  exact ⟨B, q, hp, hlo, heap_lt hh, by simp [World.cell?, hh], by simp [World.cell?, hh], by simp [World.cell?, hh], hr⟩
theorem Sg.app {w w1 w2 : World} {lo : Nat} {p : Option Addr} {l : List Int} {v : Value} {xs : List Int} {o : Obj} (h : Sg w1 lo p l) (hi : IbInv w w1 v xs) (hg : (w1.alloc o).grownBy w2 v.ownBlock) : Sg w2 lo p l := by
  refine h.kept fun B cs f hh => ?_
  have hne : some B ≠ v.ownBlock := by
    intro e
    obtain ⟨_, h1 | ⟨g, cap, cur, rfl, _, hh2, _⟩⟩ := hi.own
    · rw [h1.1] at e; simp [Value.ownBlock] at e
    · have e' : g = B := by simpa [Value.ownBlock] using e.symm
      subst e'
      rw [hh] at hh2
      injection hh2 with hh2
      injection hh2 with _ ht
      exact absurd ht (by decide)
  exact (hg.block B (Nat.lt_of_lt_of_le (heap_lt hh) (by simp)) hne).trans ((heap_alloc_old w1 _ (heap_lt hh)).trans hh)

def NewSg (w : World) (h : Int) (p : Option Addr) (r : List Int) (e : Ending) (w' : World) : Prop :=
  ∃ B, e = .returned (.pointer (some ⟨B, 0, none⟩)) ∧ w.heap.size ≤ B ∧ w'.heap[B]? = some (.cells #[.int .i64 h, .int .i64 ((chs (h :: r) : Nat) : Int), .pointer p] 66 (0, 0)) ∧ Below w.heap.size w w'
theorem NewSg.sg {w w' : World} {h : Int} {p : Option Addr} {r : List Int} {B lo : Nat} (hh : w'.heap[B]? = some (.cells #[.int .i64 h, .int .i64 ((chs (h :: r) : Nat) : Int), .pointer p] 66 (0, 0))) (hb : Below w.heap.size w w') (hB : w.heap.size ≤ B) (hl : lo ≤ w.heap.size) (hr : Sg w lo p r) : Sg w' lo (some ⟨B, 0, none⟩) (h :: r) :=
  ⟨B, p, rfl, Nat.le_trans hl hB, hh, hr.below hb⟩

set_option maxHeartbeats 4000000 in
theorem newSong_any (h : Int) (p : Option Addr) (r : List Int) (lo : Nat) (w : World) (hs : Sg w lo p r) (hl : r.length ≤ 1000) :
    Calls Tryd.prog 41 #[.int .i64 h, .pointer p] w (NewSg w h p r) := by
  cases r with
  | nil =>
    have hp : p = none := hs
    subst hp
    clear hs
    have HE : Hid (NewSg w h none [] (.returned (.pointer (some ⟨w.heap.size, 0, none⟩))) (w.alloc (.cells #[.int .i64 h, .int .i64 0, .pointer none] 66))) :=
      ⟨w.heap.size, rfl, Nat.le_refl _, heap_alloc_new w _, (Below.refl _ _).alloc (Nat.le_refl _) _⟩
    go_enter Tryd.func41, Tryd.ntmps41
    go_wp2
    go_ret
    exact HE.out
  | cons b r =>
    obtain ⟨B, q, rfl, hlo, hB, c0, c1, c2, hr⟩ := hs.head
    have hch := chs_le (b :: r)
    simp only [List.length_cons] at hch hl
    clear hr hs
    by_cases e : h = b
    · have g : (b != h) = false := by simp [e]
      have hc : chs (h :: b :: r) = chs (b :: r) := by simp [chs, chg, e]
      have HE : Hid (∀ m : Int, m = ((chs (b :: r) : Nat) : Int) → NewSg w h (some ⟨B, 0, none⟩) (b :: r) (.returned (.pointer (some ⟨w.heap.size, 0, none⟩))) (w.alloc (.cells #[.int .i64 h, .int .i64 m, .pointer (some ⟨B, 0, none⟩)] 66))) := fun m hm => by
        refine ⟨w.heap.size, rfl, Nat.le_refl _, ?_, (Below.refl _ _).alloc (Nat.le_refl _) _⟩
        rw [hc, ← hm]
        exact heap_alloc_new w _
      clear e hc
      generalize hm : ((chs (b :: r) : Nat) : Int) = m at c1 HE
      clear hm
      go_enter Tryd.func41, Tryd.ntmps41
      go_wp2
      go_ret
      exact HE.out m rfl
    · have g : (b != h) = true := by simp; exact fun x => e x.symm
      have hc : chs (h :: b :: r) = chs (b :: r) + 1 := by simp [chs, chg, e]; omega
      have HE : Hid (∀ m : Int, m = ((chs (b :: r) : Nat) : Int) → NewSg w h (some ⟨B, 0, none⟩) (b :: r) (.returned (.pointer (some ⟨w.heap.size, 0, none⟩))) (w.alloc (.cells #[.int .i64 h, .int .i64 (m + 1), .pointer (some ⟨B, 0, none⟩)] 66))) := fun m hm => by
        refine ⟨w.heap.size, rfl, Nat.le_refl _, ?_, (Below.refl _ _).alloc (Nat.le_refl _) _⟩
        rw [hc, Int.natCast_add, ← hm]
        exact heap_alloc_new w _
      clear e hc
      generalize hm : ((chs (b :: r) : Nat) : Int) = m at c1 HE
      have m1 : IntKind.i64.wrap (m + 1) = m + 1 := IntWalk.i64_in _ (by omega)
      clear hm
      go_enter Tryd.func41, Tryd.ntmps41
      go_wp2
      go_ret
      exact HE.out m rfl

set_option maxHeartbeats 4000000 in
theorem songSteps_any (p : Option Addr) (l : List Int) (lo : Nat) (w : World) (h : Sg w lo p l) (hl : l.length ≤ 1000) :
    Calls Tryd.prog 29 #[.pointer p] w (IbMade w l) := by
  obtain ⟨i0, hi, hq0, hq1, hq2⟩ := info_parts infoIb
  have HS := Lib.hid (IbInv.start w)
  have h1 : Sg (w.alloc (.cells #[] 3)) lo p l := h.below ((Below.refl _ _).alloc (Nat.le_refl _) _)
  clear h
  go_enter Tryd.func29, Tryd.ntmps29
  go_wp2
  go_loopg [0, 3] l.length (fun k m v wr => ∃ j, j + k = l.length ∧ (∃ q, m = .pointer q ∧ Sg wr lo q (l.drop j)) ∧ IbInv w wr v (l.take j))
  case atStart => exact ⟨0, by omega, ⟨_, rfl, by simpa using h1⟩, by simpa using HS.out⟩
  case round =>
    obtain ⟨j, hj, ⟨q, rfl, hm⟩, hinv⟩ := hrel
    by_cases hlt : j < l.length
    · have hd : l.drop j = l[j] :: l.drop (j + 1) := List.drop_eq_getElem_cons hlt
      have ht : l.take (j + 1) = l.take j ++ [l[j]] := by rw [List.take_add_one, List.getElem?_eq_getElem hlt]; rfl
      rw [hd] at hm
      clear hd
      have HT := Lib.hid ht
      clear ht
      generalize l[j] = t at hm HT
      obtain ⟨B, q', rfl, hlo, hh, hr⟩ := hm
      have c0 : wr.cell? ⟨B, 0, none⟩ = some (.int .i64 t) := by simp [World.cell?, hh]
      have HH := Lib.hid hh
      have HR := Lib.hid hr
      have HI := Lib.hid hinv
      have hown := hinv.own
      have HJ := Lib.hid hj
      have hlt2 : (l.take j).length = j := by simp; omega
      rw [hlt2] at hown
      clear hr hh hinv hj
      go_wp2_with (at_builtin; refine wpList_append_own _ rfl _ _ 29 rfl w.heap.size 3 i0 (.int .i64 0) 1 8 Tryd.underlying29 hi hq0 hq1 hq2 rfl (by decide) _ _ _ rfl (hown.alloc _) ⟨wr.heap.size, 0, none⟩ 1 1 [.int .i64 t] rfl rfl ?c1 ?c2 ?c3 ?c4 ?c5 ?_)
      case c1 =>
        intro j u hj
        match j, hj with
        | 0, hj => simp at hj; subst hj; simp [Addr.add]
      case c2 => intro u hu; simp at hu; subst hu; rfl
      case c3 => unfold maxLen; omega
      case c4 => omega
      case c5 => have := HI.out.bl.size; simp; omega
      intro v' w2 hown' hgrow _
      have hh2 := app_blk (by decide) HH.out HI.out.own hgrow
      have d2 : w2.cell? ⟨B, 2, none⟩ = some (.pointer q') := by simp [World.cell?, hh2]
      clear hh2
      have hI2 := HI.out.app (by rw [hlt2, List.map_take]; exact hown') hgrow
      have HR2 := Lib.hid (HR.out.app HI.out hgrow)
      rw [← HT.out] at hI2
      have HI2 := Lib.hid hI2
      clear hown hown' hgrow hI2
      go_wp2
      have hj := HJ.out
      go_roundg (gk - 1)
      case measure => omega
      case rel => exact ⟨j + 1, by omega, ⟨_, rfl, HR2.out⟩, HI2.out⟩
    · have hj0 : j = l.length := by omega
      subst hj0
      have hp : q = none := by simpa [Sg] using hm
      subst hp
      have HE := Lib.hid hinv.built
      rw [List.take_length] at HE
      clear hm hinv
      go_wp2
      go_ret
      exact HE.out
end Go.Proofs.YthnofdkkocpjhaaDoor
