/-
  The list that sings a melody with the fewest mutations: the model's.
-/
import Derived.Test.YtbmgejiinnnomabSg7
namespace Go.Proofs.Ytbmgejiinnnomab
open Go.RowKit
set_option maxRecDepth 100000
set_option linter.unusedVariables false

def co (o : Option Int) (k : Int) : Nat := match o with | none => 0 | some h => chg h k
/-- the best list behind what has been sung -/
def gs (o : Option Int) : List (Int × Bool) → List Int
  | [] => []
  | t :: r => bstI (fun k => few (t :: r) k + co o k) (hx t) :: gre r (bstI (fun k => few (t :: r) k + co o k) (hx t))
theorem gs_some (h : Int) (r : List (Int × Bool)) : gs (some h) r = gre r h := by cases r <;> rfl
theorem gs_none (xs : List (Int × Bool)) : gs none xs = sgb xs := by cases xs <;> rfl
def bi (o : Option (Int × Nat)) : Int := match o with | none => -1 | some p => p.1
theorem bst_from (f : Int → Nat) (l : List Int) {p : Int × Nat} (h : bst f l = some p) : p.1 ∈ l := by
  rcases bst_spec f l with ⟨_, h1⟩ | ⟨a, b, k, h1, h2, _, _⟩
  · rw [h1] at h; cases h
  · rw [h2] at h
    injection h with h
    rw [← h, h1]
    simp
theorem hall_in {s : Int} {b : Bool} {n : Nat} {x : Int} (h : x ∈ hall s b n) : 0 ≤ x := by
  have := (List.mem_filter.1 h).1
  obtain ⟨i, _, rfl⟩ := List.mem_map.1 this
  omega

theorem IbInv.built2 {w wr : World} {v : Value} {xs : List Int} {ok : Bool} (h : IbInv w wr v xs) : IMade2 w xs ok (.returned (.tuple #[v, .bool ok])) wr :=
  ⟨v, rfl, ⟨h.own, fun g hg => (own_ltb h.own hg).2⟩, h.bl⟩
/-- the finished table: its rows lie behind O and below hi -/
def Ft (w : World) (O n hi : Nat) (T : Nat → Nat → Int) : Prop :=
  O < hi ∧ ∃ cur : Array Value, w.heap[O]? = some (.cells cur 25 (0, 0)) ∧ cur.size = n ∧ ∀ j : Nat, j < n → ∃ g, O < g ∧ g < hi ∧ cur[j]? = some (.slice (some ⟨g, 0, none⟩) 21 21) ∧ FR w g 21 21 (T j)
theorem Fw.ft {w : World} {O n : Nat} {T : Nat → Nat → Int} (h : Fw w O n 0 T) : Ft w O n w.heap.size T := by
  obtain ⟨cur, hh, hs, hc⟩ := h
  refine ⟨heap_lt hh, cur, hh, hs, fun j hj => ?_⟩
  obtain ⟨g, ho, hg, hf⟩ := hc j (Nat.zero_le _) hj
  exact ⟨g, ho, hf.lt, hg, hf⟩
theorem Ft.kept {w w' : World} {O n hi : Nat} {T : Nat → Nat → Int} (h : Ft w O n hi T) (hk : ∀ k, O ≤ k → k < hi → w'.heap[k]? = w.heap[k]?) : Ft w' O n hi T := by
  obtain ⟨h0, cur, hh, hs, hc⟩ := h
  refine ⟨h0, cur, (hk O (Nat.le_refl _) h0).trans hh, hs, fun j hj => ?_⟩
  obtain ⟨g, ho, hg, hj, hf⟩ := hc j hj
  exact ⟨g, ho, hg, hj, hf.keep (hk g (by omega) hg)⟩
theorem Ft.at_ {w : World} {O n hi i k : Nat} {T : Nat → Nat → Int} (h : Ft w O n hi T) (hn : i < n) (hk : k < 21) : ∃ g, w.cell? ⟨O, i, none⟩ = some (.slice (some ⟨g, 0, none⟩) 21 21) ∧ w.cell? ⟨g, k, none⟩ = some (.int .i64 (T i k)) := by
  obtain ⟨h0, cur, hh, hs, hc⟩ := h
  obtain ⟨g, _, _, hj, hf⟩ := hc i hn
  exact ⟨g, by simp [World.cell?, hh, hj], hf.cell hk⟩

/-- what the second loop knows -/
structure Mb (w wr : World) (xs : List (Int × Bool)) (O hi : Nat) (v : Value) (outs : List Int) : Prop where
  b : IbInv w wr v outs
  t : Ft wr O xs.length hi (ft xs)
  o0 : outs = [] → v = .slice (some ⟨w.heap.size, 0, none⟩) 0 0
  o1 : outs ≠ [] → wr.ownsRow hi 3 1 v outs.length (outs.map (Value.int .i64))
  l : w.heap.size < O
  h : hi ≤ wr.heap.size
  e : outs ++ gs outs.getLast? (xs.drop outs.length) = sgb xs
theorem Mb.app {w w1 w2 : World} {xs : List (Int × Bool)} {O hi : Nat} {v v' : Value} {outs : List Int} {z : Int} {ob : Obj} (h : Mb w w1 xs O hi v outs)
    (hown : w2.ownsRow hi 3 1 v' (outs.length + 1) (outs.map (Value.int .i64) ++ [.int .i64 z])) (hg : (w1.alloc ob).grownBy w2 v.ownBlock)
    (he : (outs ++ [z]) ++ gs (some z) (xs.drop (outs.length + 1)) = sgb xs) : Mb w w2 xs O hi v' (outs ++ [z]) := by
  have hO := h.t.1
  have hl := h.l
  have hh := h.h
  have hz := hg.size
  simp at hz
  refine ⟨h.b.app (own_mono hown (by omega)) hg, h.t.kept fun k h1 h2 => ?_, fun e => by simp at e, fun _ => by simpa using hown, hl, by omega, by rw [List.getLast?_append]; simpa using he⟩
  refine (hg.block k (by simp; omega) ?_).trans (heap_alloc_old w1 ob (by omega))
  intro e
  by_cases hn : outs = []
  · rw [h.o0 hn] at e
    have : w.heap.size = k := by simpa [Value.ownBlock] using e.symm
    omega
  · have := (own_ltb (h.o1 hn) e.symm).1
    omega
theorem grown_any {w w2 : World} {r : Option Nat} (h : w.grownBy w2 none) : w.grownBy w2 r := ⟨h.os, h.tape, h.output, h.size, fun k hk _ => h.block k hk (by simp)⟩

set_option maxHeartbeats 8000000 in
theorem sSingBest_any (lo hi : Nat) (v : Value) (xs : List (Int × Bool)) (w : World) (h : TRow w lo hi v xs) :
    Calls Try.prog 9 #[v] w (IMade2 w (sbL xs) (sbB xs)) := by
  obtain ⟨i0, hi0, hq0, hq1, hq2⟩ := info_parts infoIb
  have HS := Lib.hid (IbInv.start w)
  have h1 := h.below (w' := w.alloc (.cells #[] 3)) ((Below.refl _ _).alloc (Nat.le_refl _) _) (.inr (Nat.le_refl _))
  clear h
  by_cases hv : mv xs = false
  · obtain ⟨e1, e2⟩ := sb_no1 hv
    rw [e1, e2]
    have HV := Lib.hid hv
    clear e1 e2 hv
    go_enter Try.func9, Try.ntmps9
    go_wp2_with (fail)
    (go_at_call 32; refine (sMelodyValid_any lo hi v xs _ h1).mono ?_; rintro e w1 ⟨rfl, hb1⟩)
    rw [HV.out]
    have HE : Hid (IMade2 w [] false (.returned (.tuple #[.slice (some ⟨w.heap.size, 0, none⟩) 0 0, .bool false])) w1) := (HS.out.below hb1).built2
    clear h1 hb1
    go_wp2
    go_ret2
    exact HE.out
  rw [Bool.not_eq_false] at hv
  have HV := Lib.hid hv
  have hlx : xs.length ≤ 24 := by simp [mv] at hv; exact hv.1
  obtain ⟨a, cap, rfl, hat⟩ := h1.at_
  have HA := Lib.hid hat
  have H1 := Lib.hid h1
  clear hv hat h1
  go_enter Try.func9, Try.ntmps9
  go_wp2_with (fail)
  (go_at_call 32; refine (sMelodyValid_any lo hi _ xs _ H1.out).mono ?_; rintro e w1 ⟨rfl, hb1⟩)
  rw [HV.out]
  have HI1 := Lib.hid (HS.out.below hb1)
  have HB1 := Lib.hid hb1
  clear hb1
  go_wp2
  go_loopg [5] xs.length (fun k z wr => ∃ j : Nat, j + k = xs.length ∧ z = .int .i64 (j : Int) ∧ sgo (xs.take j) = true ∧ Below (w.alloc (.cells #[] 3)).heap.size (w.alloc (.cells #[] 3)) wr)
  case atStart => exact ⟨0, by omega, rfl, rfl, HB1.out⟩
  case round =>
    clear HI1 HB1
    obtain ⟨j, hj, rfl, hgj, hb⟩ := hrel
    have HJ := Lib.hid hj
    have HB := Lib.hid hb
    by_cases hlt : j < xs.length
    · obtain ⟨s, b, hx0, hd⟩ := drop_at hlt
      obtain ⟨g, rfl, hgw, e0, e1⟩ := HA.out j s b hx0
      replace e0 := (hb.cell (p := ⟨g, j * 2, none⟩) hgw).trans e0
      replace e1 := (hb.cell (p := ⟨g, j * 2 + 1, none⟩) hgw).trans e1
      have p0 : (0 : Int) ≤ (j : Int) := by omega
      have p1 : (j : Int) < (xs.length : Int) := by omega
      have ht : xs.take (j + 1) = xs.take j ++ [(s, b)] := by rw [List.take_add_one, hx0]; rfl
      have hxs : xs = xs.take j ++ (s, b) :: xs.drop (j + 1) := by rw [← hd, List.take_append_drop]
      have HG1 : Hid (hx (s, b) = [] → sgo xs = false) := fun e => by
        rw [hxs, sgo_app]
        simp [sgo, e]
      have HG2 : Hid (hx (s, b) ≠ [] → sgo (xs.take (j + 1)) = true) := fun e => by
        rw [ht, sgo_app, hgj]
        simp [sgo, e]
      clear hb hj hgj hd hx0 ht hxs
      go_wp2_with (fail)
      (go_at_call 33; refine (sHexAll_any s b _).mono ?_; rintro e w2 ⟨u, rfl, hru, hb2⟩)
      obtain ⟨ua, uc, rfl⟩ := hru.len
      have HB2 := Lib.hid (bl_step HB.out hb2)
      have HBB := Lib.hid (bl_step ((Below.refl _ _).alloc (Nat.le_refl _) _) HB2.out)
      clear hru hb2 e0 e1
      by_cases hh : hall s b 21 = []
      · obtain ⟨e1, e2⟩ := sb_no2 (HG1.out hh)
        rw [hh]
        have HE : Hid (IMade2 w (sbL xs) (sbB xs) (.returned (.tuple #[.slice (some ⟨w2.heap.size, 0, none⟩) 0 0, .bool false])) (w2.alloc (.cells #[] 3))) := by
          rw [e1, e2]
          exact empty_row HBB.out
        clear HG1 HG2 hh e1 e2
        go_wp2
        go_ret2
        exact HE.out
      · have hn2 : ¬ (hall s b 21).length = 0 := fun e => hh (List.eq_nil_of_length_eq_zero e)
        have HG3 := Lib.hid (HG2.out hh)
        clear HG1 HG2 hh
        generalize (hall s b 21).length = nn at hn2
        have hn : ((nn : Int) == 0) = false := by rw [beq_eq_false_iff_ne]; omega
        go_wp2
        have hj := HJ.out
        go_roundg (gk - 1)
        case measure => omega
        case rel => exact ⟨j + 1, by omega, by simp, HG3.out, HB2.out⟩
    · have hj0 : j = xs.length := by omega
      subst hj0
      rw [List.take_length] at hgj
      obtain ⟨e1, e2⟩ := sb_yes HV.out hgj
      have HG := Lib.hid hgj
      have HE12 := Lib.hid (And.intro e1 e2)
      clear hb hgj e1 e2 hj
      go_wp2_with (fail)
      (go_at_call 34; refine (sFewest_any lo hi _ xs _ (H1.out.below HB.out (.inr (Nat.le_refl _))) HG.out hlx).mono ?_; rintro e w3 ⟨O, rfl, hF3, hb3, hO3⟩)
      have hM : Mb w w3 xs O w3.heap.size (.slice (some ⟨w.heap.size, 0, none⟩) 0 0) [] :=
        ⟨HS.out.below (bl_step HB.out hb3), hF3.ft, fun _ => rfl, fun h => absurd rfl h, by
          have h2 := HB.out.size
          simp at h2
          omega, Nat.le_refl _, by rw [List.nil_append]; exact gs_none xs⟩
      have HM := Lib.hid hM
      clear hM hF3 hb3 hO3
      generalize w3.heap.size = hi3 at HM
      go_wp2
      go_loopg [4, 7] xs.length (fun k y z wr => ∃ (j : Nat) (outs : List Int) (u : Value), j + k = xs.length ∧ outs.length = j ∧ u = y ∧ z = .int .i64 (j : Int) ∧ Mb w wr xs O hi3 u outs)
      case atStart => exact ⟨0, [], _, by omega, rfl, rfl, rfl, HM.out⟩
      case round =>
        clear HM
        obtain ⟨j, outs, u, hj, hlen, rfl, rfl, hM⟩ := hrel
        have HJ := Lib.hid hj
        have HL := Lib.hid hlen
        have HM := Lib.hid hM
        by_cases hlt : j < xs.length
        · obtain ⟨s, b, _, hd⟩ := drop_at hlt
          have hnn : hx (s, b) ≠ [] := (sgo_cons (sgo_drop HG.out hd)).1
          obtain ⟨F, hFd⟩ : ∃ F : Int → Nat, F = fun k => few ((s, b) :: xs.drop (j + 1)) k + co outs.getLast? k := ⟨_, rfl⟩
          have hgr := (sgo_cons (sgo_drop HG.out hd)).2
          have hrl : (xs.drop (j + 1)).length + 1 ≤ 24 := by simp; omega
          have HFx : Hid (∀ k : Nat, 0 ≤ hsy k s b → ∃ N : Nat, N ≤ 30 ∧ ft xs j k = (N : Int) ∧ F k = N + co outs.getLast? k) := fun k hk => ⟨few ((s, b) :: xs.drop (j + 1)) k, by have := few_le (t := (s, b)) hgr (k : Int); omega, by rw [ft_eq hd, if_pos hk], by rw [hFd]⟩
          have HFo : Hid (∀ k : Nat, hsy k s b < 0 → ft xs j k = -1) := fun k hk => by rw [ft_eq hd, if_neg (by omega)]
          have HFin : Hid (∃ z : Int, bst F (hall s b 21) = some (z, F z) ∧ (outs ++ [z]) ++ gs (some z) (xs.drop (j + 1)) = sgb xs) := by
            refine ⟨bstI F (hx (s, b)), (bst_in hnn).1, ?_⟩
            have := hM.e
            rw [hlen, hd] at this
            rw [gs_some, ← this, hFd, List.append_assoc]
            rfl
          have p0 : (0 : Int) ≤ (j : Int) := by omega
          have p1 : (j : Int) < (xs.length : Int) := by omega
          clear hnn hgr hrl hFd hd hM hj
          have H0 : Hid (∃ m : Nat, m + 21 = 21 ∧ (Value.int .i64 0) = .int .i64 (m : Int) ∧ (Value.int .i64 (-1)) = .int .i64 (bi (bst F (hall s b m))) ∧ (Value.int .i64 (-1)) = .int .i64 (nv (bst F (hall s b m))) ∧ wr = wr) := ⟨0, rfl, rfl, rfl, rfl, rfl⟩
          have hI : IRow wr w.heap.size wr.heap.size u outs := ⟨HM.out.b.own, fun g hg => (own_ltb HM.out.b.own hg).2⟩
          have hu : ∃ ua uc, u = .slice ua j uc := hI.sl hlen
          obtain ⟨ua, uc, rfl⟩ := hu
          have HPrev : Hid ((j = 0 ∧ outs.getLast? = none) ∨ ∃ q gv h, q + 1 = j ∧ ua = some ⟨gv, 0, none⟩ ∧ wr.cell? ⟨gv, q, none⟩ = some (.int .i64 h) ∧ outs.getLast? = some h) := by
            by_cases hj0 : j = 0
            · left
              have : outs = [] := List.eq_nil_of_length_eq_zero (by omega)
              exact ⟨hj0, by rw [this]; rfl⟩
            · right
              rcases hI.form with ⟨_, h2⟩ | ⟨gv, cap', cur, hs, _, _, _, _, _, _, _, _, hc, _⟩
              · rw [h2] at hlen; simp at hlen; omega
              · injection hs with hs1
                refine ⟨j - 1, gv, outs.getD (j - 1) 0, by omega, hs1, hc (j - 1) (by omega), ?_⟩
                rw [List.getLast?_eq_getElem?, hlen, List.getD_eq_getElem?_getD, List.getElem?_eq_getElem (by omega)]
                rfl
          clear hI
          have m1 : IntKind.i64.wrap ((j : Int) - 1) = (j : Int) - 1 := IntWalk.i64_in _ (by omega)
          go_wp2
          go_loopg [8, 9, 10] 21 (fun k x8 x9 x10 wx => ∃ m : Nat, m + k = 21 ∧ x10 = .int .i64 (m : Int) ∧ x8 = .int .i64 (bi (bst F (hall s b m))) ∧ x9 = .int .i64 (nv (bst F (hall s b m))) ∧ wr = wx)
          case atStart =>
            obtain ⟨m, a1, a2, a3, a4, _⟩ := H0.out
            exact ⟨m, a1, a2, a3, a4, rfl⟩
          case round =>
            clear H0
            obtain ⟨m, hm, rfl, rfl, rfl, rfl⟩ := hrel
            have HMm := Lib.hid hm
            by_cases hm21 : m < 21
            · obtain ⟨g, cN, cx⟩ := HM.out.t.at_ hlt hm21
              have r0 : (0 : Int) ≤ (m : Int) := by omega
              have r1 : (m : Int) < 21 := by omega
              have r2 : (m : Int) ≤ 20 := by omega
              by_cases hh : 0 ≤ hsy m s b
              · obtain ⟨N, hN, eN, eF⟩ := HFx.out m hh
                rw [eN] at cx
                have hnx := nx_hit F hh
                have d0 : decide ((N : Int) < 0) = false := by simp
                have hzz : ∀ z c, bst F (hall s b m) = some (z, c) → 0 ≤ z := fun z c e => hall_in (bst_from F _ e)
                clear eN hh hm
                rcases HPrev.out with ⟨hj0, hl0⟩ | ⟨q, gv, h, hq, hua, cq, hl1⟩
                · subst hj0
                  have HX : Hid ((N : Int) = (F m : Int)) := by
                    show (N : Int) = (F m : Int)
                    rw [eF, hl0]; simp [co]
                  clear eF hl0
                  cases ho : bst F (hall s b m) with
                  | none =>
                    have b1 : bi (none : Option (Int × Nat)) = -1 := rfl
                    have b2 : nv (none : Option (Int × Nat)) = -1 := rfl
                    rw [b1, b2]
                    have HE : Hid ((m : Int) = bi (bst F (hall s b (m + 1))) ∧ ((N : Int)) = nv (bst F (hall s b (m + 1)))) := by rw [hnx, ho]; exact ⟨rfl, HX.out⟩
                    clear b1 b2 ho HX
                    clear hzz hnx
                    go_wp2
                    have hm := HMm.out
                    go_roundg (gk - 1)
                    case measure => omega
                    case rel => exact ⟨m + 1, by omega, by simp, by rw [HE.out.1], by rw [HE.out.2], rfl⟩
                  | some p =>
                    obtain ⟨z, c⟩ := p
                    have hz0 := hzz z c ho
                    have dz : decide (z < 0) = false := by simp; omega
                    have b1 : bi (some (z, c)) = z := rfl
                    have b2 : nv (some (z, c)) = (c : Int) := rfl
                    rw [b1, b2]
                    by_cases hc : F m < c
                    · have HE : Hid ((m : Int) = bi (bst F (hall s b (m + 1))) ∧ ((N : Int)) = nv (bst F (hall s b (m + 1)))) := by
                        have : bstep F (some (z, c)) m = some ((m : Int), F m) := if_pos hc
                        rw [hnx, ho, this]; exact ⟨rfl, HX.out⟩
                      have dx : decide (((N : Int)) < (c : Int)) = true := by rw [HX.out]; simp; exact hc
                      have dx2 : ((N : Int)) < (c : Int) := by rw [HX.out]; omega
                      have dx3 : N < c := by omega
                      clear b1 b2 ho HX hc
                      clear hzz hnx
                      go_wp2
                      have hm := HMm.out
                      go_roundg (gk - 1)
                      case measure => omega
                      case rel => exact ⟨m + 1, by omega, by simp, by rw [HE.out.1], by rw [HE.out.2], rfl⟩
                    · have HE : Hid (z = bi (bst F (hall s b (m + 1))) ∧ (c : Int) = nv (bst F (hall s b (m + 1)))) := by
                        have : bstep F (some (z, c)) m = some (z, c) := if_neg hc
                        rw [hnx, ho, this]; exact ⟨rfl, rfl⟩
                      have dx : decide (((N : Int)) < (c : Int)) = false := by rw [HX.out]; simp; omega
                      have dx2 : ¬ ((N : Int)) < (c : Int) := by rw [HX.out]; omega
                      have dx3 : ¬ N < c := by omega
                      clear b1 b2 ho HX hc
                      clear hzz hnx
                      go_wp2
                      have hm := HMm.out
                      go_roundg (gk - 1)
                      case measure => omega
                      case rel => exact ⟨m + 1, by omega, by simp, by rw [HE.out.1], by rw [HE.out.2], rfl⟩
                · subst hua
                  have hjp : 0 < j := by omega
                  have hjp2 : (0 : Int) < (j : Int) := by omega
                  have mq : IntKind.i64.wrap ((j : Int) - 1) = (q : Int) := by rw [m1]; omega
                  have q0 : (0 : Int) ≤ (q : Int) := by omega
                  have q1 : (q : Int) < (j : Int) := by omega
                  clear m1 hq
                  by_cases hs : (m : Int) = h
                  · subst hs
                    have HX : Hid ((N : Int) = (F m : Int)) := by
                      show (N : Int) = (F m : Int)
                      rw [eF, hl1]; simp [co, chg]
                    clear eF hl1
                    cases ho : bst F (hall s b m) with
                    | none =>
                      have b1 : bi (none : Option (Int × Nat)) = -1 := rfl
                      have b2 : nv (none : Option (Int × Nat)) = -1 := rfl
                      rw [b1, b2]
                      have HE : Hid ((m : Int) = bi (bst F (hall s b (m + 1))) ∧ ((N : Int)) = nv (bst F (hall s b (m + 1)))) := by rw [hnx, ho]; exact ⟨rfl, HX.out⟩
                      clear b1 b2 ho HX
                      clear hzz hnx
                      go_wp2
                      have hm := HMm.out
                      go_roundg (gk - 1)
                      case measure => omega
                      case rel => exact ⟨m + 1, by omega, by simp, by rw [HE.out.1], by rw [HE.out.2], rfl⟩
                    | some p =>
                      obtain ⟨z, c⟩ := p
                      have hz0 := hzz z c ho
                      have dz : decide (z < 0) = false := by simp; omega
                      have b1 : bi (some (z, c)) = z := rfl
                      have b2 : nv (some (z, c)) = (c : Int) := rfl
                      rw [b1, b2]
                      by_cases hc : F m < c
                      · have HE : Hid ((m : Int) = bi (bst F (hall s b (m + 1))) ∧ ((N : Int)) = nv (bst F (hall s b (m + 1)))) := by
                          have : bstep F (some (z, c)) m = some ((m : Int), F m) := if_pos hc
                          rw [hnx, ho, this]; exact ⟨rfl, HX.out⟩
                        have dx : decide (((N : Int)) < (c : Int)) = true := by rw [HX.out]; simp; exact hc
                        have dx2 : ((N : Int)) < (c : Int) := by rw [HX.out]; omega
                        have dx3 : N < c := by omega
                        clear b1 b2 ho HX hc
                        clear hzz hnx
                        go_wp2
                        have hm := HMm.out
                        go_roundg (gk - 1)
                        case measure => omega
                        case rel => exact ⟨m + 1, by omega, by simp, by rw [HE.out.1], by rw [HE.out.2], rfl⟩
                      · have HE : Hid (z = bi (bst F (hall s b (m + 1))) ∧ (c : Int) = nv (bst F (hall s b (m + 1)))) := by
                          have : bstep F (some (z, c)) m = some (z, c) := if_neg hc
                          rw [hnx, ho, this]; exact ⟨rfl, rfl⟩
                        have dx : decide (((N : Int)) < (c : Int)) = false := by rw [HX.out]; simp; omega
                        have dx2 : ¬ ((N : Int)) < (c : Int) := by rw [HX.out]; omega
                        have dx3 : ¬ N < c := by omega
                        clear b1 b2 ho HX hc
                        clear hzz hnx
                        go_wp2
                        have hm := HMm.out
                        go_roundg (gk - 1)
                        case measure => omega
                        case rel => exact ⟨m + 1, by omega, by simp, by rw [HE.out.1], by rw [HE.out.2], rfl⟩
                  · have hs2 : ((m : Int) != h) = true := by simpa using hs
                    have HX : Hid ((N : Int) + 1 = (F m : Int)) := by
                      show (N : Int) + 1 = (F m : Int)
                      have h2 : co (some h) (m : Int) = 1 := if_neg (fun e => hs e.symm)
                      rw [eF, hl1, h2, Int.natCast_add]; rfl
                    have m3 : IntKind.i64.wrap ((N : Int) + 1) = (N : Int) + 1 := IntWalk.i64_in _ (by omega)
                    clear eF hl1
                    cases ho : bst F (hall s b m) with
                    | none =>
                      have b1 : bi (none : Option (Int × Nat)) = -1 := rfl
                      have b2 : nv (none : Option (Int × Nat)) = -1 := rfl
                      rw [b1, b2]
                      have HE : Hid ((m : Int) = bi (bst F (hall s b (m + 1))) ∧ ((N : Int) + 1) = nv (bst F (hall s b (m + 1)))) := by rw [hnx, ho]; exact ⟨rfl, HX.out⟩
                      clear b1 b2 ho HX
                      clear hzz hnx
                      go_wp2
                      have hm := HMm.out
                      go_roundg (gk - 1)
                      case measure => omega
                      case rel => exact ⟨m + 1, by omega, by simp, by rw [HE.out.1], by rw [HE.out.2], rfl⟩
                    | some p =>
                      obtain ⟨z, c⟩ := p
                      have hz0 := hzz z c ho
                      have dz : decide (z < 0) = false := by simp; omega
                      have b1 : bi (some (z, c)) = z := rfl
                      have b2 : nv (some (z, c)) = (c : Int) := rfl
                      rw [b1, b2]
                      by_cases hc : F m < c
                      · have HE : Hid ((m : Int) = bi (bst F (hall s b (m + 1))) ∧ ((N : Int) + 1) = nv (bst F (hall s b (m + 1)))) := by
                          have : bstep F (some (z, c)) m = some ((m : Int), F m) := if_pos hc
                          rw [hnx, ho, this]; exact ⟨rfl, HX.out⟩
                        have dx : decide (((N : Int) + 1) < (c : Int)) = true := by rw [HX.out]; simp; exact hc
                        have dx2 : ((N : Int) + 1) < (c : Int) := by rw [HX.out]; omega
                        have dx3 : N + 1 < c := by omega
                        clear b1 b2 ho HX hc
                        clear hzz hnx
                        go_wp2
                        have hm := HMm.out
                        go_roundg (gk - 1)
                        case measure => omega
                        case rel => exact ⟨m + 1, by omega, by simp, by rw [HE.out.1], by rw [HE.out.2], rfl⟩
                      · have HE : Hid (z = bi (bst F (hall s b (m + 1))) ∧ (c : Int) = nv (bst F (hall s b (m + 1)))) := by
                          have : bstep F (some (z, c)) m = some (z, c) := if_neg hc
                          rw [hnx, ho, this]; exact ⟨rfl, rfl⟩
                        have dx : decide (((N : Int) + 1) < (c : Int)) = false := by rw [HX.out]; simp; omega
                        have dx2 : ¬ ((N : Int) + 1) < (c : Int) := by rw [HX.out]; omega
                        have dx3 : ¬ N + 1 < c := by omega
                        clear b1 b2 ho HX hc
                        clear hzz hnx
                        go_wp2
                        have hm := HMm.out
                        go_roundg (gk - 1)
                        case measure => omega
                        case rel => exact ⟨m + 1, by omega, by simp, by rw [HE.out.1], by rw [HE.out.2], rfl⟩
              · have eN := HFo.out m (by omega)
                rw [eN] at cx
                have hnx := nx_miss F hh
                have HE : Hid (bi (bst F (hall s b m)) = bi (bst F (hall s b (m + 1))) ∧ nv (bst F (hall s b m)) = nv (bst F (hall s b (m + 1)))) := by rw [hnx]; exact ⟨rfl, rfl⟩
                clear eN hnx hh hm
                go_wp2
                have hm := HMm.out
                go_roundg (gk - 1)
                case measure => omega
                case rel => exact ⟨m + 1, by omega, by simp, by rw [HE.out.1], by rw [HE.out.2], rfl⟩
            · have h21 : m = 21 := by omega
              subst h21
              obtain ⟨z, hz, he⟩ := HFin.out
              have hbz : bi (bst F (hall s b 21)) = z := by rw [hz]; rfl
              rw [hbz]
              have HE0 : Hid ((outs ++ [z]) ++ gs (some z) (xs.drop (outs.length + 1)) = sgb xs) := by rw [hlen]; exact he
              clear hbz hz he hm
              by_cases hj0 : j = 0
              · subst hj0
                have ho : outs = [] := List.eq_nil_of_length_eq_zero hlen
                subst ho
                have hsl := HM.out.o0 rfl
                injection hsl with hsl1 _ hsl2
                subst hsl1 hsl2
                clear HPrev m1
                go_wp2_with (at_builtin; refine wpList_append_grows _ rfl _ _ 25 rfl 3 i0 (.int .i64 0) 1 8 Try.underlying25 hi0 hq0 hq1 hq2 rfl (by decide) (some ⟨w.heap.size, 0, none⟩) 0 0 [] rfl (fun e => by cases e) rfl (fun b _ j u hj => by simp at hj) ⟨wr.heap.size, 0, none⟩ 1 1 [.int .i64 z] rfl rfl ?c1 ?c2 ?c3 ?c4 ?c5 ?_)
                case c2 => first | rfl | (intro u hu; simp at hu; subst hu; rfl)
                case c4 => unfold maxLen; omega
                intro v' w2 hown' hgrow
                have HMn := Lib.hid (HM.out.app (own_mono hown' (by have := HM.out.h; simp; omega)) (grown_any hgrow) HE0.out)
                clear hown' hgrow
                go_wp2
                have hj := HJ.out
                go_roundg (xs.length - 1)
                case measure => omega
                case rel => exact ⟨1, [z], v', by omega, rfl, rfl, by simp, HMn.out⟩
              · have hown := HM.out.o1 (fun e => hj0 (by rw [← hlen, e]; rfl))
                rw [hlen] at hown
                have hh3 := HM.out.h
                clear HPrev m1
                go_wp2_with (at_builtin; refine wpList_append_own _ rfl _ _ 25 rfl hi3 3 i0 (.int .i64 0) 1 8 Try.underlying25 hi0 hq0 hq1 hq2 rfl (by decide) _ _ _ rfl (hown.alloc _) ⟨wr.heap.size, 0, none⟩ 1 1 [.int .i64 z] rfl rfl ?d1 ?d2 ?d3 ?d4 ?d5 ?_)
                case d1 =>
                  intro j u hj
                  match j, hj with
                  | 0, hj => simp at hj; subst hj; simp [Addr.add]
                case d2 => intro u hu; simp at hu; subst hu; rfl
                case d3 => unfold maxLen; omega
                case d4 => omega
                case d5 => simp; omega
                intro v' w2 hown' hgrow _
                have HMn := Lib.hid (HM.out.app (by rw [hlen]; exact hown') hgrow HE0.out)
                clear hown hown' hgrow
                go_wp2
                have hj := HJ.out
                go_roundg (xs.length - j - 1)
                case measure => omega
                case rel => exact ⟨j + 1, outs ++ [z], v', by omega, by simp [hlen], rfl, by simp, HMn.out⟩
        · have hj0 : j = xs.length := by omega
          have he := hM.e
          rw [hlen, hj0, List.drop_length] at he
          have hE : IMade2 w (sbL xs) (sbB xs) (.returned (.tuple #[u, .bool true])) wr := by
            rw [HE12.out.1, HE12.out.2, ← he]
            simp only [gs, List.append_nil]
            exact hM.b.built2
          have HE := Lib.hid hE
          subst hj0
          clear hM he hE hlen hj
          go_wp2
          go_ret2
          exact HE.out
end Go.Proofs.Ytbmgejiinnnomab
