/-
  The fewest mutations from each tone on: the model's walk.
-/
import Derived.Test.YtbmgejiinnnomabSg6
namespace Go.Proofs.Ytbmgejiinnnomab
open Go.RowKit
set_option maxRecDepth 100000
set_option linter.unusedVariables false

theorem infoSl : (Try.prog.info? 25).map (fun i => (i.zero, i.size, i.bytes)) = some (some (.slice none 0 0), 1, 24) := by kernel_rfl
theorem TRow.at_ {w : World} {lo hi : Nat} {v : Value} {xs : List (Int × Bool)} (h : TRow w lo hi v xs) : ∃ a cap, v = .slice a xs.length cap ∧ ∀ (i : Nat) (s : Int) (b : Bool), xs[i]? = some (s, b) → ∃ g, a = some ⟨g, 0, none⟩ ∧ g < w.heap.size ∧ w.cell? ⟨g, i * 2, none⟩ = some (.int .i64 s) ∧ w.cell? ⟨g, i * 2 + 1, none⟩ = some (.bool b) := by
  rcases h.form with ⟨rfl, rfl⟩ | ⟨g, cap, rfl, _, _, hgs, _, _, hc⟩
  · exact ⟨none, 0, rfl, fun i s b hx => by simp at hx⟩
  · exact ⟨_, cap, rfl, fun i s b hx => ⟨g, rfl, hgs, (hc i _ hx).1, (hc i _ hx).2⟩⟩
theorem drop_at {xs : List (Int × Bool)} {i : Nat} (h : i < xs.length) : ∃ s b, xs[i]? = some (s, b) ∧ xs.drop i = (s, b) :: xs.drop (i + 1) :=
  ⟨xs[i].1, xs[i].2, List.getElem?_eq_getElem h, List.drop_eq_getElem_cons h⟩

def SfMade (w : World) (xs : List (Int × Bool)) (e : Ending) (w' : World) : Prop :=
  ∃ O, e = .returned (.slice (some ⟨O, 0, none⟩) xs.length xs.length) ∧ Fw w' O xs.length 0 (ft xs) ∧ Below w.heap.size w w' ∧ w.heap.size ≤ O
/-- a row under way -/
structure Fi (w wr : World) (xs : List (Int × Bool)) (O i g0 m : Nat) (f : Nat → Int) : Prop where
  c : Fc wr O xs.length i g0 (ft xs) f
  d : ∀ p, p < m → f p = ft xs i p
  bl : Below w.heap.size w wr
theorem Fi.below {w wr w' : World} {xs : List (Int × Bool)} {O i g0 m : Nat} {f : Nat → Int} (h : Fi w wr xs O i g0 m f) (hb : Below wr.heap.size wr w') : Fi w w' xs O i g0 m f := ⟨h.c.below hb, h.d, bl_step h.bl hb⟩
theorem Fi.put {w wr : World} {xs : List (Int × Bool)} {O i g0 m : Nat} {f : Nat → Int} (h : Fi w wr xs O i g0 m f) (hm : m < 21) (hg : w.heap.size ≤ g0) (x : Int) : Fi w (wr.setCell ⟨g0, m, none⟩ (.int .i64 x)) xs O i g0 m (fun p => if p = m then x else f p) :=
  ⟨h.c.set hm x, fun p hp => by rw [if_neg (by omega)]; exact h.d p hp, h.bl.setCell hg _⟩
theorem Fi.step {w wr : World} {xs : List (Int × Bool)} {O i g0 m : Nat} {f : Nat → Int} (h : Fi w wr xs O i g0 m f) (e : f m = ft xs i m) : Fi w wr xs O i g0 (m + 1) f :=
  ⟨h.c, fun p hp => by
    by_cases k : p = m
    · subst k; exact e
    · exact h.d p (by omega), h.bl⟩

set_option maxHeartbeats 8000000 in
theorem sFewest_any (lo hi : Nat) (v : Value) (xs : List (Int × Bool)) (w : World) (h : TRow w lo hi v xs) (hgo : sgo xs = true) (hl : xs.length ≤ 24) :
    Calls Try.prog 34 #[v] w (SfMade w xs) := by
  obtain ⟨i0, hi0, hq0, hq1, hq2⟩ := info_parts infoSl
  obtain ⟨j0, hj0, hr0, hr1, hr2⟩ := info_parts infoIb
  obtain ⟨a, cap, rfl, hat⟩ := h.at_
  have HA := Lib.hid hat
  have HG := Lib.hid hgo
  have m1 : IntKind.i64.wrap ((xs.length : Int) - 1) = (xs.length : Int) - 1 := IntWalk.i64_in _ (by omega)
  clear hat hgo h
  go_enter Try.func34, Try.ntmps34
  go_wp2_with (at_make; refine wpList_make_full _ rfl _ _ 65 rfl w.heap.size 25 i0 (.slice none 0 0) 1 Try.underlying65 hi0 hq0 hq1 _ _ _ _ xs.length rfl rfl rfl rfl ?c1 ?c2 ?c3 ?_)
  case c1 => rw [hq2]; omega
  case c2 => unfold maxLen; omega
  case c3 => exact Nat.le_refl _
  intro w2 hown hg
  have HF2 := Lib.hid (Fw.made (T := ft xs) hown)
  have HB2 : Hid (Below w.heap.size w w2) := ⟨hg.os, hg.tape, hg.output, hg.size, fun k hk => hg.block k hk (by simp)⟩
  clear hown hg
  have hO : w.heap.size ≤ w.heap.size := Nat.le_refl _
  obtain ⟨O, eO⟩ : ∃ O, w.heap.size = O := ⟨_, rfl⟩
  have HOE := Lib.hid eO
  have hO2 : w.heap.size ≤ O := by omega
  rw [eO] at HF2 ⊢
  clear hO eO
  go_wp2
  go_loopg [5] xs.length (fun k z wr => z = .int .i64 ((k : Int) - 1) ∧ k ≤ xs.length ∧ Fw wr O xs.length k (ft xs) ∧ Below w.heap.size w wr)
  case atStart => exact ⟨rfl, Nat.le_refl _, HF2.out, HB2.out⟩
  case round =>
    obtain ⟨rfl, hk, hF, hb⟩ := hrel
    clear HF2 HB2
    by_cases hk0 : gk = 0
    · subst hk0
      have HE : Hid (SfMade w xs (.returned (.slice (some ⟨O, 0, none⟩) xs.length xs.length)) wr) := ⟨O, rfl, hF, hb, hO2⟩
      clear hF hb
      go_wp2
      go_ret
      exact HE.out
    obtain ⟨i, rfl⟩ : ∃ i, gk = i + 1 := ⟨gk - 1, by omega⟩
    have e : (((i + 1 : Nat) : Int) - 1) = (i : Int) := by omega
    rw [e]
    clear e hk0
    have hil : i < xs.length := by omega
    obtain ⟨s, b, hx, hd⟩ := drop_at hil
    obtain ⟨g, rfl, hgw, e0, e1⟩ := HA.out i s b hx
    have p0 : (0 : Int) ≤ (i : Int) := by omega
    have p1 : (i : Int) < (xs.length : Int) := by omega
    have HF := Lib.hid hF
    have HB := Lib.hid hb
    have HD := Lib.hid hd
    obtain ⟨vO, cO⟩ := hF.has hil
    have fO := hF.free i
    clear hF hb hd hx
    go_wp2_with (at_make; refine wpList_make_full _ rfl _ _ 25 rfl wr.heap.size 3 j0 (.int .i64 0) 1 Try.underlying25 hj0 hr0 hr1 _ _ _ _ 21 rfl rfl rfl rfl ?c1 ?c2 ?c3 ?_)
    case c1 => rw [hr2]; omega
    case c2 => unfold maxLen; omega
    case c3 => exact Nat.le_refl _
    intro w5 hown hg5
    have hb5 : Below wr.heap.size wr w5 := ⟨hg5.os, hg5.tape, hg5.output, hg5.size, fun k hk => hg5.block k hk (by simp)⟩
    have hfr := FR.made (n := 21) hown
    have hOl := HF.out.lt
    have cO5 := (hb5.cell (p := ⟨O, i, none⟩) hOl).trans cO
    have fO5 := (hb5.frozen (p := ⟨O, i, none⟩) hOl).trans fO
    have hsz := HB.out.size
    have HI5 : Hid (Fi w (w5.setCell ⟨O, i, none⟩ (.slice (some ⟨wr.heap.size, 0, none⟩) 21 21)) xs O i wr.heap.size 0 (fun _ => 0)) :=
      ⟨HF.out.row hb5 (Nat.le_refl _) hfr hil, fun p hp => by omega, (bl_step HB.out hb5).setCell hO2 _⟩
    clear hown hg5 hb5 hfr hOl cO fO HF HB
    obtain ⟨g0, eg⟩ : ∃ g0, wr.heap.size = g0 := ⟨_, rfl⟩
    rw [eg] at HI5 hsz ⊢
    clear eg
    go_wp2
    go_loopg [6] 21 (fun k z wr => ∃ m : Nat, m + k = 21 ∧ z = .int .i64 (m : Int) ∧ ∃ f, Fi w wr xs O i g0 m f)
    case atStart => exact ⟨0, by omega, rfl, _, HI5.out⟩
    case round =>
      obtain ⟨m, hm, rfl, f, hI⟩ := hrel
      clear HI5
      have HM := Lib.hid hm
      by_cases hm21 : m < 21
      · obtain ⟨cO, cr⟩ := hI.c.cells
        obtain ⟨cm, fm⟩ := cr m hm21
        have q0 : (0 : Int) ≤ (m : Int) := by omega
        have q1 : (m : Int) < 21 := by omega
        have q2 : (m : Int) ≤ 20 := by omega
        have hge : g ≠ g0 := by omega
        have e0' := (hI.bl.cell (p := ⟨g, i * 2, none⟩) hgw).trans e0
        have e1' := (hI.bl.cell (p := ⟨g, i * 2 + 1, none⟩) hgw).trans e1
        have HP := Lib.hid (hI.put hm21 hsz (-1))
        have e0'' := ((hI.put hm21 hsz (-1)).bl.cell (p := ⟨g, i * 2, none⟩) hgw).trans e0
        have e1'' := ((hI.put hm21 hsz (-1)).bl.cell (p := ⟨g, i * 2 + 1, none⟩) hgw).trans e1
        clear hI hm cr
        go_wp2_with (fail)
        (go_at_call 46; refine (sHexSyllable_any m s b _).mono ?_; rintro e w7 ⟨rfl, hb7⟩)
        have HP7 := Lib.hid (HP.out.below hb7)
        clear hb7 HP cO cm fm e0' e1' e0'' e1''
        by_cases hh : 0 ≤ hsy m s b
        · have hh0 : decide (hsy m s b < 0) = false := by simp; exact hh
          cases hr : xs.drop (i + 1) with
          | nil =>
            have ht : (i : Int) = (xs.length : Int) - 1 := by
              have := List.drop_eq_nil_iff.1 hr
              omega
            have ht2 : ((i : Int) == (xs.length : Int) - 1) = true := by simp; exact ht
            have HE : Hid (Fi w (w7.setCell ⟨g0, m, none⟩ (.int .i64 0)) xs O i g0 (m + 1) _) := (HP7.out.put hm21 hsz 0).step (by rw [if_pos rfl, ft_last (by rw [HD.out, hr]) hh])
            obtain ⟨cO, cr⟩ := HP7.out.c.cells
            obtain ⟨cm, fm⟩ := cr m hm21
            clear HP7 cr hh hr ht
            go_wp2
            have hm := HM.out
            go_roundg (gk - 1)
            case measure => omega
            case rel => exact ⟨m + 1, by omega, by simp, _, HE.out⟩
          | cons u r =>
            obtain ⟨s', b'⟩ := u
            have hn1 : i + 1 < xs.length := by
              have := congrArg List.length hr
              simp at this
              omega
            have hdr : xs.drop i = (s, b) :: (s', b') :: r := by rw [HD.out, hr]
            have hgr : sgo ((s', b') :: r) = true := sgo_drop HG.out hr
            have hnn : hx (s', b') ≠ [] := (sgo_cons hgr).1
            have hrl : r.length + 1 ≤ 24 := by
              have := congrArg List.length hr
              simp at this
              omega
            obtain ⟨F, hFd⟩ : ∃ F : Int → Nat, F = fun x => few ((s', b') :: r) x + chg m x := ⟨_, rfl⟩
            have HFin : Hid (ft xs i m = nv (bst F (hall s' b' 21))) := by rw [hFd]; exact ft_more hdr hh hnn
            have HFx : Hid (∀ k : Nat, 0 ≤ hsy k s' b' → ∃ N : Nat, N ≤ 30 ∧ ft xs (i + 1) k = (N : Int) ∧ F k = N + chg m k) := fun k hk => ⟨few ((s', b') :: r) k, by have := few_le (t := (s', b')) (sgo_cons hgr).2 (k : Int); omega, by rw [ft_eq hr, if_pos hk], by rw [hFd]⟩
            have HFo : Hid (∀ k : Nat, ¬ 0 ≤ hsy k s' b' → ft xs (i + 1) k = -1) := fun k hk => by rw [ft_eq hr, if_neg hk]
            have ht2 : ((i : Int) == (xs.length : Int) - 1) = false := by rw [beq_eq_false_iff_ne]; omega
            have H70 : Hid (∃ (m' : Nat) (f : Nat → Int), m' + 21 = 21 ∧ (Value.int .i64 0) = .int .i64 (m' : Int) ∧ Fi w w7 xs O i g0 m f ∧ f m = nv (bst F (hall s' b' m'))) := ⟨0, _, rfl, rfl, HP7.out, by rw [if_pos rfl]; rfl⟩
            have p2 : (0 : Int) ≤ (i : Int) + 1 := by omega
            have p3 : (i : Int) + 1 < (xs.length : Int) := by omega
            have m2 : IntKind.i64.wrap ((i : Int) + 1) = (i : Int) + 1 := IntWalk.i64_in _ (by omega)
            clear HP7 hh hr hdr hgr hnn hrl hFd
            go_wp2
            go_loopg [7] 21 (fun k z wr => ∃ (m' : Nat) (f : Nat → Int), m' + k = 21 ∧ z = .int .i64 (m' : Int) ∧ Fi w wr xs O i g0 m f ∧ f m = nv (bst F (hall s' b' m')))
            case atStart => exact H70.out
            case round =>
              clear H70
              obtain ⟨m', f, hm', rfl, hI, hy⟩ := hrel
              by_cases hlt : m' < 21
              · obtain ⟨g', cN, cx⟩ := hI.c.next hn1
                replace cx := cx m' hlt
                obtain ⟨cO, cr⟩ := hI.c.cells
                obtain ⟨cm, fm⟩ := cr m hm21
                have r0 : (0 : Int) ≤ (m' : Int) := by omega
                have r1 : (m' : Int) < 21 := by omega
                have r2 : (m' : Int) ≤ 20 := by omega
                have HM' := Lib.hid hm'
                have HI := Lib.hid hI
                clear cr hI hm'
                by_cases hh' : 0 ≤ hsy m' s' b'
                · obtain ⟨N, hN, eN, eF⟩ := HFx.out m' hh'
                  rw [eN] at cx
                  have hnx := nx_hit F hh'
                  have d0 : decide ((N : Int) < 0) = false := by simp
                  have HT : Hid (∀ X : Int, X = (F m' : Int) → (decide (f m < 0) || decide (X < f m)) = true → nv (bst F (hall s' b' (m' + 1))) = X) := fun X hX h => by
                    rw [hnx, hX]
                    rw [hX, hy] at h
                    exact nv_take h
                  have HKp : Hid (∀ X : Int, X = (F m' : Int) → (decide (f m < 0) || decide (X < f m)) = false → nv (bst F (hall s' b' (m' + 1))) = f m) := fun X hX h => by
                    rw [hnx, hy]
                    rw [hX, hy] at h
                    rw [nv_keep h]
                  clear eN hnx hh' hy
                  by_cases hs : m' = m
                  · have hs2 : m = m' := hs.symm
                    clear hs
                    subst hs2
                    have HX : Hid ((N : Int) = (F m : Int)) := by
                      show (N : Int) = (F m : Int)
                      rw [eF]; simp [chg]
                    clear eF
                    by_cases dy : decide (f m < 0) = true
                    · have HE : Hid (Fi w (wr.setCell ⟨g0, m, none⟩ (.int .i64 ((N : Int)))) xs O i g0 m (fun p => if p = m then ((N : Int)) else f p) ∧ ((N : Int)) = nv (bst F (hall s' b' (m + 1)))) := ⟨HI.out.put hm21 hsz _, (HT.out ((N : Int)) HX.out (by rw [dy]; rfl)).symm⟩
                      clear HI HT HKp HX
                      go_wp2
                      have hm' := HM'.out
                      go_roundg (gk - 1)
                      case measure => omega
                      case rel => exact ⟨m + 1, _, by omega, by simp, HE.out.1, (if_pos rfl).trans HE.out.2⟩
                    · rw [Bool.not_eq_true] at dy
                      by_cases dx : decide (((N : Int)) < f m) = true
                      · have HE : Hid (Fi w (wr.setCell ⟨g0, m, none⟩ (.int .i64 ((N : Int)))) xs O i g0 m (fun p => if p = m then ((N : Int)) else f p) ∧ ((N : Int)) = nv (bst F (hall s' b' (m + 1)))) := ⟨HI.out.put hm21 hsz _, (HT.out ((N : Int)) HX.out (by rw [dy, dx]; rfl)).symm⟩
                        clear HI HT HKp HX
                        go_wp2
                        have hm' := HM'.out
                        go_roundg (gk - 1)
                        case measure => omega
                        case rel => exact ⟨m + 1, _, by omega, by simp, HE.out.1, (if_pos rfl).trans HE.out.2⟩
                      · rw [Bool.not_eq_true] at dx
                        have HE : Hid (Fi w wr xs O i g0 m f ∧ f m = nv (bst F (hall s' b' (m + 1)))) := ⟨HI.out, by rw [HKp.out ((N : Int)) HX.out (by rw [dy, dx]; rfl)]⟩
                        clear HI HT HKp HX
                        go_wp2
                        have hm' := HM'.out
                        go_roundg (gk - 1)
                        case measure => omega
                        case rel => exact ⟨m + 1, _, by omega, by simp, HE.out.1, HE.out.2⟩
                  · have HX : Hid ((N : Int) + 1 = (F m' : Int)) := by
                      show (N : Int) + 1 = (F m' : Int)
                      have h1 : ¬ (m : Int) = (m' : Int) := by omega
                      have h2 : chg (m : Int) (m' : Int) = 1 := if_neg h1
                      rw [eF, h2, Int.natCast_add]; rfl
                    have pn : ((m' : Int) != (m : Int)) = true := by simp; omega
                    have m3 : IntKind.i64.wrap ((N : Int) + 1) = (N : Int) + 1 := IntWalk.i64_in _ (by omega)
                    clear eF
                    by_cases dy : decide (f m < 0) = true
                    · have HE : Hid (Fi w (wr.setCell ⟨g0, m, none⟩ (.int .i64 ((N : Int) + 1))) xs O i g0 m (fun p => if p = m then ((N : Int) + 1) else f p) ∧ ((N : Int) + 1) = nv (bst F (hall s' b' (m' + 1)))) := ⟨HI.out.put hm21 hsz _, (HT.out ((N : Int) + 1) HX.out (by rw [dy]; rfl)).symm⟩
                      clear HI HT HKp HX
                      go_wp2
                      have hm' := HM'.out
                      go_roundg (gk - 1)
                      case measure => omega
                      case rel => exact ⟨m' + 1, _, by omega, by simp, HE.out.1, (if_pos rfl).trans HE.out.2⟩
                    · rw [Bool.not_eq_true] at dy
                      by_cases dx : decide (((N : Int) + 1) < f m) = true
                      · have HE : Hid (Fi w (wr.setCell ⟨g0, m, none⟩ (.int .i64 ((N : Int) + 1))) xs O i g0 m (fun p => if p = m then ((N : Int) + 1) else f p) ∧ ((N : Int) + 1) = nv (bst F (hall s' b' (m' + 1)))) := ⟨HI.out.put hm21 hsz _, (HT.out ((N : Int) + 1) HX.out (by rw [dy, dx]; rfl)).symm⟩
                        clear HI HT HKp HX
                        go_wp2
                        have hm' := HM'.out
                        go_roundg (gk - 1)
                        case measure => omega
                        case rel => exact ⟨m' + 1, _, by omega, by simp, HE.out.1, (if_pos rfl).trans HE.out.2⟩
                      · rw [Bool.not_eq_true] at dx
                        have HE : Hid (Fi w wr xs O i g0 m f ∧ f m = nv (bst F (hall s' b' (m' + 1)))) := ⟨HI.out, by rw [HKp.out ((N : Int) + 1) HX.out (by rw [dy, dx]; rfl)]⟩
                        clear HI HT HKp HX
                        go_wp2
                        have hm' := HM'.out
                        go_roundg (gk - 1)
                        case measure => omega
                        case rel => exact ⟨m' + 1, _, by omega, by simp, HE.out.1, HE.out.2⟩
                · have eN := HFo.out m' (by omega)
                  rw [eN] at cx
                  have hnx := nx_miss F hh'
                  have HE : Hid (Fi w wr xs O i g0 m f ∧ f m = nv (bst F (hall s' b' (m' + 1)))) := ⟨HI.out, by rw [hnx]; exact hy⟩
                  clear eN hnx hh' hy HI
                  go_wp2
                  have hm' := HM'.out
                  go_roundg (gk - 1)
                  case measure => omega
                  case rel => exact ⟨m' + 1, f, by omega, by simp, HE.out.1, HE.out.2⟩
              · have h21 : m' = 21 := by omega
                subst h21
                have HE : Hid (Fi w wr xs O i g0 (m + 1) f) := hI.step (by rw [HFin.out]; exact hy)
                clear hI hy
                go_wp2
                have hm := HM.out
                go_roundg (20 - m)
                case measure => omega
                case rel => exact ⟨m + 1, by omega, by simp, f, HE.out⟩
        · have hh0 : decide (hsy m s b < 0) = true := by simp; omega
          have HE : Hid (Fi w w7 xs O i g0 (m + 1) _) := HP7.out.step (by rw [if_pos rfl, ft_eq HD.out, if_neg hh])
          clear HP7 hh
          go_wp2
          have hm := HM.out
          go_roundg (gk - 1)
          case measure => omega
          case rel => exact ⟨m + 1, by omega, by simp, _, HE.out⟩
      · have hm0 : m = 21 := by omega
        subst hm0
        have HE : Hid (Fw wr O xs.length i (ft xs) ∧ Below w.heap.size w wr) := ⟨hI.c.done hI.d, hI.bl⟩
        clear hI
        go_wp2
        go_roundg i
        case measure => omega
        case rel => exact ⟨by simp, by omega, HE.out.1, HE.out.2⟩
end Go.Proofs.Ytbmgejiinnnomab
