/-
  Concords of two parts at a beat, in the program.
-/
import Derived.Test.YticapinlnlpbpaaDoorDj
import Derived.Test.YticapinlnlpbpaaDoorCd8
import Derived.Test.YticapinlnlpbpaaDoorIvu
import Derived.Test.YticapinlnlpbpaaDoorShelf
import Derived.Deep.AppendLies
namespace Go.Proofs.YticapinlnlpbpaaDoor
open Go.RowKit
set_option maxRecDepth 100000
set_option linter.unusedVariables false

/-- both tables of tones -/
def TwoTab (w : World) : Prop := StepTab w ∧ LeastTab w
theorem TwoTab.below {w w' : World} (h : TwoTab w) (hb : Below w.heap.size w w') : TwoTab w' := ⟨h.1.below hb, h.2.below hb⟩
theorem suf_last (l : List UInt8) (c d : UInt8) : Lib.hasSuffix (l ++ [c]) [d] = (c == d) := by
  unfold Lib.hasSuffix
  rw [Bool.eq_iff_iff, List.isSuffixOf_iff_suffix, beq_iff_eq]
  constructor
  · rintro ⟨t, ht⟩
    have := List.append_inj_right' ht rfl
    injection this with h _
    exact h.symm
  · rintro rfl
    exact ⟨l, rfl⟩
theorem ivt_suf {t u : Int × Bool} (h : vd t.1 t.2 = true) (k : vd u.1 u.2 = true) : Lib.hasSuffix (ivt t.1 t.2 u.1 u.2).data.toList [112] = cnc t u := by
  rw [ivt_yes h k]
  show Lib.hasSuffix (dec2 (ivN t.1 u.1 + 1).toNat ++ [ivl (ivN t.1 u.1) (ivX t.1 t.2 u.1 u.2)]) [112] = cnc t u
  rw [suf_last]
  rfl
theorem ivt_size (s : Int) (b : Bool) (t : Int) (c : Bool) : (ivt s b t c).size ≤ 3 := by
  unfold ivt
  split
  · have := dec2_len (ivN s t + 1).toNat
    show (dec2 (ivN s t + 1).toNat ++ [ivl (ivN s t) (ivX s b t c)]).toArray.size ≤ 3
    simp
    omega
  · show (#[] : Array UInt8).size ≤ 3
    simp

set_option maxHeartbeats 4000000 in
theorem concord_any (B D : Nat) (P Q : Nat → Nat) (ts us : List (Int × Bool)) (n k : Nat) (w : World) (h : DisI B w D P Q ts us n k) (hk : k < n) (ht : TwoTab w) :
    Calls Tryd.prog 51 #[.pointer (some ⟨D, 0, none⟩)] w fun e w' => e = .returned (.bool (cnk ts us k)) ∧ Below w.heap.size w w' := by
  have c0 : w.cell? ⟨D, 0, none⟩ = some (.pointer (some ⟨P k, 0, none⟩)) := by rw [← curP_lt P hk]; simp [World.cell?, h.blk]
  have c1 : w.cell? ⟨D, 1, none⟩ = some (.pointer (some ⟨Q k, 0, none⟩)) := by rw [← curP_lt Q hk]; simp [World.cell?, h.blk]
  obtain ⟨a0, a1, _⟩ := h.na.cells (k := k) (by rw [h.lt]; exact hk)
  obtain ⟨b0, b1, _⟩ := h.nb.cells (k := k) (by rw [h.lu]; exact hk)
  have v1 := h.va _ (List.mem_of_getElem? (tnA_get (ts := ts) (k := k) (by rw [h.lt]; exact hk)))
  have v2 := h.vb _ (List.mem_of_getElem? (tnA_get (ts := us) (k := k) (by rw [h.lu]; exact hk)))
  have hx := ivt_suf v1 v2
  have e : cnk ts us k = cnc (tnA ts k) (tnA us k) := rfl
  rw [e]
  have HT := Lib.hid ht
  clear h e ht hk v1 v2
  generalize tnA ts k = t at a0 a1 hx ⊢
  generalize tnA us k = u at b0 b1 hx ⊢
  obtain ⟨s, b⟩ := t
  obtain ⟨s', b'⟩ := u
  generalize cnc (s, b) (s', b') = q at hx ⊢
  have HX := Lib.hid hx
  have HI := Lib.hid (fun w h => toneInterval_any s s' b b' w h)
  have HZ := Lib.hid (ivt_size s b s' b')
  clear hx
  simp only at HX HI a0 a1 b0 b1
  generalize ivt s b s' b' = x at HX HI HZ
  generalize P k = p at c0 a0 a1
  generalize Q k = r at c1 b0 b1
  have zD := World.block_lt_of_cell? w _ c0
  have zp := World.block_lt_of_cell? w _ a0
  have zr := World.block_lt_of_cell? w _ b0
  go_enter Tryd.func51, Tryd.ntmps51
  go_wp2
  go_region_held3 (fun wx => wx.cell? ⟨D, 0, none⟩ = some (.pointer (some ⟨p, 0, none⟩)) ∧ wx.cell? ⟨D, 1, none⟩ = some (.pointer (some ⟨r, 0, none⟩)) ∧ wx.cell? ⟨p, 0, none⟩ = some (.int .i64 s) ∧ wx.cell? ⟨p, 1, none⟩ = some (.bool b) ∧ wx.cell? ⟨r, 0, none⟩ = some (.int .i64 s') ∧ wx.cell? ⟨r, 1, none⟩ = some (.bool b')) (go_keep)
    (first | (go_at_call 31; refine (HI.out _ (HT.out.below (Below.refl _ _).drew).1 (HT.out.below (Below.refl _ _).drew).2).mono ?_; rintro e w1 ⟨rfl, hb1⟩; have d0 := (hb1.cell (p := ⟨D, 0, none⟩) zD).trans c0; have d1 := (hb1.cell (p := ⟨D, 1, none⟩) zD).trans c1; have d2 := (hb1.cell (p := ⟨p, 0, none⟩) zp).trans a0; have d3 := (hb1.cell (p := ⟨p, 1, none⟩) zp).trans a1; have d4 := (hb1.cell (p := ⟨r, 0, none⟩) zr).trans b0; have d5 := (hb1.cell (p := ⟨r, 1, none⟩) zr).trans b1) | (go_at_call 81; refine (Tryd.strings_HasSuffix x ⟨#[112]⟩ _ (by have := HZ.out; omega)).mono ?_; rintro e w2 ⟨rfl, rfl⟩))
  have HE := Lib.hid (bl_step (Below.refl _ _).drew hb1)
  rw [HX.out]
  clear c0 c1 a0 a1 b0 b1 d0 d1 d2 d3 d4 d5 hb1
  go_wp2
  go_ret
  exact ⟨rfl, HE.out⟩

/-- an append to a row of integers leaves a pair of parts alone -/
theorem blk_grown {w w' : World} {b m g : Nat} {v : Value} {ys : List Value} {o : Obj} {cs : Array Value} {t : TypeId} (hg : (w.alloc o).grownBy w' v.ownBlock) (hv : w.ownsRow b 3 1 v m ys) (hh : w.heap[g]? = some (.cells cs t (0, 0))) (ht : t ≠ 3) : w'.heap[g]? = some (.cells cs t (0, 0)) := by
  have hlt := blk_lt hh
  refine (hg.block g (by simp; omega) ?_).trans ((heap_alloc_old w o hlt).trans hh)
  obtain ⟨_, ⟨rfl, _⟩ | ⟨g', cap, cur, rfl, _, hh', _⟩⟩ := hv
  · intro e; simp [Value.ownBlock] at e
  · intro e
    have e2 : g = g' := by simpa [Value.ownBlock] using e
    subst e2
    rw [hh] at hh'
    injection hh' with h1
    injection h1 with _ h2
    exact ht h2
theorem DisI.grown {B : Nat} {w w' : World} {D : Nat} {P Q : Nat → Nat} {ts us : List (Int × Bool)} {n k b m : Nat} {v : Value} {ys : List Value} {o : Obj} (h : DisI B w D P Q ts us n k) (hg : (w.alloc o).grownBy w' v.ownBlock) (hv : w.ownsRow b 3 1 v m ys) : DisI B w' D P Q ts us n k :=
  ⟨h.hD, h.lt, h.lu, blk_grown hg hv h.blk (by decide), fun j hj => ⟨(h.na j hj).1, blk_grown hg hv (h.na j hj).2 (by decide)⟩, fun j hj => ⟨(h.nb j hj).1, blk_grown hg hv (h.nb j hj).2 (by decide)⟩, h.va, h.vb⟩
/-- turning changes the pair alone -/
theorem turn_gb (w : World) (D : Nat) (x y : Value) (m : Nat) : w.grownBy (((w.drewN m).setCell ⟨D, 0, none⟩ x).setCell ⟨D, 1, none⟩ y) (some D) :=
  ⟨rfl, rfl, rfl, by simp [World.setCell], fun i hi hne => by
    have e : i ≠ D := fun e => hne (by rw [e])
    rw [heap_set_ne e, heap_set_ne e]
    rfl⟩
theorem IbInv.turned_ {w wr w2 : World} {D : Nat} {v : Value} {xs : List Int} {cs : Array Value} (h : IbInv w wr v xs) (hg : wr.grownBy w2 (some D)) (hD : w.heap.size ≤ D) (hh : wr.heap[D]? = some (.cells cs 67 (0, 0))) : IbInv w w2 v xs := by
  refine ⟨h.own.kept hg ?_, h.bl.grown hg h.bl.size (fun k hk => by injection hk with hk; omega)⟩
  obtain ⟨_, ⟨rfl, _⟩ | ⟨g', cap, cur, rfl, _, hh', _⟩⟩ := h.own
  · exact .inl rfl
  · right
    intro e
    have e2 : g' = D := by simpa [Value.ownBlock] using e
    subst e2
    rw [hh] at hh'
    injection hh' with h1
    injection h1 with _ h2
    exact absurd h2 (by decide)
set_option maxHeartbeats 4000000 in
theorem turn8_any (B D : Nat) (P Q : Nat → Nat) (ts us : List (Int × Bool)) (n k : Nat) (w : World) (h : DisI B w D P Q ts us n k) (hk : k < n) :
    Calls Tryd.prog 52 #[.pointer (some ⟨D, 0, none⟩)] w fun e w' => e = .returned (.tuple #[]) ∧ DisI B w' D P Q ts us n (k + 1) ∧ w.grownBy w' (some D) := by
  have HS := Lib.hid (fun m => (h.step hk m).1)
  have HG := Lib.hid (fun m => turn_gb w D (curP P n (k + 1)) (curP Q n (k + 1)) m)
  rw [curP_next P hk, curP_next Q hk] at HS HG
  have c0 : w.cell? ⟨D, 0, none⟩ = some (.pointer (some ⟨P k, 0, none⟩)) := by rw [← curP_lt P hk]; simp [World.cell?, h.blk]
  have c1 : w.cell? ⟨D, 1, none⟩ = some (.pointer (some ⟨Q k, 0, none⟩)) := by rw [← curP_lt Q hk]; simp [World.cell?, h.blk]
  have cf : ∀ o, w.frozen? ⟨D, o, none⟩ = false := fun o => by simp [World.frozen?, h.blk]
  have a2 := (h.na.cells (k := k) (by rw [h.lt]; exact hk)).2.2
  have b2 := (h.nb.cells (k := k) (by rw [h.lu]; exact hk)).2.2
  have na : P k ≠ D := kind_no (h.na k (by rw [h.lt]; exact hk)).2 h.blk (by decide)
  have nb : Q k ≠ D := kind_no (h.nb k (by rw [h.lu]; exact hk)).2 h.blk (by decide)
  have na2 := Ne.symm na
  have nb2 := Ne.symm nb
  rw [h.lt] at a2
  rw [h.lu] at b2
  generalize P (nxt n k) = p at HS HG a2
  generalize Q (nxt n k) = q at HS HG b2
  generalize P k = pk at c0 a2 na na2
  generalize Q k = qk at c1 b2 nb nb2
  clear h
  go_enter Tryd.func52, Tryd.ntmps52
  go_wp2
  go_region
  all_goals
    go_end0
    exact ⟨rfl, HS.out 1, HG.out 1⟩

set_option maxHeartbeats 4000000 in
theorem discantConcords_any (v u : Value) (xs ys : List Vc) (w : World) (h : VV w v xs) (k : VV w u ys) (htab : TwoTab w) : Calls Tryd.prog 15 #[v, u] w (IbMade w (dcc xs ys)) := by
  obtain ⟨i0, hi0, hq0, hq1, hq2⟩ := info_parts infoIb
  have HN := Lib.hid (newDiscant_any v u xs ys (w.alloc (.cells #[] 3)) (h.below ((Below.refl _ _).alloc (Nat.le_refl _) _)) (k.below ((Below.refl _ _).alloc (Nat.le_refl _) _)))
  unfold NewDis at HN
  have HT := Lib.hid htab
  have HS := Lib.hid (IbInv.start w)
  clear h k htab
  cases ht : tog xs ys with
  | false =>
    rw [ht] at HN
    rw [dcc_no ht]
    clear ht
    go_enter Tryd.func15, Tryd.ntmps15
    go_wp2_with (fail)
    (go_at_call 50; refine (HN.out).mono ?_; rintro e w1 ⟨D, rfl, hb1, _, hno⟩)
    have hno := hno (by first | rfl | trivial)
    have c2 : w1.cell? ⟨D, 2, none⟩ = some (.int .i64 0) := by simp [World.cell?, hno]
    have HI := Lib.hid (HS.out.below hb1)
    clear hb1 hno
    go_wp2
    go_rounds 1
    go_ret
    exact HI.out.built
  | true =>
    have h24 := tog_24 ht
    rw [ht] at HN
    rw [dcc_yes ht]
    clear ht
    generalize snd8 xs = ts at HN h24 ⊢
    generalize snd8 ys = us at HN ⊢
    obtain ⟨n, hn⟩ : ∃ n, ts.length = n := ⟨_, rfl⟩
    rw [hn] at h24 ⊢
    have HLN := Lib.hid hn
    clear hn
    go_enter Tryd.func15, Tryd.ntmps15
    go_wp2_with (fail)
    (go_at_call 50; refine (HN.out).mono ?_; rintro e w1 ⟨D, rfl, hb1, hd, _⟩)
    obtain ⟨P, Q, hD⟩ := hd (by first | rfl | trivial)
    have c2 : w1.cell? ⟨D, 2, none⟩ = some (.int .i64 (ts.length : Int)) := by simp [World.cell?, hD.blk]
    have HD : Hid (DisI (w.heap.size + 1) w1 D P Q ts us ts.length 0) := by
      have e : (w.alloc (.cells #[] 3)).heap.size = w.heap.size + 1 := by simp
      rw [← e]; exact hD
    have HI := Lib.hid (HS.out.below hb1)
    clear hD hd hb1
    rw [HLN.out] at c2 HD
    go_wp2
    go_loopw [5, 20] (fun q i wr => ∃ k : Nat, k ≤ n ∧ i = .int .i64 (k : Int) ∧ IbInv w wr q (cnL ts us k) ∧ DisI (w.heap.size + 1) wr D P Q ts us n k) (fun _ i _ => n - (intOf i).toNat)
    case atStart => exact ⟨0, by omega, rfl, HI.out, HD.out⟩
    case round =>
      obtain ⟨k, hk, rfl, hi, hd⟩ := hrel
      clear HD HI c2
      by_cases hlt : k < n
      · by_cases h3 : k % 3 = 0
        · have g3 : ((k : Int) % 3 == 0) = true := by rw [beq_iff_eq]; omega
          have g4 : (k : Int) % 3 = 0 := by omega
          have HC := Lib.hid (concord_any (w.heap.size + 1) D P Q ts us n k wr hd hlt (HT.out.below hi.bl))
          have HI := Lib.hid hi
          have HD := Lib.hid hd
          have HH := Lib.hid h3
          clear hi hd h3
          cases hc : cnk ts us k with
          | true =>
            have HX := Lib.hid (cnL_hit HH.out hc)
            rw [hc] at HC
            clear hc
            go_wp2_with (fail)
            (go_at_call 51; refine (HC.out).mono ?_; rintro e w2 ⟨rfl, hb2⟩)
            have HI2 := Lib.hid (HI.out.below hb2)
            have HD2 := Lib.hid (HD.out.below hb2)
            have hown := HI2.out.own
            have hlen := cnL_len ts us k
            have hws := HI2.out.bl.size
            have HNC : Hid ((w2.alloc (.cells #[.int .i64 (k : Int)] 3)).heap[w2.heap.size]? = some (.cells #[.int .i64 (k : Int)] 3 (0, 0))) := heap_alloc_new w2 (.cells #[.int .i64 (k : Int)] 3)
            clear hb2 HC HI HD
            go_wp2_with (at_builtin; refine wpList_append_own _ rfl _ _ 24 rfl w.heap.size 3 i0 (.int .i64 0) 1 8 Tryd.underlying24 hi0 hq0 hq1 hq2 rfl (by decide) _ _ _ rfl (hown.alloc _) ⟨w2.heap.size, 0, none⟩ 1 1 [.int .i64 (k : Int)] rfl rfl (World.news_of_block HNC.out) (by simp [Value.oneCell']) (by unfold maxLen; omega) (by omega) (by simp; omega) ?_)
            intro v' w4 hown' hgrow _
            have hi4 := HI2.out.app (z := (k : Int)) hown' hgrow
            rw [← HX.out] at hi4
            have HI4 := Lib.hid hi4
            have HD4 := Lib.hid (HD2.out.grown hgrow HI2.out.own)
            have HT4 := Lib.hid (turn8_any _ D P Q ts us n k w4 HD4.out hlt)
            clear hown hown' hgrow hi4 HNC HI2 HD2 hlen hws
            go_wp2_with (fail)
            (go_at_call 52; refine (HT4.out).mono ?_; rintro e w5 ⟨rfl, hd5, hg5⟩)
            have HI5 := Lib.hid (HI4.out.turned_ hg5 (by have := HD4.out.hD; omega) HD4.out.blk)
            have HD5 := Lib.hid hd5
            clear hd5 hg5 HT4 HI4 HD4
            go_wp2
            go_roundw
            case rel => exact ⟨k + 1, by omega, by go_num, HI5.out, HD5.out⟩
            case measure => simp [intOf]; omega
          | false =>
            have HX := Lib.hid (cnL_miss hc)
            rw [hc] at HC
            clear hc
            go_wp2_with (fail)
            (go_at_call 51; refine (HC.out).mono ?_; rintro e w2 ⟨rfl, hb2⟩)
            have hi2 := HI.out.below hb2
            rw [← HX.out] at hi2
            have HI2 := Lib.hid hi2
            have HD2 := Lib.hid (HD.out.below hb2)
            have HT4 := Lib.hid (turn8_any _ D P Q ts us n k w2 HD2.out hlt)
            clear hb2 HC HI HD hi2
            go_wp2_with (fail)
            (go_at_call 52; refine (HT4.out).mono ?_; rintro e w5 ⟨rfl, hd5, hg5⟩)
            have HI5 := Lib.hid (HI2.out.turned_ hg5 (by have := HD2.out.hD; omega) HD2.out.blk)
            have HD5 := Lib.hid hd5
            clear hd5 hg5 HT4 HI2 HD2
            go_wp2
            go_roundw
            case rel => exact ⟨k + 1, by omega, by go_num, HI5.out, HD5.out⟩
            case measure => simp [intOf]; omega
        · have g3 : ((k : Int) % 3 == 0) = false := by rw [beq_eq_false_iff_ne]; omega
          have g4 : ¬ (k : Int) % 3 = 0 := by omega
          have hi2 := hi
          rw [← cnL_weak (ts := ts) (us := us) h3] at hi2
          have HI2 := Lib.hid hi2
          have HD2 := Lib.hid hd
          have HT4 := Lib.hid (turn8_any _ D P Q ts us n k wr hd hlt)
          clear hi hi2 hd h3
          go_wp2_with (fail)
          (go_at_call 52; refine (HT4.out).mono ?_; rintro e w5 ⟨rfl, hd5, hg5⟩)
          have HI5 := Lib.hid (HI2.out.turned_ hg5 (by have := HD2.out.hD; omega) HD2.out.blk)
          have HD5 := Lib.hid hd5
          clear hd5 hg5 HT4 HI2 HD2
          go_wp2
          go_roundw
          case rel => exact ⟨k + 1, by omega, by go_num, HI5.out, HD5.out⟩
          case measure => simp [intOf]; omega
      · have hkn : k = n := by omega
        subst hkn
        have HF := Lib.hid hi.built
        clear hi hd
        go_wp2
        go_ret
        exact HF.out

set_option maxHeartbeats 4000000 in
theorem discantOk_any (v u : Value) (xs ys : List Vc) (w : World) (h : VV w v xs) (k : VV w u ys) (htab : TwoTab w) : Calls Tryd.prog 22 #[v, u] w fun e w' => e = .returned (.bool (dok xs ys)) ∧ Below w.heap.size w w' := by
  have HN := Lib.hid (newDiscant_any v u xs ys w h k)
  unfold NewDis at HN
  have HT := Lib.hid htab
  clear h k htab
  cases ht : tog xs ys with
  | false =>
    rw [ht] at HN
    rw [dok_no ht]
    clear ht
    go_enter Tryd.func22, Tryd.ntmps22
    go_wp2_with (fail)
    (go_at_call 50; refine (HN.out).mono ?_; rintro e w1 ⟨D, rfl, hb1, _, hno⟩)
    have hno := hno (by first | rfl | trivial)
    have c2 : w1.cell? ⟨D, 2, none⟩ = some (.int .i64 0) := by simp [World.cell?, hno]
    have HB := Lib.hid hb1
    clear hb1 hno
    go_wp2
    go_rounds 1
    go_ret
    exact ⟨rfl, HB.out⟩
  | true =>
    have h24 := tog_24 ht
    rw [ht] at HN
    rw [dok_yes ht]
    clear ht
    generalize snd8 xs = ts at HN h24 ⊢
    generalize snd8 ys = us at HN ⊢
    obtain ⟨n, hn⟩ : ∃ n, ts.length = n := ⟨_, rfl⟩
    rw [hn] at h24 ⊢
    have HLN := Lib.hid hn
    clear hn
    have HBAD := Lib.hid (fun k (hk : k < n) (e : okk ts us n k = false) => okA_bad (m := n) e hk)
    have HEND : Hid (okA ts us n n = okA ts us n n) := rfl
    have wn : IntKind.i64.wrap ((n : Int) - 1) = (n : Int) - 1 := IntWalk.i64_in _ (by omega)
    go_enter Tryd.func22, Tryd.ntmps22
    go_wp2_with (fail)
    (go_at_call 50; refine (HN.out).mono ?_; rintro e w1 ⟨D, rfl, hb1, hd, _⟩)
    obtain ⟨P, Q, hD⟩ := hd (by first | rfl | trivial)
    have c2 : w1.cell? ⟨D, 2, none⟩ = some (.int .i64 (ts.length : Int)) := by simp [World.cell?, hD.blk]
    have HD := Lib.hid hD
    have HB := Lib.hid hb1
    clear hD hd hb1
    rw [HLN.out] at c2 HD
    go_wp2
    go_loopw [18] (fun i wr => ∃ k : Nat, k ≤ n ∧ i = .int .i64 (k : Int) ∧ okA ts us n k = true ∧ DisI w.heap.size wr D P Q ts us n k ∧ Below w.heap.size w wr) (fun i _ => n - (intOf i).toNat)
    case atStart => exact ⟨0, by omega, rfl, rfl, HD.out, HB.out⟩
    case round =>
      obtain ⟨k, hk, rfl, hok, hd, hb⟩ := hrel
      clear HD HB c2
      have HOK := Lib.hid hok
      have HW := Lib.hid hb
      have HD := Lib.hid hd
      clear hok
      by_cases hlt : k < n
      · have HC := Lib.hid (concord_any w.heap.size D P Q ts us n k wr hd hlt (HT.out.below hb))
        have HTU := Lib.hid (fun w' (hb : Below wr.heap.size wr w') => turn_any w.heap.size D P Q ts us n k w' (HD.out.below (w' := w') hb) hlt)
        have c2 : wr.cell? ⟨D, 2, none⟩ = some (.int .i64 (n : Int)) := by simp [World.cell?, hd.blk]
        clear hd hb
        by_cases h3 : k % 3 = 0
        · have g3 : ((k : Int) % 3 == 0) = true := by rw [beq_iff_eq]; omega
          have g4 : (k : Int) % 3 = 0 := by omega
          cases hc : cnk ts us k with
          | false =>
            have HE := Lib.hid (HBAD.out k hlt (by simp [okk, h3, hc]))
            rw [hc] at HC
            clear hc h3
            go_wp2_with (fail)
            (go_at_call 51; refine (HC.out).mono ?_; rintro e w2 ⟨rfl, hb2⟩)
            have HF := Lib.hid (bl_step HW.out hb2)
            clear hb2
            go_wp2
            go_ret
            exact ⟨by rw [HE.out]; rfl, HF.out⟩
          | true =>
            have HE := Lib.hid (okA_next HOK.out (by simp [okk, hc]))
            rw [hc] at HC
            clear hc h3
            go_wp2_with (fail)
            (go_at_call 51; refine (HC.out).mono ?_; rintro e w2 ⟨rfl, hb2⟩)
            have HF := Lib.hid (bl_step HW.out hb2)
            have HTU2 := Lib.hid (HTU.out w2 hb2)
            clear hb2 HTU HC
            go_wp2_with (fail)
            (go_at_call 52; refine (HTU2.out).mono ?_; rintro e w5 ⟨rfl, hd5, hb5⟩)
            have HD5 := Lib.hid hd5
            have HF5 : Hid (Below w.heap.size w w5) := HF.out.trans hb5
            clear hd5 hb5 HTU2
            go_wp2
            go_roundw
            case rel => exact ⟨k + 1, by omega, by go_num, HE.out, HD5.out, HF5.out⟩
            case measure => simp [intOf]; omega
        · have g3 : ((k : Int) % 3 == 0) = false := by rw [beq_eq_false_iff_ne]; omega
          have g4 : ¬ (k : Int) % 3 = 0 := by omega
          by_cases hl : k + 1 = n
          · have g5 : ((k : Int) == (n : Int) - 1) = true := by rw [beq_iff_eq]; omega
            have g6 : (k : Int) = (n : Int) - 1 := by omega
            cases hc : cnk ts us k with
            | false =>
              have HE := Lib.hid (HBAD.out k hlt (by simp [okk, hl, hc]))
              rw [hc] at HC
              clear hc h3 hl g6
              go_wp2_with (fail)
              (go_at_call 51; refine (HC.out).mono ?_; rintro e w2 ⟨rfl, hb2⟩)
              have HF := Lib.hid (bl_step HW.out hb2)
              clear hb2
              go_wp2
              go_ret
              exact ⟨by rw [HE.out]; rfl, HF.out⟩
            | true =>
              have HE := Lib.hid (okA_next HOK.out (by simp [okk, hc]))
              rw [hc] at HC
              clear hc h3 hl g6
              go_wp2_with (fail)
              (go_at_call 51; refine (HC.out).mono ?_; rintro e w2 ⟨rfl, hb2⟩)
              have HF := Lib.hid (bl_step HW.out hb2)
              have HTU2 := Lib.hid (HTU.out w2 hb2)
              clear hb2 HTU HC
              go_wp2_with (fail)
              (go_at_call 52; refine (HTU2.out).mono ?_; rintro e w5 ⟨rfl, hd5, hb5⟩)
              have HD5 := Lib.hid hd5
              have HF5 : Hid (Below w.heap.size w w5) := HF.out.trans hb5
              clear hd5 hb5 HTU2
              go_wp2
              go_roundw
              case rel => exact ⟨k + 1, by omega, by go_num, HE.out, HD5.out, HF5.out⟩
              case measure => simp [intOf]; omega
          · have g5 : ((k : Int) == (n : Int) - 1) = false := by rw [beq_eq_false_iff_ne]; omega
            have g6 : ¬ (k : Int) = (n : Int) - 1 := by omega
            have HE := Lib.hid (okA_next HOK.out (by simp [okk, h3, hl]))
            have HTU2 := Lib.hid (HTU.out wr (Below.refl _ _))
            clear h3 hl HC HTU
            go_wp2_with (fail)
            (go_at_call 52; refine (HTU2.out).mono ?_; rintro e w5 ⟨rfl, hd5, hb5⟩)
            have HD5 := Lib.hid hd5
            have HF5 : Hid (Below w.heap.size w w5) := HW.out.trans hb5
            clear hd5 hb5 HTU2
            go_wp2
            go_roundw
            case rel => exact ⟨k + 1, by omega, by go_num, HE.out, HD5.out, HF5.out⟩
            case measure => simp [intOf]; omega
      · have hkn : k = n := by omega
        subst hkn
        clear hd hb
        go_wp2
        go_ret
        exact ⟨by rw [HOK.out]; rfl, HW.out⟩

set_option maxHeartbeats 4000000 in
theorem parallel_any (B D : Nat) (P Q : Nat → Nat) (ts us : List (Int × Bool)) (n k : Nat) (w : World) (h : DisI B w D P Q ts us n k) (hk : k + 1 < n) (ht : TwoTab w) :
    Calls Tryd.prog 56 #[.pointer (some ⟨D, 0, none⟩)] w fun e w' => e = .returned (.bool (prl ts us k)) ∧ Below w.heap.size w w' := by
  have HC := Lib.hid (changes_any B D P Q ts us n k w h (by omega))
  rw [nxt_in hk] at HC
  have e1 : (tnA ts (k + 1)).1 - (tnA ts k).1 = chg8 ts k := rfl
  have e2 : (tnA us (k + 1)).1 - (tnA us k).1 = chg8 us k := rfl
  rw [e1, e2] at HC
  have e3 : prl ts us k = ((decide (chg8 ts k ≠ 0) && decide (chg8 ts k = chg8 us k)) && (cnk ts us k && cnk ts us (k + 1))) := rfl
  rw [e3]
  have HK := Lib.hid (fun w' (hb : Below w.heap.size w w') => concord_any B D P Q ts us n k w' (h.below (w' := w') hb) (by omega) (ht.below hb))
  have HD := Lib.hid h
  have HT := Lib.hid ht
  clear h ht e1 e2 e3
  generalize chg8 ts k = x at HC ⊢
  generalize chg8 us k = y at HC ⊢
  by_cases hx : x = 0
  · have g1 : (x == 0) = true := by rw [beq_iff_eq]; exact hx
    rw [show ((decide (x ≠ 0) && decide (x = y)) && (cnk ts us k && cnk ts us (k + 1))) = false by simp [hx]]
    clear HK HT
    go_enter Tryd.func56, Tryd.ntmps56
    go_wp2_with (fail)
    (go_at_call 83; refine (HC.out).mono ?_; rintro e w1 ⟨rfl, m1, rfl⟩)
    go_wp2
    go_ret
    exact ⟨rfl, bl_dn8 _ _⟩
  have g1 : (x == 0) = false := by rw [beq_eq_false_iff_ne]; exact hx
  by_cases hxy : x = y
  case neg =>
    have g2 : (x != y) = true := by rw [bne_iff_ne]; exact hxy
    rw [show ((decide (x ≠ 0) && decide (x = y)) && (cnk ts us k && cnk ts us (k + 1))) = false by simp [hxy]]
    clear HK HT
    go_enter Tryd.func56, Tryd.ntmps56
    go_wp2_with (fail)
    (go_at_call 83; refine (HC.out).mono ?_; rintro e w1 ⟨rfl, m1, rfl⟩)
    go_wp2
    go_ret
    exact ⟨rfl, bl_dn8 _ _⟩
  have g2 : (x != y) = false := by rw [bne_eq_false_iff_eq]; exact hxy
  rw [show ((decide (x ≠ 0) && decide (x = y)) && (cnk ts us k && cnk ts us (k + 1))) = (cnk ts us k && cnk ts us (k + 1)) by rw [decide_eq_true hxy, decide_eq_true (show x ≠ 0 from hx)]; rfl]
  subst hxy
  cases hc : cnk ts us k with
  | false =>
    rw [hc] at HK
    rw [Bool.false_and]
    clear hc
    go_enter Tryd.func56, Tryd.ntmps56
    go_wp2_with (fail)
    (go_at_call 83; refine (HC.out).mono ?_; rintro e w1 ⟨rfl, m1, rfl⟩)
    go_wp2_with (fail)
    (go_at_call 51; refine (HK.out _ (bl_dn8 _ _)).mono ?_; rintro e w2 ⟨rfl, hb2⟩)
    have HF := Lib.hid (bl_step (bl_dn8 w m1) hb2)
    clear hb2
    go_wp2
    go_ret
    exact ⟨rfl, HF.out⟩
  | true =>
    rw [hc] at HK
    rw [Bool.true_and]
    clear hc
    go_enter Tryd.func56, Tryd.ntmps56
    go_wp2_with (fail)
    (go_at_call 83; refine (HC.out).mono ?_; rintro e w1 ⟨rfl, m1, rfl⟩)
    go_wp2_with (fail)
    (go_at_call 51; refine (HK.out _ (bl_dn8 _ _)).mono ?_; rintro e w2 ⟨rfl, hb2⟩)
    have hf := bl_step (bl_dn8 w m1) hb2
    have hd2 := HD.out.below hf
    have c0 : w2.cell? ⟨D, 0, none⟩ = some (.pointer (some ⟨P k, 0, none⟩)) := by rw [← curP_lt P (show k < n by omega)]; simp [World.cell?, hd2.blk]
    have c1 : w2.cell? ⟨D, 1, none⟩ = some (.pointer (some ⟨Q k, 0, none⟩)) := by rw [← curP_lt Q (show k < n by omega)]; simp [World.cell?, hd2.blk]
    have c2 : w2.cell? ⟨D, 2, none⟩ = some (.int .i64 (n : Int)) := by simp [World.cell?, hd2.blk]
    have hlt : B ≤ w2.heap.size := by have := hd2.hD; have := blk_lt hd2.blk; omega
    have hbn : Below w2.heap.size w2 (w2.alloc (.cells #[.pointer (some ⟨P k, 0, none⟩), .pointer (some ⟨Q k, 0, none⟩), .int .i64 (n : Int)] 67)) := (Below.refl _ _).alloc (Nat.le_refl _) _
    have hd3 : DisI B (w2.alloc (.cells #[.pointer (some ⟨P k, 0, none⟩), .pointer (some ⟨Q k, 0, none⟩), .int .i64 (n : Int)] 67)) w2.heap.size P Q ts us n k :=
      ⟨hlt, hd2.lt, hd2.lu, by rw [curP_lt P (show k < n by omega), curP_lt Q (show k < n by omega)]; exact heap_alloc_new w2 _, hd2.na.below hbn, hd2.nb.below hbn, hd2.va, hd2.vb⟩
    have HTU := Lib.hid (turn8_any B w2.heap.size P Q ts us n k _ hd3 (by omega))
    have HF := Lib.hid (hf.alloc hf.size (.cells #[.pointer (some ⟨P k, 0, none⟩), .pointer (some ⟨Q k, 0, none⟩), .int .i64 (n : Int)] 67))
    have HZ := Lib.hid hf.size
    clear hb2 hf hd2 hd3 hbn hlt HC HK HD
    go_wp2_with (fail)
    (go_at_call 52; refine (HTU.out).mono ?_; rintro e w4 ⟨rfl, hd4, hg4⟩)
    have HF4 : Hid (Below w.heap.size w w4) := HF.out.grown hg4 (by have := HZ.out; simp; omega) (fun j hj => by injection hj with hj; have := HZ.out; omega)
    have HCC := Lib.hid (concord_any B w2.heap.size P Q ts us n (k + 1) w4 hd4 hk (HT.out.below HF4.out))
    clear hd4 hg4 c0 c1 c2 HTU HF
    go_wp2_with (fail)
    (go_at_call 51; refine (HCC.out).mono ?_; rintro e w5 ⟨rfl, hb5⟩)
    have HF5 := Lib.hid (bl_step HF4.out hb5)
    clear hb5
    go_wp2
    go_ret
    exact ⟨rfl, HF5.out⟩

set_option maxHeartbeats 4000000 in
theorem countParallel_any (v u : Value) (xs ys : List Vc) (w : World) (h : VV w v xs) (k : VV w u ys) (htab : TwoTab w) : Calls Tryd.prog 55 #[v, u, .func (.func 56) #[] #[]] w fun e w' => e = .returned (.int .i64 (dpl xs ys)) ∧ Below w.heap.size w w' := by
  have HN := Lib.hid (newDiscant_any v u xs ys w h k)
  unfold NewDis at HN
  have HTA := Lib.hid htab
  clear h k htab
  cases ht : tog xs ys with
  | false =>
    rw [ht] at HN
    rw [dpl_no ht]
    clear ht
    go_enter Tryd.func55, Tryd.ntmps55
    go_wp2_with (fail)
    (go_at_call 50; refine (HN.out).mono ?_; rintro e w1 ⟨D, rfl, hb1, _, _⟩)
    have HB := Lib.hid hb1
    clear hb1
    go_wp2
    go_ret
    exact ⟨rfl, HB.out⟩
  | true =>
    have h24 := tog_24 ht
    rw [ht] at HN
    rw [dpl_yes ht]
    clear ht
    generalize snd8 xs = ts at HN h24 ⊢
    generalize snd8 ys = us at HN ⊢
    obtain ⟨n, hn⟩ : ∃ n, ts.length = n := ⟨_, rfl⟩
    rw [hn] at h24 ⊢
    have HLN := Lib.hid hn
    clear hn
    go_enter Tryd.func55, Tryd.ntmps55
    go_wp2_with (fail)
    (go_at_call 50; refine (HN.out).mono ?_; rintro e w1 ⟨D, rfl, hb1, hd, _⟩)
    obtain ⟨P, Q, hD⟩ := hd (by first | rfl | trivial)
    have c2 : w1.cell? ⟨D, 2, none⟩ = some (.int .i64 (ts.length : Int)) := by simp [World.cell?, hD.blk]
    have HD := Lib.hid hD
    have HB := Lib.hid hb1
    clear hD hd hb1
    rw [HLN.out] at c2 HD
    have wn : IntKind.i64.wrap ((n : Int) - 1) = (n : Int) - 1 := IntWalk.i64_in _ (by omega)
    go_wp2
    go_loopw [9, 23] (fun m i wr => ∃ k : Nat, k ≤ n - 1 ∧ i = .int .i64 (k : Int) ∧ m = .int .i64 (cnt (prl ts us) k) ∧ DisI w.heap.size wr D P Q ts us n k ∧ Below w.heap.size w wr) (fun _ i _ => n - (intOf i).toNat)
    case atStart => exact ⟨0, by omega, rfl, rfl, HD.out, HB.out⟩
    case round =>
      obtain ⟨k, hk, rfl, rfl, hd, hb⟩ := hrel
      clear HD HB c2
      by_cases hlt : k + 1 < n
      · have g0 : (k : Int) < (n : Int) - 1 := by omega
        have hc := cnt_in (prl ts us) k
        have HO := Lib.hid (parallel_any w.heap.size D P Q ts us n k wr hd hlt (HTA.out.below hb))
        have HTU := Lib.hid (fun w' (hb : Below wr.heap.size wr w') => turn_any w.heap.size D P Q ts us n k w' (hd.below (w' := w') hb) (by omega))
        have HW := Lib.hid hb
        clear hd hb
        cases hx : prl ts us k with
        | true =>
          have HX := Lib.hid (cnt_hit hx)
          rw [hx] at HO
          generalize cnt (prl ts us) k = z at hc HX
          have wz : IntKind.i64.wrap (z + 1) = z + 1 := IntWalk.i64_in _ (by omega)
          clear hx
          go_wp2_with (fail)
          (go_at_call 56; refine (HO.out).mono ?_; rintro e w1 ⟨rfl, hb1⟩)
          have HT2 := Lib.hid (HTU.out w1 hb1)
          have HW2 := Lib.hid (bl_step HW.out hb1)
          clear hb1 HTU HO
          go_wp2_with (fail)
          (go_at_call 52; refine (HT2.out).mono ?_; rintro e w2 ⟨rfl, hd2, hb2⟩)
          have HE := Lib.hid hd2
          have HF : Hid (Below w.heap.size w w2) := HW2.out.trans hb2
          clear hd2 hb2 HT2
          go_wp2
          go_roundw
          case rel => exact ⟨k + 1, by omega, by go_num, by rw [HX.out], HE.out, HF.out⟩
          case measure => simp [intOf]; omega
        | false =>
          have HX := Lib.hid (cnt_miss hx)
          rw [hx] at HO
          clear hx
          go_wp2_with (fail)
          (go_at_call 56; refine (HO.out).mono ?_; rintro e w1 ⟨rfl, hb1⟩)
          have HT2 := Lib.hid (HTU.out w1 hb1)
          have HW2 := Lib.hid (bl_step HW.out hb1)
          clear hb1 HTU HO
          go_wp2_with (fail)
          (go_at_call 52; refine (HT2.out).mono ?_; rintro e w2 ⟨rfl, hd2, hb2⟩)
          have HE := Lib.hid hd2
          have HF : Hid (Below w.heap.size w w2) := HW2.out.trans hb2
          clear hd2 hb2 HT2
          go_wp2
          go_roundw
          case rel => exact ⟨k + 1, by omega, by go_num, by rw [HX.out], HE.out, HF.out⟩
          case measure => simp [intOf]; omega
      · have hkn : k = n - 1 := by omega
        have g0 : decide ((k : Int) < (n : Int) - 1) = false := decide_eq_false (by omega)
        subst hkn
        have HF := Lib.hid hb
        clear hd hb
        go_wp2
        go_ret
        exact ⟨rfl, HF.out⟩

set_option maxHeartbeats 1000000 in
theorem discantParallels_any (v u : Value) (xs ys : List Vc) (w : World) (h : VV w v xs) (k : VV w u ys) (htab : TwoTab w) : Calls Tryd.prog 24 #[v, u] w fun e w' => e = .returned (.int .i64 (dpl xs ys)) ∧ Below w.heap.size w w' := by
  have HC := Lib.hid (countParallel_any v u xs ys w h k htab)
  generalize dpl xs ys = z at HC ⊢
  clear h k htab
  go_enter Tryd.func24, Tryd.ntmps24
  go_wp2_with (fail)
  (go_at_call 55; refine (HC.out).mono ?_; rintro e w1 ⟨rfl, hb⟩)
  have HB := Lib.hid hb
  clear hb
  go_wp2
  go_ret
  exact ⟨rfl, HB.out⟩
end Go.Proofs.YticapinlnlpbpaaDoor
