/-
  The changes of a stem, in both programs.
-/
import Derived.Test.YtbeiedaldinhaaaDoorSmv
namespace Go.Proofs.YtbeiedaldinhaaaDoor
open Go.RowKit
set_option maxRecDepth 100000
set_option linter.unusedVariables false

/-- what a reading's bytes read as -/
theorem RbAt.text {w : World} {R rc : Nat} {s : ByteArray} {cur : Array Value} (h : RbAt w R rc s cur) : (convert 22 9 (.slice (some ⟨R, 0, none⟩) s.size rc)).run Tryd.prog w = .ok (.string s) w := by
  have hl : s.data.toList.length = s.size := by simp
  have e := run_convert_bytes_back (P := Tryd.prog) w 22 9 5 ⟨R, 0, none⟩ rc s.data.toList Tryd.underlying22 Tryd.underlying5 Tryd.underlying9 fun j hj => by
    have hjs : j < s.size := by omega
    have e : (cur.toList.take s.size)[j]? = (btc s.data.toList)[j]? := by rw [h.bytes]
    rw [List.getElem?_take_of_lt hjs, Array.getElem?_toList] at e
    rw [Go.WideShapes.add_plain, Nat.zero_add]
    simp only [World.cell?, h.blk]
    simp [e, btc, List.getElem?_eq_getElem hj]
  rw [hl] at e
  rw [e]

set_option maxHeartbeats 8000000 in
theorem changes_any {B : Nat} (v : Value) (bs : List BkR) (rds : Nat → ByteArray) (st : List Int) (m : Nat) (hm : m ≤ 8) (hrd : ∀ i, i < bs.length → (rds i).size = m) (hst : StTo st bs.length) (hb1 : 1 ≤ bs.length) (hb6 : bs.length ≤ 6) (w : World) (h : TreeI B w v bs rds st) :
    Calls Tryd.prog 37 #[v] w fun e w' => e = .returned (.int .i64 (chgk rds st bs.length : Int)) ∧ ∃ d, w' = w.drewN d := by
  obtain ⟨g, cap, hv, hg0, hgs, hcap, hmax, hpt⟩ := h.row_form hb1
  have HT := Lib.hid h
  have HPT := Lib.hid hpt
  have HST := Lib.hid hst
  have HRD := Lib.hid hrd
  obtain ⟨n, hn⟩ : ∃ n, bs.length = n := ⟨_, rfl⟩
  rw [hn] at hv hb1 hb6 hcap HPT HST HRD ⊢
  have HN := Lib.hid hn
  obtain ⟨q, rfl⟩ : ∃ q, n = q + 1 := ⟨n - 1, by omega⟩
  subst hv
  clear h hpt hst hrd hn
  unfold maxLen at hmax
  have m1 : (1 : Int) ≤ ((q + 1 : Nat) : Int) := by omega
  have m2 : (1 : Int) ≤ (q : Int) + 1 := by omega
  have m3 : ((q + 1 : Nat) : Int) ≤ (cap : Int) := by omega
  have m4 : (q : Int) + 1 ≤ (cap : Int) := by omega
  have m5 : (1 : Int) ≤ (cap : Int) := by omega
  by_cases hc1 : cap = 1
  · subst hc1
    obtain rfl : q = 0 := by omega
    clear m1 m2 m3 m4 m5
    go_enter Tryd.func37, Tryd.ntmps37
    go_wp2
    go_rounds 1
    go_ret
    exact ⟨rfl, 0, rfl⟩
  go_enter Tryd.func37, Tryd.ntmps37
  go_wp2
  go_loopw [3, 9] (fun n i wr => ∃ k : Nat, k ≤ q ∧ i = .int .i64 (k : Int) ∧ n = .int .i64 (chgk rds st (k + 1) : Int) ∧ ∃ d, wr = w.drewN d) (fun _ i _ => q - (intOf i).toNat)
  case atStart => exact ⟨0, Nat.zero_le _, rfl, rfl, 0, rfl⟩
  case round =>
    obtain ⟨k, hk, rfl, rfl, d, hw⟩ := hrel
    have HW := Lib.hid hw
    clear hw
    have hle := chgk_le8 (rds := rds) (st := st) (m := m) (n := q + 1) HST.out (fun i hi => HRD.out i hi) hm (k + 1) (by omega)
    by_cases hlt : k < q
    · obtain ⟨bj, hbj⟩ : ∃ b, bs[k + 1]? = some b := ⟨bs[k + 1]'(by have := HN.out; omega), List.getElem?_eq_getElem (by have := HN.out; omega)⟩
      have hs := HST.out (k + 1) (by omega) (by omega)
      obtain ⟨p, hp⟩ : ∃ p : Nat, st.getD (k + 1) 0 = (p : Int) := ⟨(st.getD (k + 1) 0).toNat, by omega⟩
      rw [hp] at hs
      obtain ⟨bq, hbq⟩ : ∃ b, bs[p]? = some b := ⟨bs[p]'(by have := HN.out; omega), List.getElem?_eq_getElem (by have := HN.out; omega)⟩
      have hAj := HT.out.at_ _ bj hbj
      have hAq := HT.out.at_ _ bq hbq
      obtain ⟨cj, hcj⟩ := hAj.rd
      obtain ⟨cq, hcq⟩ := hAq.rd
      have hf : frmV bs st (k + 1) = .pointer (some ⟨bq.P, 0, none⟩) := by unfold frmV; rw [if_neg (by omega), hp, Int.toNat_natCast, pv_get hbq]
      have f0 : wr.cell? ⟨g, 1 + k, none⟩ = some (.pointer (some ⟨bj.P, 0, none⟩)) := by
        rw [HW.out, Nat.add_comm 1 k, ← pv_get hbj]
        exact HPT.out (k + 1) (by omega)
      have f1 : wr.cell? ⟨bj.P, 0, none⟩ = some (.slice (some ⟨bj.R, 0, none⟩) (rds (k + 1)).size bj.rc) := by rw [HW.out]; show w.cell? _ = _; simp [World.cell?, hAj.blk]
      have f2 : wr.cell? ⟨bj.P, 1, none⟩ = some (.pointer (some ⟨bq.P, 0, none⟩)) := by rw [HW.out, ← hf]; show w.cell? _ = _; simp [World.cell?, hAj.blk]
      have f3 : wr.cell? ⟨bq.P, 0, none⟩ = some (.slice (some ⟨bq.R, 0, none⟩) (rds p).size bq.rc) := by rw [HW.out]; show w.cell? _ = _; simp [World.cell?, hAq.blk]
      have kj : ∀ n, (convert 22 9 (.slice (some ⟨bj.R, 0, none⟩) (rds (k + 1)).size bj.rc)).run Tryd.prog (wr.drewN n) = .ok (.string (rds (k + 1))) (wr.drewN n) := fun n => RbAt.text (w := wr.drewN n) (cur := cj) (by rw [HW.out]; exact ⟨hcj.blk, hcj.size, hcj.le, hcj.max, hcj.bytes⟩)
      have kq : ∀ n, (convert 22 9 (.slice (some ⟨bq.R, 0, none⟩) (rds p).size bq.rc)).run Tryd.prog (wr.drewN n) = .ok (.string (rds p)) (wr.drewN n) := fun n => RbAt.text (w := wr.drewN n) (cur := cq) (by rw [HW.out]; exact ⟨hcq.blk, hcq.size, hcq.le, hcq.max, hcq.bytes⟩)
      have kj0 : (convert 22 9 (.slice (some ⟨bj.R, 0, none⟩) (rds (k + 1)).size bj.rc)).run Tryd.prog wr = .ok (.string (rds (k + 1))) wr := kj 0
      have kq0 : (convert 22 9 (.slice (some ⟨bq.R, 0, none⟩) (rds p).size bq.rc)).run Tryd.prog wr = .ok (.string (rds p)) wr := kq 0
      have z1 := HRD.out (k + 1) (by omega)
      have z2 := HRD.out p (by omega)
      have HF := Lib.hid (fun W => far_any (rds p) (rds (k + 1)) (by omega) (by omega) W)
      have HX : Hid (chgk rds st (k + 1 + 1) = chgk rds st (k + 1) + fr (rds p) (rds (k + 1))) := by
        have := chgk_next rds st (k := k + 1) (by omega)
        rw [hp, Int.toNat_natCast, fr_comm (by omega)] at this
        exact this
      have hfl := fr_le (rds p) (rds (k + 1))
      have k0 : (0 : Int) ≤ (k : Int) := by omega
      have k1 : (k : Int) < (q : Int) := by omega
      rw [z2] at hfl
      clear hs hp hbj hbq hAj hAq hcj hcq hf z1 z2
      generalize chgk rds st (k + 1) = X at hle HX ⊢
      generalize fr (rds p) (rds (k + 1)) = Y at hfl HX HF
      generalize rds p = sp at *
      generalize rds (k + 1) = sj at *
      go_wp2_with (fail)
      go_quiet ((go_at_call 41; exact Calls.quiet_of (HF.out _)))
      go_wp2
      go_roundw
      case rel => exact ⟨k + 1, by omega, by go_num, by rw [HX.out]; go_num, _, by rw [HW.out, World.drewN_drewN]⟩
      case measure => simp [intOf]; omega
    · have hke : k = q := by omega
      subst hke
      go_wp2
      go_ret
      exact ⟨rfl, d, HW.out⟩

set_option maxHeartbeats 8000000 in
theorem sStemChanges_any (v u : Value) (ss : List ByteArray) (st : List Int) (w : World) (h : SV w v ss) (k : IV w u st) (hsz : ∀ s ∈ ss, s.size ≤ 4611686018427387904) :
    Calls Tryd.prog 12 #[v, u] w fun e w' => e = .returned (.int .i64 (sch ss st)) ∧ ∃ m, w' = w.drewN m := by
  have KV := Lib.hid (sStemValid_any v u ss st w h k hsz)
  have KB := Lib.hid (fun W (hb : Below w.heap.size w W) => sBooksValid_any v ss W (h.below hb) hsz)
  obtain ⟨a, c, rfl, ha, hc1, hc2⟩ := h
  obtain ⟨a', c', rfl, ha', hc1', hc2'⟩ := k
  unfold maxLen at hc2 hc2'
  cases hv : svl ss st with
  | false =>
    rw [sch_no1 hv]
    rw [hv] at KV
    clear hv ha ha' hsz
    go_enter Tryd.func12, Tryd.ntmps12
    go_wp2_with (fail)
    (go_at_call 38; refine (KV.out).mono ?_; rintro e w1 ⟨rfl, m, rfl⟩)
    go_wp2
    go_ret
    exact ⟨rfl, m, rfl⟩
  | true =>
  rw [hv] at KV
  cases hb : bval ss with
  | false =>
    rw [sch_no2 hb]
    rw [hb] at KB
    clear hv hb ha ha' hsz
    go_enter Tryd.func12, Tryd.ntmps12
    go_wp2_with (fail)
    (go_at_call 38; refine (KV.out).mono ?_; rintro e w1 ⟨rfl, m, rfl⟩)
    go_wp2_with (fail)
    (go_at_call 39; refine (KB.out _ (bl_drewN (Below.refl _ _) _)).mono ?_; rintro e w2 ⟨rfl, m2, hw2⟩)
    have HW := Lib.hid hw2
    clear hw2
    go_wp2
    go_ret
    exact ⟨rfl, _, by rw [HW.out, World.drewN_drewN]⟩
  | true =>
  rw [sch_yes hv hb]
  rw [hb] at KB
  obtain ⟨_, _, h3, _, hst⟩ := svl_in hv
  obtain ⟨hin, hall⟩ := bval_in hb
  obtain ⟨n1, n6, p1, p8⟩ := bkIn_parts hin
  have HALL := Lib.hid hall
  have HST := Lib.hid hst
  have H3 := Lib.hid h3
  have s1 : 1 ≤ st.length := by omega
  have s6 : st.length ≤ 6 := by omega
  have hne : ss ≠ [] := by rintro rfl; simp at n1
  have hne' : st ≠ [] := by rintro rfl; simp at s1
  rcases ha with hh | ⟨A, off, rfl, hA, hc⟩
  · exact absurd hh hne
  rcases ha' with hh | ⟨A', off', rfl, hA', hc'⟩
  · exact absurd hh hne'
  have HC := Lib.hid hc
  have HC' := Lib.hid hc'
  clear hv hb hin hall hst h3 hne hne' hc hc' hsz
  go_enter Tryd.func12, Tryd.ntmps12
  go_wp2_with (fail)
  (go_at_call 38; refine (KV.out).mono ?_; rintro e w1 ⟨rfl, m, rfl⟩)
  go_wp2_with (fail)
  (go_at_call 39; refine (KB.out _ (bl_drewN (Below.refl _ _) _)).mono ?_; rintro e w2 ⟨rfl, m2, hw2⟩)
  have HW2 : Hid (∃ d, w2 = w.drewN d) := ⟨_, by rw [hw2, World.drewN_drewN]⟩
  clear hw2
  go_wp2
  go_loopw [5, 6] (fun n i wr => ∃ k : Nat, 1 ≤ k ∧ k ≤ st.length ∧ i = .int .i64 (k : Int) ∧ n = .int .i64 (chgk (bka ss) st k : Int) ∧ ∃ d, wr = w.drewN d) (fun _ i _ => st.length - (intOf i).toNat)
  case atStart => exact ⟨1, Nat.le_refl _, s1, rfl, rfl, HW2.out⟩
  case round =>
    obtain ⟨k, hk1, hk2, rfl, rfl, d, hw⟩ := hrel
    have HW := Lib.hid hw
    clear hw
    have hrd : ∀ i, i < st.length → (bka ss i).size = plc ss := fun i hi => by
      obtain ⟨s, hs⟩ := ss_get (ss := ss) (k := i) (by have := H3.out; omega)
      rw [bka_get hs]; exact (HALL.out i s hs).1
    have hle := chgk_le8 (rds := bka ss) (st := st) (m := plc ss) (n := st.length) HST.out hrd p8 k hk2
    by_cases hlt : k < st.length
    · have hs := HST.out k hlt (by omega)
      obtain ⟨p, hp⟩ : ∃ p : Nat, st.getD k 0 = (p : Int) := ⟨(st.getD k 0).toNat, by omega⟩
      obtain ⟨s, hs1⟩ := ss_get (ss := ss) (k := k) (by have := H3.out; omega)
      rw [hp] at hs
      obtain ⟨t, ht1⟩ := ss_get (ss := ss) (k := p) (by have := H3.out; omega)
      have f0 : wr.cell? ⟨A', off' + k, none⟩ = some (.int .i64 (p : Int)) := by rw [HW.out, ← hp]; exact HC'.out k hlt
      have f1 : wr.cell? ⟨A, off + k, none⟩ = some (.string s) := by rw [HW.out]; exact HC.out k s hs1
      have f2 : wr.cell? ⟨A, off + p, none⟩ = some (.string t) := by rw [HW.out]; exact HC.out p t ht1
      have z1 := (HALL.out k s hs1).1
      have z2 := (HALL.out p t ht1).1
      have HF := Lib.hid (fun W => l7Far_any s t (by omega) (by omega) W)
      have HX : Hid (chgk (bka ss) st (k + 1) = chgk (bka ss) st k + fr s t) := by
        have := chgk_next (bka ss) st (k := k) (by omega)
        rw [hp, Int.toNat_natCast, bka_get hs1, bka_get ht1] at this
        exact this
      have hfl := fr_le s t
      rw [z1] at hfl
      have k0 : (0 : Int) ≤ (k : Int) := by omega
      have k1 : (k : Int) < (st.length : Int) := by omega
      have k2 : (k : Int) < (ss.length : Int) := by have := H3.out; omega
      have p0 : (0 : Int) ≤ (p : Int) := by omega
      have p1' : (p : Int) < (ss.length : Int) := by have := H3.out; omega
      clear hs hp hs1 ht1 z1 z2 hrd
      generalize chgk (bka ss) st k = X at hle HX ⊢
      generalize fr s t = Y at hfl HX HF
      go_wp2_with (fail)
      go_quiet ((go_at_call 40; exact Calls.quiet_of (HF.out _)))
      go_wp2
      go_roundw
      case rel => exact ⟨k + 1, by omega, by omega, by go_num, by rw [HX.out]; go_num, _, by rw [HW.out, World.drewN_drewN]⟩
      case measure => simp [intOf]; omega
    · have hke : k = st.length := by omega
      subst hke
      go_wp2
      go_ret
      exact ⟨rfl, d, HW.out⟩

set_option maxHeartbeats 8000000 in
theorem stemChanges_any (v u : Value) (ss : List ByteArray) (st : List Int) (w : World) (h : SV w v ss) (k : IV w u st) (hsz : ∀ s ∈ ss, s.size ≤ 4611686018427387904) :
    Calls Tryd.prog 11 #[v, u] w fun e w' => e = .returned (.int .i64 (sch ss st)) ∧ Below w.heap.size w w' := by
  have KV := Lib.hid (newStemTree_any v u ss st w h k hsz)
  unfold Treed at KV
  have KB := Lib.hid (fun W (hb : Below w.heap.size w W) => booksValid_any v ss W (h.below hb) hsz)
  clear h k hsz
  cases hv : svl ss st with
  | false =>
    rw [sch_no1 hv]
    rw [hv] at KV
    clear hv
    go_enter Tryd.func11, Tryd.ntmps11
    go_wp2_with (fail)
    (go_at_call 35; refine (KV.out).mono ?_; rintro e w1 ⟨tv, rfl, hno, hyes, hb1⟩)
    clear hno hyes
    go_wp2
    go_ret
    exact ⟨rfl, hb1⟩
  | true =>
  rw [hv] at KV
  cases hb : bval ss with
  | false =>
    rw [sch_no2 hb]
    rw [hb] at KB
    clear hv hb
    go_enter Tryd.func11, Tryd.ntmps11
    go_wp2_with (fail)
    (go_at_call 35; refine (KV.out).mono ?_; rintro e w1 ⟨tv, rfl, hno, hyes, hb1⟩)
    clear hno hyes
    go_wp2_with (fail)
    (go_at_call 36; refine (KB.out _ hb1).mono ?_; rintro e w2 ⟨rfl, hb2⟩)
    go_wp2
    go_ret
    exact ⟨rfl, bl_step hb1 hb2⟩
  | true =>
  rw [sch_yes hv hb]
  rw [hb] at KB
  obtain ⟨_, _, h3, _, hst⟩ := svl_in hv
  obtain ⟨hin, hall⟩ := bval_in hb
  obtain ⟨n1, n6, p1, p8⟩ := bkIn_parts hin
  have HALL := Lib.hid hall
  have HST := Lib.hid hst
  have H3 := Lib.hid h3
  have hrd : ∀ i, i < ss.length → (bka ss i).size = plc ss := fun i hi => by
    obtain ⟨s, hs⟩ := ss_get (ss := ss) (k := i) hi
    rw [bka_get hs]; exact (HALL.out i s hs).1
  have HRD := Lib.hid hrd
  clear hv hb hin hall hst h3 hrd
  go_enter Tryd.func11, Tryd.ntmps11
  go_wp2_with (fail)
  (go_at_call 35; refine (KV.out).mono ?_; rintro e w1 ⟨tv, rfl, hno, hyes, hb1⟩)
  obtain ⟨bs, hbl, hT⟩ := hyes (by trivial)
  have HBL := Lib.hid hbl
  have HT := Lib.hid hT
  clear hno hyes hbl hT
  go_wp2_with (fail)
  (go_at_call 36; refine (KB.out _ hb1).mono ?_; rintro e w2 ⟨rfl, hb2⟩)
  have HC := Lib.hid (changes_any tv bs (bka ss) st (plc ss) p8 (fun i hi => HRD.out i (by have := HBL.out; omega)) (by rw [HBL.out, ← H3.out]; exact HST.out) (by have := HBL.out; omega) (by have := HBL.out; omega) w2 (HT.out.below hb2))
  rw [HBL.out, ← H3.out] at HC
  have HB := Lib.hid (bl_step hb1 hb2)
  clear hb1 hb2
  go_wp2_with (fail)
  (go_at_call 37; refine (HC.out).mono ?_; rintro e w3 ⟨rfl, d, hw3⟩)
  have HW := Lib.hid hw3
  clear hw3
  go_wp2
  go_ret
  exact ⟨rfl, by rw [HW.out]; exact bl_drewN HB.out _⟩
end Go.Proofs.YtbeiedaldinhaaaDoor
