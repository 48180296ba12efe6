/-
  The draw of a list of psalm tones and a verse.
-/
import Derived.Test.YtcmcdomfmmjogaaDpn
import Derived.Test.YtcmcdomfmmjogaaPsl
namespace Go.Proofs.Ytcmcdomfmmjogaa
open Go.RowKit
set_option maxRecDepth 100000
set_option linter.unusedVariables false

/-- a psalm tone with its parts' values -/
abbrev PE := Psa × Value × Value × Value
def pcs : List PE → List Value
  | [] => []
  | r :: rs => r.2.1 :: .int .i64 r.1.tn.1 :: .bool r.1.tn.2 :: r.2.2.1 :: r.2.2.2 :: pcs rs
theorem pcs_len (rs : List PE) : (pcs rs).length = rs.length * 5 := by
  induction rs with
  | nil => rfl
  | cons r rs ih => simp [pcs, ih]; omega
theorem pcs_app (rs qs : List PE) : pcs (rs ++ qs) = pcs rs ++ pcs qs := by
  induction rs with
  | nil => rfl
  | cons r rs ih => simp [pcs, ih]
theorem pcs_get {rs : List PE} {i : Nat} {r : PE} (h : rs[i]? = some r) : (pcs rs)[i * 5]? = some r.2.1 ∧ (pcs rs)[i * 5 + 1]? = some (.int .i64 r.1.tn.1) ∧ (pcs rs)[i * 5 + 2]? = some (.bool r.1.tn.2) ∧ (pcs rs)[i * 5 + 3]? = some r.2.2.1 ∧ (pcs rs)[i * 5 + 4]? = some r.2.2.2 := by
  induction rs generalizing i with
  | nil => simp at h
  | cons q rs ih =>
    cases i with
    | zero => simp at h; subst h; exact ⟨rfl, rfl, rfl, rfl, rfl⟩
    | succ j =>
      have := ih (i := j) (by simpa using h)
      rw [show (j + 1) * 5 = j * 5 + 1 + 1 + 1 + 1 + 1 by omega]
      exact this
theorem TRow.keepT {w w' : World} {lo hi : Nat} {v : Value} {xs : List (Int × Bool)} (h : TRow w lo hi v xs) (hk : ∀ k cur, k < w.heap.size → lo ≤ k → w.heap[k]? = some (.cells cur 25 (0, 0)) → w'.heap[k]? = w.heap[k]?) : TRow w' lo hi v xs := by
  obtain ⟨⟨hl, h | ⟨g, cap, cur, rfl, hg, hh, hn, hcap, hsz, htake⟩⟩, hlt⟩ := h
  · exact ⟨⟨hl, .inl h⟩, hlt⟩
  · have hgs : g < w.heap.size := by
      rcases Nat.lt_or_ge g w.heap.size with h | h
      · exact h
      · rw [Array.getElem?_eq_none h] at hh; cases hh
    exact ⟨⟨hl, .inr ⟨g, cap, cur, rfl, hg, (hk g cur hgs hg hh).trans hh, hn, hcap, hsz, htake⟩⟩, hlt⟩
def PEin (w0 wr : World) (r : PE) : Prop :=
  TRow wr w0.heap.size wr.heap.size r.2.1 r.1.st ∧ TRow wr w0.heap.size wr.heap.size r.2.2.1 r.1.mi ∧ TRow wr w0.heap.size wr.heap.size r.2.2.2 r.1.en
/-- psalm tones being put one behind the other -/
structure PlI (w wr : World) (B A q : Nat) (v : Value) (rs : List PE) : Prop where
  own : wr.ownsRow w.heap.size 27 5 v rs.length (pcs rs)
  parts : ∀ r ∈ rs, PEin w wr r
  rd : Rd wr B A q
  gb : w.grownBy wr (some B)
theorem PlI.start {w : World} {B A q : Nat} (h : Rd w B A q) : PlI w (w.alloc (.cells #[] 27)) B A q (.slice (some ⟨w.heap.size, 0, none⟩) 0 0) [] :=
  ⟨⟨rfl, .inr ⟨w.heap.size, 0, #[], rfl, Nat.le_refl _, heap_alloc_new w _, by simp, by simp [maxLen], by simp, by simp [pcs]⟩⟩, fun r hr => by simp at hr, h.alloc _, gb_alloc (gb_refl _ _) _⟩
theorem PEin.draw {w wr w1 : World} {B : Nat} {r : PE} (h : PEin w wr r) (hg : wr.grownBy w1 (some B)) (hB : B < w.heap.size) : PEin w w1 r :=
  ⟨(h.1.keptB hg hB).lohi (Nat.le_refl _) hg.size, (h.2.1.keptB hg hB).lohi (Nat.le_refl _) hg.size, (h.2.2.keptB hg hB).lohi (Nat.le_refl _) hg.size⟩
theorem PlI.draw {w wr w1 : World} {B A q q' : Nat} {v : Value} {rs : List PE} (h : PlI w wr B A q v rs) (hr : Rd w1 B A q') (hg : wr.grownBy w1 (some B)) (hB : B < w.heap.size) : PlI w w1 B A q' v rs := by
  refine ⟨h.own.kept hg ?_, fun r hr => (h.parts r hr).draw hg hB, hr, gb_step h.gb hg⟩
  right
  intro e
  have := (h.own.lt B e).1
  omega
theorem psa_row_type {w : World} {base n : Nat} {v : Value} {xs : List Value} {k : Nat} (h : w.ownsRow base 27 5 v n xs) (hk : v.ownBlock = some k) : ∃ cur, w.heap[k]? = some (.cells cur 27 (0, 0)) := by
  obtain ⟨hl, h0 | ⟨g, cap, cur, rfl, hg, hh, hn, hcap, hsz, htake⟩⟩ := h
  · rw [h0.1] at hk; simp [Value.ownBlock] at hk
  · have e : g = k := by simpa [Value.ownBlock] using hk
    subst e
    exact ⟨cur, hh⟩
theorem PlI.app {w wr w2 : World} {B A q : Nat} {v v' : Value} {rs : List PE} {r : PE} {o : Obj} (h : PlI w wr B A q v rs) (hB : B < w.heap.size) (hA : A < w.heap.size) (hr : PEin w wr r)
    (hown : w2.ownsRow w.heap.size 27 5 v' (rs.length + 1) (pcs rs ++ [r.2.1, .int .i64 r.1.tn.1, .bool r.1.tn.2, r.2.2.1, r.2.2.2])) (hg : (wr.alloc o).grownBy w2 v.ownBlock) : PlI w w2 B A q v' (rs ++ [r]) := by
  have hlt : ∀ g, v.ownBlock = some g → w.heap.size ≤ g := fun g hg => (h.own.lt g hg).1
  have hsz : wr.heap.size ≤ w2.heap.size := by have := hg.size; simp at this; omega
  have keep : ∀ {u : Value} {xs : List (Int × Bool)}, TRow wr w.heap.size wr.heap.size u xs → TRow w2 w.heap.size w2.heap.size u xs := fun {u xs} t =>
    (t.keepT fun k cur hk _ hc => by
      refine (hg.block k (by simp; omega) (fun e => ?_)).trans (((Below.refl wr.heap.size wr).alloc (Nat.le_refl _) o).block k hk)
      obtain ⟨cur', hc'⟩ := psa_row_type h.own e.symm
      rw [hc] at hc'
      injection hc' with hc'
      injection hc' with _ hc' _
      exact absurd hc' (by decide)).lohi (Nat.le_refl _) hsz
  have hin : ∀ {r : PE}, PEin w wr r → PEin w w2 r := fun hr => ⟨keep hr.1, keep hr.2.1, keep hr.2.2⟩
  refine ⟨?_, fun x hx => ?_, (h.rd.alloc o).grown hg (fun e => by have := hlt B e.symm; omega) (fun e => by have := hlt A e.symm; omega), gb_own h.gb hg hlt⟩
  · have e : pcs (rs ++ [r]) = pcs rs ++ [r.2.1, .int .i64 r.1.tn.1, .bool r.1.tn.2, r.2.2.1, r.2.2.2] := by rw [pcs_app]; rfl
    rw [e]; simpa using hown
  · rcases List.mem_append.1 hx with hx | hx
    · exact hin (h.parts x hx)
    · rw [List.mem_singleton] at hx; subst hx; exact hin hr
theorem PlI.view {w wr : World} {B A q : Nat} {v : Value} {rs : List PE} (h : PlI w wr B A q v rs) : PLV wr v (rs.map (·.1)) := by
  obtain ⟨hl, h0 | ⟨g, cap, cur, rfl, hg, hh, hn, hcap, hsz, htake⟩⟩ := h.own
  · obtain ⟨rfl, h1⟩ := h0
    have h2 : rs = [] := List.eq_nil_of_length_eq_zero h1
    subst h2
    exact ⟨none, 0, rfl, .inl rfl, Nat.le_refl _, Nat.zero_le _⟩
  · have hgs : g < wr.heap.size := by
      rcases Nat.lt_or_ge g wr.heap.size with h | h
      · exact h
      · rw [Array.getElem?_eq_none h] at hh; cases hh
    refine ⟨_, cap, by rw [List.length_map], .inr ⟨g, 0, rfl, hgs, fun i p hp => ?_⟩, by rw [List.length_map]; exact hn, hcap⟩
    rw [List.getElem?_map] at hp
    obtain ⟨r, hr, rfl⟩ := Option.map_eq_some_iff.1 hp
    have hi : i < rs.length := (List.getElem?_eq_some_iff.1 hr).1
    obtain ⟨c0, c1, c2, c3, c4⟩ := pcs_get hr
    rw [← htake, List.getElem?_take_of_lt (by omega), Array.getElem?_toList] at c0 c1 c2 c3 c4
    obtain ⟨p0, p1, p2⟩ := h.parts r (List.mem_of_getElem? hr)
    refine ⟨r.2.1, r.2.2.1, r.2.2.2, ?_, ?_, ?_, ?_, ?_, ⟨_, _, p0⟩, ⟨_, _, p1⟩, ⟨_, _, p2⟩⟩
    all_goals (rw [Nat.zero_add]; simp [World.cell?, hh, c0, c1, c2, c3, c4])

theorem new5 {w : World} {v0 v1 v2 v3 v4 : Value} {t : TypeId} : ∀ j u, ([v0, v1, v2, v3, v4] : List Value)[j]? = some u → (w.alloc (.cells #[v0, v1, v2, v3, v4] t)).cell? ((⟨w.heap.size, 0, none⟩ : Addr).add j) = some u := by
  intro j u hj
  match j, hj with
  | 0, hj => simp at hj; subst hj; simp [Addr.add]
  | 1, hj => simp at hj; subst hj; simp [Addr.add]
  | 2, hj => simp at hj; subst hj; simp [Addr.add]
  | 3, hj => simp at hj; subst hj; simp [Addr.add]
  | 4, hj => simp at hj; subst hj; simp [Addr.add]
theorem new5_one {a0 a1 a2 : Option Addr} {n0 n1 n2 c0 c1 c2 : Nat} {s : Int} {b : Bool} : ∀ u ∈ ([.slice a0 n0 c0, .int .i64 s, .bool b, .slice a1 n1 c1, .slice a2 n2 c2] : List Value), u.oneCell' = true := by
  intro u hu
  simp at hu
  rcases hu with rfl | rfl | rfl | rfl | rfl <;> rfl
theorem infoPsalmD : (Try.prog.info? 27).map (fun i => (i.zero, i.size, i.bytes)) = some (some (.agg #[.slice none 0 0, .int .i64 0, .bool false, .slice none 0 0, .slice none 0 0]), 5, 88) := by kernel_rfl
def PlPicked (B A q : Nat) (w : World) (e : Ending) (w' : World) : Prop :=
  ∃ v rs, e = .returned v ∧ rs.length ≤ 3 ∧ PlI w w' B A (q + 200) v rs
theorem PlI.more {w wr : World} {B A q q' : Nat} {v : Value} {rs : List PE} (h : PlI w wr B A q v rs) (hq : q ≤ q') : PlI w wr B A q' v rs := ⟨h.own, h.parts, h.rd.more hq, h.gb⟩

set_option maxHeartbeats 2000000 in
theorem l91Psalms_any (B A q : Nat) (hq : q ≤ 700000) (w : World) (h : Rd w B A q) :
    Calls Try.prog 59 #[.pointer (some ⟨B, 0, none⟩)] w (PlPicked B A q w) := by
  obtain ⟨i0, hi, hq0, hq1, hq2⟩ := info_parts infoPsalmD
  have hB := h.lt
  have hA := h.ltA
  have HI0 := Lib.hid (PlI.start h)
  clear h
  go_enter Try.func59, Try.ntmps59
  go_wp2_with (fail)
  (go_at_call 63; refine (pick_any 4 B A q (by omega) (by omega) (by omega) _ HI0.out.rd).mono ?_; rintro e w1 ⟨n1, rfl, p0, p1, hr1, hb1⟩)
  have HI1 := Lib.hid (HI0.out.draw hr1 hb1 hB)
  obtain ⟨n, rfl⟩ : ∃ n : Nat, n1 = (n : Int) := ⟨n1.toNat, by omega⟩
  clear hr1 hb1 HI0
  go_wp2
  go_loopw [3, 5] (fun v i wr => ∃ (k : Nat) (rs : List PE), k ≤ n ∧ rs.length = k ∧ i = .int .i64 k ∧ PlI w wr B A (q + 1 + 60 * k) v rs) (fun _ i _ => n - (intOf i).toNat)
  case atStart => exact ⟨0, [], Nat.zero_le _, rfl, rfl, HI1.out⟩
  case round =>
    obtain ⟨k, rs, hk, hx, rfl, hI⟩ := hrel
    by_cases hlt : k < n
    · have hk0 : (0 : Int) ≤ (k : Int) := by omega
      have hk1 : (k : Int) < (n : Int) := by omega
      have HI := Lib.hid hI
      clear hI
      go_wp2_with (fail)
      (go_at_call 75; refine (l91Psalm_any B A (q + 1 + 60 * k) (by omega) _ HI.out.rd).mono ?_; rintro e w3 ⟨v0, v1, v2, p, rfl, t0, t1, t2, _, _, _, hr3, hb3⟩)
      have hlo : w.heap.size ≤ wr.heap.size := HI.out.gb.size
      have hPE : PEin w w3 (p, v0, v1, v2) := ⟨t0.lohi hlo (Nat.le_refl _), t1.lohi hlo (Nat.le_refl _), t2.lohi hlo (Nat.le_refl _)⟩
      obtain ⟨a0, c0, rfl, _, _⟩ := (LV.sl ⟨_, _, t0⟩)
      obtain ⟨a1, c1, rfl, _, _⟩ := (LV.sl ⟨_, _, t1⟩)
      obtain ⟨a2, c2, rfl, _, _⟩ := (LV.sl ⟨_, _, t2⟩)
      have HPE := Lib.hid hPE
      have HI3 := Lib.hid (HI.out.draw hr3 hb3 hB)
      have hown := HI3.out.own
      rw [hx] at hown
      have HX := Lib.hid hx
      have hz3 : w.heap.size ≤ w3.heap.size := HI3.out.gb.size
      clear t0 t1 t2 hr3 hb3 hx HI hlo hPE
      generalize p.st.length = m0 at *
      generalize p.mi.length = m1 at *
      generalize p.en.length = m2 at *
      go_wp2_with (at_builtin; refine wpList_append_own _ rfl _ _ 43 rfl w.heap.size 27 i0 (.agg #[.slice none 0 0, .int .i64 0, .bool false, .slice none 0 0, .slice none 0 0]) 5 88 Try.underlying43 hi hq0 hq1 hq2 rfl (by decide) _ _ _ rfl (hown.alloc _) ⟨w3.heap.size, 0, none⟩ 1 1 [.slice a0 m0 c0, .int .i64 p.tn.1, .bool p.tn.2, .slice a1 m1 c1, .slice a2 m2 c2] rfl rfl new5 new5_one (by unfold maxLen; omega) (by omega) (by simp; omega) ?_)
      intro v' w5 hown' hgrow _
      have hI5 := HI3.out.app hB hA HPE.out (by rw [HX.out]; exact hown') hgrow
      have HI5 := Lib.hid hI5
      clear hown hown' hgrow hI5
      go_wp2
      go_roundw
      case rel => exact ⟨k + 1, _, by omega, by rw [List.length_append, HX.out]; rfl, by go_num, HI5.out.more (by omega)⟩
      case measure => simp [intOf]; omega
    · have hke : k = n := by omega
      subst hke
      have HE : Hid (PlPicked B A q w (.returned _) wr) := ⟨_, rs, rfl, by omega, hI.more (by omega)⟩
      clear hI
      go_wp2
      go_ret
      exact HE.out

/-- a list of psalm tones and a verse of a draw -/
def DrewPb (w : World) (e : Ending) (w' : World) : Prop :=
  ∃ (v : Value) (ps : List Psa) (s : ByteArray), e = .returned (.tuple #[v, .string s]) ∧ PLV w' v ps ∧ ps.length ≤ 3 ∧ s.size ≤ 40 ∧ Below w.heap.size w w'

set_option maxHeartbeats 1500000 in
theorem drawPsalmBest_any (a : Option Addr) (n cap : Nat) (w : World) (h : CodeAt w a n) (hc : n ≤ cap) (hcap : cap ≤ maxLen) :
    Calls Try.prog 32 #[.slice a n cap] w (DrewPb w) := by
  go_enter Try.func32, Try.ntmps32
  go_wp2_with (fail)
  (go_at_call 47; refine (open_any a n cap _ h hc hcap).mono ?_; rintro e w1 ⟨A, rfl, hr1, hb1, hs1⟩)
  have hB := hr1.lt
  have z1 := hb1.size
  go_wp2_with (fail)
  (go_at_call 59; refine (l91Psalms_any w.heap.size A 0 (by omega) _ hr1).mono ?_; rintro e w2 ⟨v, rs, rfl, hl, hI⟩)
  have hb2 : Below w.heap.size w w2 := below_gb hb1 hI.gb (by omega)
  have HI := Lib.hid hI
  clear hI hr1
  go_wp2_with (fail)
  (go_at_call 60; refine (l91Verse_any w.heap.size A (0 + 200) (by omega) _ HI.out.rd).mono ?_; rintro e w3 ⟨s, rfl, hs, hr3, hb3⟩)
  have hb3' : Below w.heap.size w w3 := below_gb hb2 hb3 (by omega)
  have HF : Hid (DrewPb w (.returned (.tuple #[v, .string s])) w3) := ⟨v, _, s, rfl, (HI.out.draw hr3 hb3 hB).view, by simpa using hl, hs, hb3'⟩
  clear hr3 hb3
  go_wp2
  refine bodyPost_ret (v := .tuple #[v, .string s]) (by simp only [results, Try.results32]; go_simp) rfl ?_
  exact HF.out
end Go.Proofs.Ytcmcdomfmmjogaa
