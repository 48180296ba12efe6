/-
  The notes of a verse, in the program.
-/
import Derived.Test.YtcmcdomfmmjogaaPso
import Derived.OwnWalk
namespace Go.Proofs.Ytcmcdomfmmjogaa
open Go.RowKit
set_option maxRecDepth 100000
set_option linter.unusedVariables false

/-- the cells of notes -/
def ncs : List Note → List Value
  | [] => []
  | n :: r => .int .i64 n.1.1 :: .bool n.1.2 :: .int .i64 n.2.1 :: .bool n.2.2 :: ncs r
theorem ncs_len (xs : List Note) : (ncs xs).length = xs.length * 4 := by
  induction xs with
  | nil => rfl
  | cons t r ih => simp [ncs, ih]; omega
theorem ncs_app (xs ys : List Note) : ncs (xs ++ ys) = ncs xs ++ ncs ys := by
  induction xs with
  | nil => rfl
  | cons t r ih => simp [ncs, ih]
theorem ncs_get {xs : List Note} {i : Nat} {n : Note} (h : xs[i]? = some n) : (ncs xs)[i * 4]? = some (.int .i64 n.1.1) ∧ (ncs xs)[i * 4 + 1]? = some (.bool n.1.2) ∧ (ncs xs)[i * 4 + 2]? = some (.int .i64 n.2.1) ∧ (ncs xs)[i * 4 + 3]? = some (.bool n.2.2) := by
  induction xs generalizing i with
  | nil => simp at h
  | cons u r ih =>
    cases i with
    | zero => simp at h; subst h; exact ⟨rfl, rfl, rfl, rfl⟩
    | succ j =>
      have := ih (i := j) (by simpa using h)
      rw [show (j + 1) * 4 = j * 4 + 1 + 1 + 1 + 1 by omega]
      exact this
/-- notes in memory -/
def NV (w : World) (v : Value) (ns : List Note) : Prop :=
  ∃ a c, v = .slice a ns.length c ∧ ns.length ≤ c ∧ c ≤ maxLen ∧ ∀ i n, ns[i]? = some n → ∃ g, a = some ⟨g, 0, none⟩ ∧ g < w.heap.size ∧
    w.cell? ⟨g, i * 4, none⟩ = some (.int .i64 n.1.1) ∧ w.cell? ⟨g, i * 4 + 1, none⟩ = some (.bool n.1.2) ∧ w.cell? ⟨g, i * 4 + 2, none⟩ = some (.int .i64 n.2.1) ∧ w.cell? ⟨g, i * 4 + 3, none⟩ = some (.bool n.2.2)
theorem nv_of {w : World} {lo : Nat} {v : Value} {ns : List Note} (h : w.ownsRow lo 71 4 v ns.length (ncs ns)) : NV w v ns := by
  obtain ⟨hl, ⟨rfl, h0⟩ | ⟨g, cap, cur, rfl, hg, hh, hn, hcap, hsz, htake⟩⟩ := h
  · exact ⟨none, 0, by rw [h0], by omega, Nat.zero_le _, fun i n hi => by rw [List.eq_nil_of_length_eq_zero h0] at hi; simp at hi⟩
  · have hgs : g < w.heap.size := by
      rcases Nat.lt_or_ge g w.heap.size with h | h
      · exact h
      · rw [Array.getElem?_eq_none h] at hh; cases hh
    refine ⟨_, cap, rfl, hn, hcap, fun i n hi => ⟨g, rfl, hgs, ?_⟩⟩
    obtain ⟨h0, h1, h2, h3⟩ := ncs_get hi
    have hil : i < ns.length := (List.getElem?_eq_some_iff.1 hi).1
    rw [← htake, List.getElem?_take_of_lt (by omega), Array.getElem?_toList] at h0 h1 h2 h3
    exact ⟨by simp [World.cell?, hh, h0], by simp [World.cell?, hh, h1], by simp [World.cell?, hh, h2], by simp [World.cell?, hh, h3]⟩
theorem NV.below {w w' : World} {v : Value} {ns : List Note} (h : NV w v ns) (hb : Below w.heap.size w w') : NV w' v ns := by
  obtain ⟨a, c, e, h1, h2, hc⟩ := h
  refine ⟨a, c, e, h1, h2, fun i n hi => ?_⟩
  obtain ⟨g, eg, hg, k0, k1, k2, k3⟩ := hc i n hi
  exact ⟨g, eg, Nat.lt_of_lt_of_le hg hb.size, keepc k0 hb, keepc k1 hb, keepc k2 hb, keepc k3 hb⟩
/-- notes that a call has made, and whether it succeeds -/
def NBuilt2 (w : World) (ns : List Note) (ok : Bool) (e : Ending) (w' : World) : Prop :=
  ∃ v, e = .returned (.tuple #[v, .bool ok]) ∧ NV w' v ns ∧ Below w.heap.size w w'
theorem nv_nil (w : World) : NV w (.slice none 0 0) [] := ⟨none, 0, rfl, Nat.le_refl _, Nat.zero_le _, fun i n hi => by simp at hi⟩
theorem news4 {w : World} {a c : Int} {b d : Bool} {t : TypeId} : ∀ j u, ([.int .i64 a, .bool b, .int .i64 c, .bool d] : List Value)[j]? = some u → (w.alloc (.cells #[.int .i64 a, .bool b, .int .i64 c, .bool d] t)).cell? ((⟨w.heap.size, 0, none⟩ : Addr).add j) = some u := by
  intro j u hj
  match j, hj with
  | 0, hj => simp at hj; subst hj; simp [Addr.add]
  | 1, hj => simp at hj; subst hj; simp [Addr.add]
  | 2, hj => simp at hj; subst hj; simp [Addr.add]
  | 3, hj => simp at hj; subst hj; simp [Addr.add]
theorem news4_one {a c : Int} {b d : Bool} : ∀ u ∈ ([.int .i64 a, .bool b, .int .i64 c, .bool d] : List Value), u.oneCell' = true := by
  intro u hu
  simp at hu
  rcases hu with rfl | rfl | rfl | rfl <;> rfl
theorem infoNote : (Try.prog.info? 71).map (fun i => (i.zero, i.size, i.bytes)) = some (some (.agg #[.int .i64 0, .bool false, .int .i64 0, .bool false]), 4, 32) := by kernel_rfl
/-- notes being made -/
structure NoI (w0 wr : World) (v : Value) (ns : List Note) : Prop where
  own : wr.ownsRow w0.heap.size 71 4 v ns.length (ncs ns)
  bl : Below w0.heap.size w0 wr
theorem NoI.start (w : World) : NoI w (w.alloc (.cells #[] 71)) (.slice (some ⟨w.heap.size, 0, none⟩) 0 0) [] :=
  ⟨⟨rfl, .inr ⟨w.heap.size, 0, #[], rfl, Nat.le_refl _, heap_alloc_new w _, by simp, by simp [maxLen], by simp, by simp [ncs]⟩⟩, (Below.refl _ _).alloc (Nat.le_refl _) _⟩
theorem NoI.app {w0 w1 w2 : World} {v v' : Value} {ns : List Note} {n : Note} {o : Obj} (h : NoI w0 w1 v ns) (hown : w2.ownsRow w0.heap.size 71 4 v' (ns.length + 1) (ncs ns ++ [.int .i64 n.1.1, .bool n.1.2, .int .i64 n.2.1, .bool n.2.2])) (hg : (w1.alloc o).grownBy w2 v.ownBlock) : NoI w0 w2 v' (ns ++ [n]) := by
  refine ⟨?_, (h.bl.alloc h.bl.size o).grown hg (by have := h.bl.size; simp; omega) (fun k hk => (h.own.lt k hk).1)⟩
  have e : ncs (ns ++ [n]) = ncs ns ++ [.int .i64 n.1.1, .bool n.1.2, .int .i64 n.2.1, .bool n.2.2] := by rw [ncs_app]; rfl
  rw [e]; simpa using hown

theorem nrow_below {w w1 : World} {base e size n : Nat} {v : Value} {xs : List Value} (h : w.ownsRow base e size v n xs) (hb : Below w.heap.size w w1) : w1.ownsRow base e size v n xs := by
  obtain ⟨hl, h | ⟨g, cap, cur, hv, hg, hh, hr⟩⟩ := h
  · exact ⟨hl, .inl h⟩
  · have hgs : g < w.heap.size := by
      rcases Nat.lt_or_ge g w.heap.size with h | h
      · exact h
      · rw [Array.getElem?_eq_none h] at hh; cases hh
    exact ⟨hl, .inr ⟨g, cap, cur, hv, hg, (hb.block g hgs).trans hh, hr⟩⟩
theorem NoI.below {w0 wr w' : World} {v : Value} {ns : List Note} (h : NoI w0 wr v ns) (hb : Below wr.heap.size wr w') : NoI w0 w' v ns := ⟨nrow_below h.own hb, bl_step h.bl hb⟩
theorem NoI.sl {w0 wr : World} {v : Value} {ns : List Note} (h : NoI w0 wr v ns) : ∃ a c, v = .slice a ns.length c := by
  obtain ⟨a, c, e, _⟩ := nv_of h.own
  exact ⟨a, c, e⟩

theorem syllP_any (x y : ByteArray) (hx : x.size ≤ 1048577) (hy : y.size ≤ 1048577) (w : World) :
    Calls Try.prog 51 #[.agg #[.string x, .string y]] w fun e w' => e = .returned (.string (x ++ y)) ∧ Below w.heap.size w w' := by
  have hadd : ∀ W : World, (Op.stringOp .add x y).run Try.prog W = .ok (.string (x ++ y)) W := fun W => run_string_add_sum W _ _ (by omega)
  go_enter Try.func51, Try.ntmps51
  go_wp2
  go_ret
  exact ⟨rfl, by (repeat' (first | (with_reducible exact Below.refl _ _) | (with_reducible refine Below.alloc ?_ ?_ _) | (with_reducible refine Below.drew ?_) | (with_reducible refine Below.setCell ?_ ?_ _) | (with_reducible refine bl_step ?_ (by assumption)) | go_size))⟩

theorem PsAns.val {w : World} {p : Psa} {x y : ByteArray} {e : Ending} {w' : World} (h : PsAns w p x y e w') : ∃ f b, e = .returned (.tuple #[f, .bool b]) ∧ Below w.heap.size w w' ∧
    ((b = true ∧ p.st.length + p.mi.length ≤ x.size ∧ p.en.length ≤ y.size ∧ ∃ bv d0 d1, f = psSingF bv d0 d1 ∧ PsSing w' bv d0 d1 p x y) ∨ (b = false ∧ (x.size < p.st.length + p.mi.length ∨ y.size < p.en.length))) := by
  obtain ⟨hb, ⟨h1, h2, bv, d0, d1, rfl, hs⟩ | ⟨h1, rfl⟩⟩ := h
  · exact ⟨_, _, rfl, hb, .inl ⟨rfl, h1, h2, bv, d0, d1, rfl, hs⟩⟩
  · exact ⟨_, _, rfl, hb, .inr ⟨rfl, h1⟩⟩

set_option maxHeartbeats 8000000 in
theorem notesOf_any (v : Value) (p : Psa) (s : ByteArray) (hs : s.size ≤ 1048577) (w : World) (h : PV w v p) (hm : MaxAt w) :
    Calls Try.prog 48 #[v, .string s] w (NBuilt2 w (nos p s) (pfit p s)) := by
  have KN := Lib.hid (fun W (hb : Below w.heap.size w W) => newPsalmTone_any v p W (h.below hb))
  have KP := Lib.hid (fun W (hb : Below w.heap.size w W) => psalmValid_any v p W (h.below hb))
  have KV := Lib.hid (fun W (hb : Below w.heap.size w W) => newVerse_any s hs W (hm.below hb))
  obtain ⟨v0, v1, v2, rfl, h0, h1, h2⟩ := h
  obtain ⟨a0, c0, rfl, _, _⟩ := h0.sl
  obtain ⟨a1, c1, rfl, _, _⟩ := h1.sl
  obtain ⟨a2, c2, rfl, _, _⟩ := h2.sl
  obtain ⟨i0, hi0, hq0, hq1, hq2⟩ := info_parts infoNote
  have hsz := vhalf_size s
  clear h0 h1 h2 hm
  obtain ⟨n0, hn0⟩ : ∃ n, p.st.length = n := ⟨_, rfl⟩
  obtain ⟨n1, hn1⟩ : ∃ n, p.mi.length = n := ⟨_, rfl⟩
  obtain ⟨n2, hn2⟩ : ∃ n, p.en.length = n := ⟨_, rfl⟩
  rw [hn0, hn1, hn2] at KN KP ⊢
  have HN0 := Lib.hid hn0
  have HN1 := Lib.hid hn1
  have HN2 := Lib.hid hn2
  clear hn0 hn1 hn2
  have HF : Hid (pfit p s = false → ∀ w1, Below w.heap.size w w1 → NBuilt2 w (nos p s) (pfit p s) (.returned (.tuple #[.slice none 0 0, .bool false])) w1) := fun hp w1 hb => by
    rw [nos_no hp, hp]
    exact ⟨_, rfl, nv_nil w1, hb⟩
  by_cases hv : vvl s.data.toList = true
  case neg =>
    have hv : vvl s.data.toList = false := by simpa using hv
    have HE := Lib.hid (HF.out (pfit_no2 hv))
    rw [hv] at KV
    clear hv HF
    generalize vFst s = x at *
    generalize vSnd s = y at *
    go_enter Try.func48, Try.ntmps48
    go_wp2_with (fail)
    (go_at_call 50; refine (KV.out _ (by (repeat' (first | (with_reducible exact Below.refl _ _) | (with_reducible refine Below.alloc ?_ ?_ _) | (with_reducible refine Below.drew ?_) | (with_reducible refine Below.setCell ?_ ?_ _) | (with_reducible refine bl_step ?_ (by assumption)) | go_size)))).mono ?_; rintro e w1 ⟨rfl, hb1⟩; obtain ⟨hc1, hf1, hz1⟩ := bl hb1; (try simp at hz1); (try (refine got (p := w.heap.size < w1.heap.size) ?_ ?_; (focus (go_size; done)); intro q1_w0)); (try (refine got (p := w1.cell? ⟨w.heap.size, 0, none⟩ = some (.slice a0 n0 c0)) ?_ ?_; (focus (refine (hc1 _ _ ?_).trans ?_; (focus (go_size; done)); go_simp; done)); intro c1_w0_0)); (try (refine got (p := w1.cell? ⟨w.heap.size, 1, none⟩ = some (.int .i64 p.tn.1)) ?_ ?_; (focus (refine (hc1 _ _ ?_).trans ?_; (focus (go_size; done)); go_simp; done)); intro c1_w0_1)); (try (refine got (p := w1.cell? ⟨w.heap.size, 2, none⟩ = some (.bool p.tn.2)) ?_ ?_; (focus (refine (hc1 _ _ ?_).trans ?_; (focus (go_size; done)); go_simp; done)); intro c1_w0_2)); (try (refine got (p := w1.cell? ⟨w.heap.size, 3, none⟩ = some (.slice a1 n1 c1)) ?_ ?_; (focus (refine (hc1 _ _ ?_).trans ?_; (focus (go_size; done)); go_simp; done)); intro c1_w0_3)); (try (refine got (p := w1.cell? ⟨w.heap.size, 4, none⟩ = some (.slice a2 n2 c2)) ?_ ?_; (focus (refine (hc1 _ _ ?_).trans ?_; (focus (go_size; done)); go_simp; done)); intro c1_w0_4)); (try (refine got (p := ∀ o, w1.frozen? ⟨w.heap.size, o, none⟩ = false) ?_ ?_; (focus (intro o; refine (hf1 _ _ ?_).trans ?_; (focus (go_size; done)); go_simp; done)); intro f1_w0)); clear hc1 hf1)
    go_wp2
    go_ret2
    exact HE.out _ (by (repeat' (first | (with_reducible exact Below.refl _ _) | (with_reducible refine Below.alloc ?_ ?_ _) | (with_reducible refine Below.drew ?_) | (with_reducible refine Below.setCell ?_ ?_ _) | (with_reducible refine bl_step ?_ (by assumption)) | go_size)))
  rw [hv] at KV
  by_cases hp : pv p = true
  case neg =>
    have hp : pv p = false := by simpa using hp
    have HE := Lib.hid (HF.out (pfit_no1 hp))
    rw [hp] at KP
    clear hp hv HF
    generalize vFst s = x at *
    generalize vSnd s = y at *
    go_enter Try.func48, Try.ntmps48
    go_wp2_with (fail)
    (go_at_call 50; refine (KV.out _ (by (repeat' (first | (with_reducible exact Below.refl _ _) | (with_reducible refine Below.alloc ?_ ?_ _) | (with_reducible refine Below.drew ?_) | (with_reducible refine Below.setCell ?_ ?_ _) | (with_reducible refine bl_step ?_ (by assumption)) | go_size)))).mono ?_; rintro e w1 ⟨rfl, hb1⟩; obtain ⟨hc1, hf1, hz1⟩ := bl hb1; (try simp at hz1); (try (refine got (p := w.heap.size < w1.heap.size) ?_ ?_; (focus (go_size; done)); intro q1_w0)); (try (refine got (p := w1.cell? ⟨w.heap.size, 0, none⟩ = some (.slice a0 n0 c0)) ?_ ?_; (focus (refine (hc1 _ _ ?_).trans ?_; (focus (go_size; done)); go_simp; done)); intro c1_w0_0)); (try (refine got (p := w1.cell? ⟨w.heap.size, 1, none⟩ = some (.int .i64 p.tn.1)) ?_ ?_; (focus (refine (hc1 _ _ ?_).trans ?_; (focus (go_size; done)); go_simp; done)); intro c1_w0_1)); (try (refine got (p := w1.cell? ⟨w.heap.size, 2, none⟩ = some (.bool p.tn.2)) ?_ ?_; (focus (refine (hc1 _ _ ?_).trans ?_; (focus (go_size; done)); go_simp; done)); intro c1_w0_2)); (try (refine got (p := w1.cell? ⟨w.heap.size, 3, none⟩ = some (.slice a1 n1 c1)) ?_ ?_; (focus (refine (hc1 _ _ ?_).trans ?_; (focus (go_size; done)); go_simp; done)); intro c1_w0_3)); (try (refine got (p := w1.cell? ⟨w.heap.size, 4, none⟩ = some (.slice a2 n2 c2)) ?_ ?_; (focus (refine (hc1 _ _ ?_).trans ?_; (focus (go_size; done)); go_simp; done)); intro c1_w0_4)); (try (refine got (p := ∀ o, w1.frozen? ⟨w.heap.size, o, none⟩ = false) ?_ ?_; (focus (intro o; refine (hf1 _ _ ?_).trans ?_; (focus (go_size; done)); go_simp; done)); intro f1_w0)); clear hc1 hf1)
    go_wp2_with (fail)
    (go_at_call 27; refine (KP.out _ (by (repeat' (first | (with_reducible exact Below.refl _ _) | (with_reducible refine Below.alloc ?_ ?_ _) | (with_reducible refine Below.drew ?_) | (with_reducible refine Below.setCell ?_ ?_ _) | (with_reducible refine bl_step ?_ (by assumption)) | go_size)))).mono ?_; rintro e w2 ⟨rfl, hb2⟩; obtain ⟨hc2, hf2, hz2⟩ := bl hb2; (try simp at hz2); (try (refine got (p := w.heap.size < w2.heap.size) ?_ ?_; (focus (go_size; done)); intro q2_w0)); (try (refine got (p := w2.cell? ⟨w.heap.size, 0, none⟩ = some (.slice a0 n0 c0)) ?_ ?_; (focus (refine (hc2 _ _ ?_).trans ?_; (focus (go_size; done)); go_simp; done)); intro c2_w0_0)); (try (refine got (p := w2.cell? ⟨w.heap.size, 1, none⟩ = some (.int .i64 p.tn.1)) ?_ ?_; (focus (refine (hc2 _ _ ?_).trans ?_; (focus (go_size; done)); go_simp; done)); intro c2_w0_1)); (try (refine got (p := w2.cell? ⟨w.heap.size, 2, none⟩ = some (.bool p.tn.2)) ?_ ?_; (focus (refine (hc2 _ _ ?_).trans ?_; (focus (go_size; done)); go_simp; done)); intro c2_w0_2)); (try (refine got (p := w2.cell? ⟨w.heap.size, 3, none⟩ = some (.slice a1 n1 c1)) ?_ ?_; (focus (refine (hc2 _ _ ?_).trans ?_; (focus (go_size; done)); go_simp; done)); intro c2_w0_3)); (try (refine got (p := w2.cell? ⟨w.heap.size, 4, none⟩ = some (.slice a2 n2 c2)) ?_ ?_; (focus (refine (hc2 _ _ ?_).trans ?_; (focus (go_size; done)); go_simp; done)); intro c2_w0_4)); (try (refine got (p := ∀ o, w2.frozen? ⟨w.heap.size, o, none⟩ = false) ?_ ?_; (focus (intro o; refine (hf2 _ _ ?_).trans ?_; (focus (go_size; done)); go_simp; done)); intro f2_w0)); clear hc2 hf2)
    go_wp2
    go_ret2
    exact HE.out _ (by (repeat' (first | (with_reducible exact Below.refl _ _) | (with_reducible refine Below.alloc ?_ ?_ _) | (with_reducible refine Below.drew ?_) | (with_reducible refine Below.setCell ?_ ?_ _) | (with_reducible refine bl_step ?_ (by assumption)) | go_size)))
  rw [hp] at KP
  obtain ⟨_, pa, pb, pc⟩ := pv_in hp
  have hpl : p.st.length + p.mi.length ≤ 100 := by have := (partV_in pa).2.1; have := (partV_in pb).2.1; omega
  have hpl2 : p.en.length ≤ 100 := by have := (partV_in pc).2.1; omega
  clear pa pb pc
  have HFIT : Hid (∀ (h3 : p.st.length + p.mi.length ≤ (vFst s).size) (h4 : p.en.length ≤ (vSnd s).size), pfit p s = true) := fun h3 h4 => pfit_yes hp hv h3 h4
  have HNO : Hid ((vFst s).size < p.st.length + p.mi.length ∨ (vSnd s).size < p.en.length → pfit p s = false) := fun h => h.elim pfit_no3 pfit_no4
  have HNV : Hid (∀ i, noV p s i = if i < (vFst s).size then noH p.st p.tn p.mi (vFst s) i else noH [] p.tn p.en (vSnd s) (i - (vFst s).size)) := fun i => rfl
  have HNK := Lib.hid (noK_succ p s)
  have HNL := Lib.hid (noK_len p s)
  have HNY : Hid (pfit p s = true → nos p s = noK p s ((vFst s).size + (vSnd s).size)) := fun h => nos_yes h
  have HNZ : Hid (noK p s 0 = []) := rfl
  clear hp hv
  generalize vFst s = x at *
  generalize vSnd s = y at *
  generalize nos p s = NS at *
  generalize pfit p s = ok at *
  generalize noK p s = nk at *
  generalize noV p s = nn at *
  have KS := Lib.hid (syllP_any x y (by omega) (by omega))
  have K1 := Lib.hid (fun d0 d1 W (ht : PsT W d0 d1 p) => (newPsalm1_any d0 d1 p x y (by omega) (by omega) hpl hpl2 W ht).mono fun e w' h => h.val)
  have hxy : (x ++ y).size = x.size + y.size := ByteArray.size_append
  generalize x ++ y = z at *
  go_enter Try.func48, Try.ntmps48
  go_wp2_with (fail)
  (go_at_call 50; refine (KV.out _ (by (repeat' (first | (with_reducible exact Below.refl _ _) | (with_reducible refine Below.alloc ?_ ?_ _) | (with_reducible refine Below.drew ?_) | (with_reducible refine Below.setCell ?_ ?_ _) | (with_reducible refine bl_step ?_ (by assumption)) | go_size)))).mono ?_; rintro e w1 ⟨rfl, hb1⟩; obtain ⟨hc1, hf1, hz1⟩ := bl hb1; (try simp at hz1); (try (refine got (p := w.heap.size < w1.heap.size) ?_ ?_; (focus (go_size; done)); intro q1_w0)); (try (refine got (p := w1.cell? ⟨w.heap.size, 0, none⟩ = some (.slice a0 n0 c0)) ?_ ?_; (focus (refine (hc1 _ _ ?_).trans ?_; (focus (go_size; done)); go_simp; done)); intro c1_w0_0)); (try (refine got (p := w1.cell? ⟨w.heap.size, 1, none⟩ = some (.int .i64 p.tn.1)) ?_ ?_; (focus (refine (hc1 _ _ ?_).trans ?_; (focus (go_size; done)); go_simp; done)); intro c1_w0_1)); (try (refine got (p := w1.cell? ⟨w.heap.size, 2, none⟩ = some (.bool p.tn.2)) ?_ ?_; (focus (refine (hc1 _ _ ?_).trans ?_; (focus (go_size; done)); go_simp; done)); intro c1_w0_2)); (try (refine got (p := w1.cell? ⟨w.heap.size, 3, none⟩ = some (.slice a1 n1 c1)) ?_ ?_; (focus (refine (hc1 _ _ ?_).trans ?_; (focus (go_size; done)); go_simp; done)); intro c1_w0_3)); (try (refine got (p := w1.cell? ⟨w.heap.size, 4, none⟩ = some (.slice a2 n2 c2)) ?_ ?_; (focus (refine (hc1 _ _ ?_).trans ?_; (focus (go_size; done)); go_simp; done)); intro c1_w0_4)); (try (refine got (p := ∀ o, w1.frozen? ⟨w.heap.size, o, none⟩ = false) ?_ ?_; (focus (intro o; refine (hf1 _ _ ?_).trans ?_; (focus (go_size; done)); go_simp; done)); intro f1_w0)); clear hc1 hf1)
  go_wp2_with (fail)
  (go_at_call 27; refine (KP.out _ (by (repeat' (first | (with_reducible exact Below.refl _ _) | (with_reducible refine Below.alloc ?_ ?_ _) | (with_reducible refine Below.drew ?_) | (with_reducible refine Below.setCell ?_ ?_ _) | (with_reducible refine bl_step ?_ (by assumption)) | go_size)))).mono ?_; rintro e w2 ⟨rfl, hb2⟩; obtain ⟨hc2, hf2, hz2⟩ := bl hb2; (try simp at hz2); (try (refine got (p := w.heap.size < w2.heap.size) ?_ ?_; (focus (go_size; done)); intro q2_w0)); (try (refine got (p := w2.cell? ⟨w.heap.size, 0, none⟩ = some (.slice a0 n0 c0)) ?_ ?_; (focus (refine (hc2 _ _ ?_).trans ?_; (focus (go_size; done)); go_simp; done)); intro c2_w0_0)); (try (refine got (p := w2.cell? ⟨w.heap.size, 1, none⟩ = some (.int .i64 p.tn.1)) ?_ ?_; (focus (refine (hc2 _ _ ?_).trans ?_; (focus (go_size; done)); go_simp; done)); intro c2_w0_1)); (try (refine got (p := w2.cell? ⟨w.heap.size, 2, none⟩ = some (.bool p.tn.2)) ?_ ?_; (focus (refine (hc2 _ _ ?_).trans ?_; (focus (go_size; done)); go_simp; done)); intro c2_w0_2)); (try (refine got (p := w2.cell? ⟨w.heap.size, 3, none⟩ = some (.slice a1 n1 c1)) ?_ ?_; (focus (refine (hc2 _ _ ?_).trans ?_; (focus (go_size; done)); go_simp; done)); intro c2_w0_3)); (try (refine got (p := w2.cell? ⟨w.heap.size, 4, none⟩ = some (.slice a2 n2 c2)) ?_ ?_; (focus (refine (hc2 _ _ ?_).trans ?_; (focus (go_size; done)); go_simp; done)); intro c2_w0_4)); (try (refine got (p := ∀ o, w2.frozen? ⟨w.heap.size, o, none⟩ = false) ?_ ?_; (focus (intro o; refine (hf2 _ _ ?_).trans ?_; (focus (go_size; done)); go_simp; done)); intro f2_w0)); (try (refine got (p := w1.heap.size < w2.heap.size) ?_ ?_; (focus (go_size; done)); intro q2_w10)); (try (refine got (p := w2.cell? ⟨w1.heap.size, 0, none⟩ = some (.string x)) ?_ ?_; (focus (refine (hc2 _ _ ?_).trans ?_; (focus (go_size; done)); go_simp; done)); intro c2_w10_0)); (try (refine got (p := w2.cell? ⟨w1.heap.size, 1, none⟩ = some (.string y)) ?_ ?_; (focus (refine (hc2 _ _ ?_).trans ?_; (focus (go_size; done)); go_simp; done)); intro c2_w10_1)); (try (refine got (p := ∀ o, w2.frozen? ⟨w1.heap.size, o, none⟩ = false) ?_ ?_; (focus (intro o; refine (hf2 _ _ ?_).trans ?_; (focus (go_size; done)); go_simp; done)); intro f2_w10)); clear hc2 hf2)
  have hbw2 : Below w.heap.size w w2 := by (repeat' (first | (with_reducible exact Below.refl _ _) | (with_reducible refine Below.alloc ?_ ?_ _) | (with_reducible refine Below.drew ?_) | (with_reducible refine Below.setCell ?_ ?_ _) | (with_reducible refine bl_step ?_ (by assumption)) | go_size))
  have HB2 := Lib.hid hbw2
  have z2 : w1.heap.size + 1 ≤ w2.heap.size := by have := hb2.size; simpa using this
  clear hbw2 KP KV
  trace "A"
  go_wp2_with (fail)
  go_region_with (first
    | (go_at_call 76; refine (KN.out _ (by have := HB2.out; (repeat' (first | (with_reducible assumption) | (with_reducible exact Below.refl _ _) | (with_reducible refine Below.alloc ?_ ?_ _) | (with_reducible refine Below.drew ?_) | (with_reducible refine Below.setCell ?_ ?_ _) | (with_reducible refine below_gb ?_ (by assumption) ?_) | (with_reducible refine bl_step ?_ (by assumption)) | go_size)))).mono ?_; rintro e w3 ⟨d0, d1, rfl, ht3, hb3⟩; (have b0 := keepc c2_w10_0 (by (repeat' (first | (with_reducible assumption) | (with_reducible exact Below.refl _ _) | (with_reducible refine Below.alloc ?_ ?_ _) | (with_reducible refine Below.drew ?_) | (with_reducible refine Below.setCell ?_ ?_ _) | (with_reducible refine below_gb ?_ (by assumption) ?_) | (with_reducible refine bl_step ?_ (by assumption)) | go_size)) : Below w2.heap.size w2 w3)); (have b1 := keepc c2_w10_1 (by (repeat' (first | (with_reducible assumption) | (with_reducible exact Below.refl _ _) | (with_reducible refine Below.alloc ?_ ?_ _) | (with_reducible refine Below.drew ?_) | (with_reducible refine Below.setCell ?_ ?_ _) | (with_reducible refine below_gb ?_ (by assumption) ?_) | (with_reducible refine bl_step ?_ (by assumption)) | go_size)) : Below w2.heap.size w2 w3)); unfold psF)
    | (go_at_call 87; refine (K1.out d0 d1 _ (ht3.below (by (repeat' (first | (with_reducible exact Below.refl _ _) | (with_reducible refine Below.alloc ?_ ?_ _) | (with_reducible refine Below.drew ?_) | (with_reducible refine Below.setCell ?_ ?_ _) | (with_reducible refine bl_step ?_ (by assumption)) | go_size))))).mono ?_; rintro e w4 ⟨f, bb, rfl, hb4, hans⟩))
  all_goals
    have hbw4 : Below w.heap.size w w4 := by have := HB2.out; (repeat' (first | (with_reducible assumption) | (with_reducible exact Below.refl _ _) | (with_reducible refine Below.alloc ?_ ?_ _) | (with_reducible refine Below.drew ?_) | (with_reducible refine Below.setCell ?_ ?_ _) | (with_reducible refine below_gb ?_ (by assumption) ?_) | (with_reducible refine bl_step ?_ (by assumption)) | go_size))
    have b0' : w4.cell? ⟨w1.heap.size, 0, none⟩ = some (.string x) := keepc b0 (by (repeat' (first | (with_reducible assumption) | (with_reducible exact Below.refl _ _) | (with_reducible refine Below.alloc ?_ ?_ _) | (with_reducible refine Below.drew ?_) | (with_reducible refine Below.setCell ?_ ?_ _) | (with_reducible refine below_gb ?_ (by assumption) ?_) | (with_reducible refine bl_step ?_ (by assumption)) | go_size)))
    have b1' : w4.cell? ⟨w1.heap.size, 1, none⟩ = some (.string y) := keepc b1 (by (repeat' (first | (with_reducible assumption) | (with_reducible exact Below.refl _ _) | (with_reducible refine Below.alloc ?_ ?_ _) | (with_reducible refine Below.drew ?_) | (with_reducible refine Below.setCell ?_ ?_ _) | (with_reducible refine below_gb ?_ (by assumption) ?_) | (with_reducible refine bl_step ?_ (by assumption)) | go_size)))
    have HBW4 := Lib.hid hbw4
    have z4 : w1.heap.size < w4.heap.size := World.block_lt_of_cell? w4 _ b0'
    clear hbw4 hb3 hb4 b0 b1 ht3
    rcases hans with ⟨rfl, h3, h4, bv, e0, e1, rfl, hS⟩ | ⟨rfl, h5⟩
    · have hok := HFIT.out h3 h4
      subst hok
      have HE := Lib.hid (HNY.out rfl)
      have KQ := Lib.hid (fun i (hi : i < x.size + y.size) W (hb : Below w4.heap.size w4 W) => psSing_any bv e0 e1 p x y (by omega) (by omega) h3 h4 i hi W (hS.below hb))
      have HST := Lib.hid (NoI.start w4)
      clear hS h3 h4 HF HNO HFIT HNY
      unfold psSingF
      go_wp2_with (fail)
      (go_at_call 51; refine (KS.out _).mono ?_; rintro e w5 ⟨rfl, hb5⟩)
      have HI5 := Lib.hid (HST.out.below hb5)
      clear hb5 HST
      go_wp2
      go_loopw [9, 36] (fun v i wr => ∃ k : Nat, k ≤ x.size + y.size ∧ i = .int .i64 k ∧ NoI w4 wr v (nk k)) (fun _ i _ => x.size + y.size - (intOf i).toNat)
      case atStart => exact ⟨0, by omega, rfl, by rw [HNZ.out]; exact HI5.out⟩
      case round =>
        obtain ⟨k, hk, rfl, hI⟩ := hrel
        obtain ⟨va, vc, rfl⟩ := hI.sl
        have hnl := HNL.out k
        rw [hnl] at hI ⊢
        have HI := Lib.hid hI
        by_cases hlt : k < x.size + y.size
        · have KQ1 := Lib.hid (KQ.out k hlt wr hI.bl)
          rw [← HNV.out k] at KQ1
          have HX := Lib.hid (HNK.out k)
          have hk0 : (0 : Int) ≤ (k : Int) := by omega
          have hk1 : (k : Int) < (x.size : Int) + (y.size : Int) := by omega
          generalize nn k = n at KQ1 HX
          obtain ⟨⟨t, b⟩, r, c⟩ := n
          unfold ntv at KQ1
          clear hI
          go_wp2_with (fail)
          (go_at_call 88; refine (KQ1.out).mono ?_; rintro e w6 ⟨rfl, hb6⟩)
          have hI6 := HI.out.below hb6
          have HI6 := Lib.hid hI6
          have hown := hI6.own
          have hsz6 := hI6.bl.size
          rw [hnl] at hown
          clear hb6 hI6 KQ1
          go_wp2_with (at_builtin; refine wpList_append_own _ rfl _ _ 66 rfl w4.heap.size 71 i0 (.agg #[.int .i64 0, .bool false, .int .i64 0, .bool false]) 4 32 Try.underlying66 hi0 hq0 hq1 hq2 rfl (by decide) _ _ _ rfl (hown.alloc _) ⟨w6.heap.size, 0, none⟩ 1 1 [.int .i64 t, .bool b, .int .i64 r, .bool c] rfl rfl news4 news4_one (by unfold maxLen; omega) (by omega) (by simp; omega) ?_)
          intro v' w7 hown' hgrow _
          have HI7 : Hid (NoI w4 w7 v' (nk (k + 1))) := by
            show NoI _ _ _ _
            rw [HX.out]
            exact HI6.out.app (by rw [hnl]; exact hown') hgrow
          clear hown' hgrow hown
          go_wp2
          go_roundw
          case rel => exact ⟨k + 1, by omega, by go_num, HI7.out⟩
          case measure => simp [intOf]; omega
        · have hke : k = x.size + y.size := by omega
          subst hke
          clear hI
          go_wp2
          go_ret2
          refine ⟨_, rfl, ?_, bl_step HBW4.out HI.out.bl⟩
          rw [HE.out]
          exact nv_of HI.out.own
    · have HE := Lib.hid (HF.out (HNO.out h5) w4 HBW4.out)
      clear h5
      go_wp2
      go_ret2
      exact HE.out
end Go.Proofs.Ytcmcdomfmmjogaa
