/-
  Lists of texts marked and read again by the exact laws' helpers.
-/
import Derived.Test.YthhndlefafcdeaaDoorSv
import Derived.Laws.IdiomStrings
import Derived.Laws.Concat
import Derived.IntWalk
namespace Go.Proofs.YthhndlefafcdeaaDoor
open Go.RowKit
set_option maxRecDepth 100000
set_option linter.unusedVariables false

/-- a number's digits, ahead of what stands already -/
def mkf : Nat → Nat → List UInt8 → List UInt8
  | 0, _, l => l
  | f + 1, k, l => if k = 0 then l else mkf f (k / 10) ((48 + (k % 10).toUInt8) :: l)
theorem mkf_zero (f : Nat) (l : List UInt8) : mkf f 0 l = l := by cases f <;> simp [mkf]
theorem mkf_next {f k : Nat} {l : List UInt8} (h : k ≠ 0) : mkf (f + 1) k l = mkf f (k / 10) ((48 + (k % 10).toUInt8) :: l) := by rw [mkf, if_neg h]
theorem mkf_len : ∀ (f k : Nat) (l : List UInt8), (mkf f k l).length ≤ l.length + f
  | 0, k, l => by simp [mkf]
  | f + 1, k, l => by
    by_cases h : k = 0
    · rw [h, mkf_zero]; omega
    · rw [mkf_next h]
      have := mkf_len f (k / 10) ((48 + (k % 10).toUInt8) :: l)
      simp only [List.length_cons] at this
      omega
/-- the text of a mark -/
def mktx (k : Nat) : ByteArray := ⟨(109 :: mkf 8 k []).toArray⟩
theorem dig8 (d : Nat) (h : d < 10) : (48 + d.toUInt8 : UInt8).toNat = 48 + d := by
  have : d = 0 ∨ d = 1 ∨ d = 2 ∨ d = 3 ∨ d = 4 ∨ d = 5 ∨ d = 6 ∨ d = 7 ∨ d = 8 ∨ d = 9 := by omega
  rcases this with rfl | rfl | rfl | rfl | rfl | rfl | rfl | rfl | rfl | rfl <;> rfl

theorem conv_b1 (c : UInt8) (z : Int) (hz : (c.toNat : Int) = z) (B : Nat) (W : World) (h : W.cell? ⟨B, 0, none⟩ = some (.int .u8 z)) :
    (convert 45 9 (.slice (some ⟨B, 0, none⟩) 1 1)).run Tryd.prog W = .ok (.string ⟨#[c]⟩) W :=
  run_convert_bytes_back (P := Tryd.prog) W 45 9 5 ⟨B, 0, none⟩ 1 [c] Tryd.underlying45 Tryd.underlying5 Tryd.underlying9 (fun j hj => by
    have : j = 0 := by simpa using hj
    subst this
    simpa [Addr.add, hz] using h)

set_option maxHeartbeats 4000000 in
theorem markText_any (k : Nat) (h1 : 1 ≤ k) (h2 : k < 100000000) (w : World) :
    Calls Tryd.prog 58 #[.int .i64 k] w fun e w' => e = .returned (.string (mktx k)) ∧ Below w.heap.size w w' := by
  have HM : Hid (mktx k = ⟨(109 :: mkf 8 k []).toArray⟩) := rfl
  have g0 : decide ((k : Int) ≤ 0) = false := decide_eq_false (by omega)
  have g1 : decide (k ≤ 0) = false := decide_eq_false (by omega)
  have g2 : (k == 0) = false := by rw [beq_eq_false_iff_ne]; omega
  have g3 : decide (k = 0) = false := decide_eq_false (by omega)
  go_enter Tryd.func58, Tryd.ntmps58
  go_wp2
  go_loopw [0, 3] (fun a o wr => ∃ (f k' : Nat) (l : List UInt8), a = .int .i64 k' ∧ o = .string ⟨l.toArray⟩ ∧ Hid (k' < 10 ^ f) ∧ l.length + f = 8 ∧ Hid (mkf f k' l = mkf 8 k []) ∧ Below w.heap.size w wr) (fun a _ _ => (intOf a).toNat)
  case atStart => exact ⟨8, k, [], rfl, rfl, h2, rfl, rfl, Below.refl _ _⟩
  case round =>
    obtain ⟨f, k', l, rfl, rfl, hf, hl, hm, hb⟩ := hrel
    have HB := Lib.hid hb
    by_cases hk0 : k' = 0
    · have HE : Hid (mkf 8 k [] = l) := by show _ = _; rw [← hm.out, hk0, mkf_zero]
      have t1 : decide (0 < k') = false := decide_eq_false (by omega)
      have t2 : decide ((0 : Int) < (k' : Int)) = false := decide_eq_false (by omega)
      have hadd : ∀ W : World, (Op.stringOp .add ⟨#[109]⟩ ⟨l.toArray⟩).run Tryd.prog W = .ok (.string ⟨(109 :: l).toArray⟩) W := fun W => by
        have e : (⟨(109 :: l).toArray⟩ : ByteArray) = ⟨#[109]⟩ ++ ⟨l.toArray⟩ := by rw [ByteArray.mk_append_mk]; try simp
        rw [e]
        exact run_string_add_sum W _ _ (by show 1 + l.toArray.size ≤ 9223372036854775807; rw [List.size_toArray]; omega)
      clear hf hl hm hk0
      go_wp2
      go_ret
      exact ⟨by rw [HM.out, HE.out]; rfl, HB.out⟩
    · obtain ⟨f', rfl⟩ : ∃ f', f = f' + 1 := by
        cases f with
        | zero => have := hf.out; simp at this; omega
        | succ f' => exact ⟨f', rfl⟩
      have HF : Hid (k' / 10 < 10 ^ f') := by have := hf.out; show _ < _; rw [Nat.pow_succ] at this; omega
      have HX : Hid (mkf f' (k' / 10) ((48 + (k' % 10).toUInt8) :: l) = mkf 8 k []) := by show _ = _; rw [← hm.out, mkf_next hk0]
      obtain ⟨q, hq⟩ : ∃ q, k' / 10 = q := ⟨_, rfl⟩
      obtain ⟨r, hr⟩ : ∃ r, k' % 10 = r := ⟨_, rfl⟩
      rw [hq] at HF HX
      rw [hr] at HX
      have hr10 : r < 10 := by omega
      have hd := dig8 r hr10
      have HC : Hid (((48 + r.toUInt8 : UInt8).toNat : Int) = 48 + (r : Int)) := by show (((48 + r.toUInt8 : UInt8).toNat : Nat) : Int) = _; rw [hd]; simp
      obtain ⟨n, hn⟩ : ∃ n : Int, (k' : Int) = n := ⟨_, rfl⟩
      have hn1 : n < 100000000 := by
        have h3 := hf.out
        have h4 : 10 ^ (f' + 1) ≤ 10 ^ 8 := Nat.pow_le_pow_right (by omega) (by omega)
        omega
      have s1 : IntKind.i64.wrap (48 + (r : Int)) = 48 + (r : Int) := IntWalk.i64_in _ (by omega)
      have s2 : IntKind.u8.wrap (48 + (r : Int)) = 48 + (r : Int) := IntWalk.u8_in _ (by omega)
      have s3 : n.tdiv 10 = (q : Int) := by rw [Int.tdiv_eq_ediv_of_nonneg (by omega)]; omega
      have s4 : n.tmod 10 = (r : Int) := by rw [Int.tmod_eq_emod_of_nonneg (by omega)]; omega
      have s5 : IntKind.i64.wrap (q : Int) = (q : Int) := IntWalk.i64_in _ (by omega)
      have s6 : IntKind.i64.wrap (r : Int) = (r : Int) := IntWalk.i64_in _ (by omega)
      have s7 : n / 10 = (q : Int) := by omega
      have s8 : n % 10 = (r : Int) := by omega
      have t2 : decide ((0 : Int) < n) = true := decide_eq_true (by omega)
      have hM : q < n.toNat := by omega
      have hadd : ∀ W : World, (Op.stringOp .add ⟨#[48 + r.toUInt8]⟩ ⟨l.toArray⟩).run Tryd.prog W = .ok (.string ⟨((48 + r.toUInt8) :: l).toArray⟩) W := fun W => by
        have e : (⟨((48 + r.toUInt8) :: l).toArray⟩ : ByteArray) = ⟨#[48 + r.toUInt8]⟩ ++ ⟨l.toArray⟩ := by rw [ByteArray.mk_append_mk]; try simp
        rw [e]
        exact run_string_add_sum W _ _ (by show 1 + l.toArray.size ≤ 9223372036854775807; rw [List.size_toArray]; omega)
      have cc : (convert 45 9 (.slice (some ⟨wr.heap.size, 0, none⟩) 1 1)).run Tryd.prog (wr.alloc (.cells #[.int .u8 (48 + (r : Int))] 5)) = .ok (.string ⟨#[48 + r.toUInt8]⟩) (wr.alloc (.cells #[.int .u8 (48 + (r : Int))] 5)) := conv_b1 _ _ HC.out wr.heap.size _ (by go_simp)
      rw [hn]
      clear hq hr hd hn hf hm hk0 hr10 hn1
      generalize (48 + r.toUInt8 : UInt8) = c at cc hadd HX HC
      go_wp2
      go_roundw
      case rel => exact ⟨f', q, c :: l, by go_num, rfl, HF, by simp only [List.length_cons]; omega, HX, HB.out.alloc HB.out.size _⟩
      case measure => simp [intOf]; omega

/-- the marks from s on -/
def mks7 (s : Nat) (n : Nat) : List ByteArray := (List.range n).map (fun i => mktx (s + i))
theorem mks7_len (s n : Nat) : (mks7 s n).length = n := by simp [mks7]
theorem mks7_get (s : Nat) {n i : Nat} (h : i < n) : (mks7 s n)[i]? = some (mktx (s + i)) := by
  simp [mks7, List.getElem?_map, List.getElem?_range h]
theorem mks7_succ (s n : Nat) : mks7 s (n + 1) = mks7 s n ++ [mktx (s + n)] := by simp [mks7, List.range_succ]

/-- k cells of block g are marked -/
def MsInv (w wr : World) (g cap : Nat) (s : Nat) (k : Nat) : Prop :=
  ∃ cur, wr.heap[g]? = some (.cells cur 9 (0, 0)) ∧ cur.size = cap ∧ cur.toList.take k = (mks7 s k).map Value.string ∧ w.grownBy wr (some g)

theorem MsInv.next {w wr : World} {g cap : Nat} {s : Nat} {k : Nat} (h : MsInv w wr g cap s k) (hk : k < cap) : MsInv w (wr.setCell ⟨g, k, none⟩ (.string (mktx (s + k)))) g cap s (k + 1) := by
  obtain ⟨cur, hh, hsz, ht, hg⟩ := h
  refine ⟨cur.setIfInBounds k (.string (mktx (s + k))), by simp [World.setCell, Array.getElem?_modify, hh], by simp [hsz], ?_, ⟨hg.os, hg.tape, hg.output, by simpa [World.setCell] using hg.size, fun i hi hne => ?_⟩⟩
  · rw [mks7_succ, List.map_append, Array.toList_setIfInBounds, List.take_add_one, List.take_set_of_le (Nat.le_refl k), ht]
    have hkc : k < cur.toList.length := by simpa using (by omega : k < cur.size)
    simp [List.getElem?_set]
    omega
  · rw [Below.heap_setCell _ _ _ _ (fun e => hne (by rw [e]))]
    exact hg.block i hi hne

theorem MsInv.cell {w wr : World} {g cap : Nat} {s : Nat} {k : Nat} (h : MsInv w wr g cap s k) (hk : k < cap) : (∃ u, wr.cell? ⟨g, k, none⟩ = some u) ∧ wr.frozen? ⟨g, k, none⟩ = false := by
  obtain ⟨cur, hh, hsz, _, _⟩ := h
  refine ⟨⟨cur[k]'(by omega), ?_⟩, by simp [World.frozen?, hh]⟩
  simp [World.cell?, hh, Array.getElem?_eq_getElem (by omega : k < cur.size)]

theorem MsInv.below {w wr w2 : World} {g cap : Nat} {s : Nat} {k : Nat} (h : MsInv w wr g cap s k) (hb : Below wr.heap.size wr w2) : MsInv w w2 g cap s k := by
  obtain ⟨cur, hh, hsz, ht, hg⟩ := h
  have hgs : g < wr.heap.size := by
    rcases Nat.lt_or_ge g wr.heap.size with h | h
    · exact h
    · rw [Array.getElem?_eq_none h] at hh; cases hh
  exact ⟨cur, (hb.block g hgs).trans hh, hsz, ht, ⟨hb.os.trans hg.os, hb.tape.trans hg.tape, hb.output.trans hg.output, Nat.le_trans hg.size hb.size, fun i hi hne => (hb.block i (Nat.lt_of_lt_of_le hi hg.size)).trans (hg.block i hi hne)⟩⟩

set_option maxHeartbeats 2000000 in
theorem markStringO_any (lo hi : Nat) (v : Value) (ss : List ByteArray) (s : Nat) (hs : 1 ≤ s) (hs1 : s ≤ 10000000) (hx : ss.length ≤ 10000000) (w : World) (h : SRow w lo hi v ss) :
    Calls Tryd.prog 34 #[v, .int .i64 s] w fun e w' => e = .returned (.int .i64 ((s : Int) + (ss.length : Int))) ∧ SRow w' lo hi v (mks7 s ss.length) ∧ OwnT v w w' := by
  have hnil : v = .slice none 0 0 → ss = [] → (Ending.returned (.int .i64 (s : Int)) = .returned (.int .i64 ((s : Int) + (ss.length : Int))) ∧ SRow w lo hi v (mks7 s ss.length) ∧ OwnT v w w) := by
    rintro rfl rfl
    exact ⟨by simp, by simpa [mks7] using h, ⟨rfl, rfl, rfl, Nat.le_refl _, fun _ _ _ => rfl⟩⟩
  rcases h.form with ⟨rfl, rfl⟩ | ⟨g, cap, cur, rfl, hg, hg2, hgs, hcap, hmax, hh, hsz, htk, hc, hfz⟩
  · have HN := Lib.hid (hnil rfl rfl)
    clear hnil
    go_enter Tryd.func34, Tryd.ntmps34
    go_wp2
    go_rounds 1
    go_ret
    exact HN.out
  · have hlt2 := h.2
    have hend : ∀ wr, MsInv w wr g cap s ss.length → (Ending.returned (.int .i64 ((s : Int) + (ss.length : Int))) = .returned (.int .i64 ((s : Int) + (ss.length : Int))) ∧ SRow wr lo hi (.slice (some ⟨g, 0, none⟩) ss.length cap) (mks7 s ss.length) ∧ OwnT (.slice (some ⟨g, 0, none⟩) ss.length cap) w wr) := by
      rintro wr ⟨cur', hh', hsz', ht', hg'⟩
      refine ⟨rfl, ⟨⟨by simp [mks7_len], .inr ⟨g, cap, cur', by rw [mks7_len], hg, hh', by rw [mks7_len]; exact hcap, hmax, by rw [hsz', Nat.mul_one], by rw [mks7_len, Nat.mul_one]; exact ht'⟩⟩, hlt2⟩, ⟨hg'.os, hg'.tape, hg'.output, hg'.size, fun k hk hne => hg'.block k (by omega) (fun e => hne (by simpa [Value.ownBlock] using e.symm))⟩⟩
    have h0 : MsInv w w g cap s 0 := ⟨cur, hh, hsz, by simp [mks7], World.grownBy.refl w _⟩
    clear h hnil hc hfz htk hsz hh
    have HEND := Lib.hid hend
    clear hend
    generalize hn : ss.length = n at *
    clear hn
    go_enter Tryd.func34, Tryd.ntmps34
    go_wp2
    go_loopw [1, 5] (fun m i wr => ∃ k : Nat, k ≤ n ∧ i = .int .i64 k ∧ m = .int .i64 ((s : Int) + (k : Int)) ∧ MsInv w wr g cap s k) (fun _ i _ => n - (intOf i).toNat)
    case atStart => exact ⟨0, Nat.zero_le _, rfl, by simp, h0⟩
    case round =>
      obtain ⟨k, hk, rfl, rfl, hi⟩ := hrel
      by_cases hlt : k < n
      · have HI := Lib.hid hi
        have HT := Lib.hid (fun W => markText_any (s + k) (by omega) (by omega) W)
        rw [Int.natCast_add] at HT
        have hk0 : (0 : Int) ≤ (k : Int) := by omega
        have hk1 : (k : Int) < (n : Int) := by omega
        clear hi h0
        go_wp2_with (fail)
        (go_at_call 58; refine (HT.out _).mono ?_; rintro e w2 ⟨rfl, hb2⟩)
        have hi2 := HI.out.below hb2
        obtain ⟨⟨u, hu⟩, hf⟩ := hi2.cell (by omega)
        have hi' := Lib.hid (hi2.next (by omega : k < cap))
        clear hi2 hb2 HT HI
        generalize mktx (s + k) = tx at hi' ⊢
        go_wp2
        go_roundw
        case rel => exact ⟨k + 1, by omega, by go_num, by first | (congr 1; done) | (congr 1; omega), hi'.out⟩
        case measure => simp [intOf]; omega
      · have hkn : k = n := by omega
        subst hkn
        have HE := Lib.hid (HEND.out wr hi)
        clear h0 hi
        go_wp2
        go_ret
        exact ⟨rfl, HE.out.2⟩

set_option maxHeartbeats 2000000 in
theorem heldStringO_any (lo hi : Nat) (v : Value) (s : Nat) (n : Nat) (hs : 1 ≤ s) (hs1 : s ≤ 10000000) (hx : n ≤ 10000000) (w : World) (h : SRow w lo hi v (mks7 s n)) :
    Calls Tryd.prog 36 #[v, .int .i64 s] w fun e w' => e = .returned (.int .i64 ((s : Int) + (n : Int))) ∧ Below w.heap.size w w' := by
  rcases h.form with ⟨rfl, hx0⟩ | ⟨g, cap, cur, rfl, hg, hg2, hgs, hcap, hmax, hh, hsz, htk, hc, hfz⟩
  · have hn : n = 0 := by have := mks7_len s n; rw [hx0] at this; simpa using this.symm
    subst hn
    go_enter Tryd.func36, Tryd.ntmps36
    go_wp2
    go_rounds 1
    go_ret
    exact ⟨by simp, Below.refl _ _⟩
  · rw [mks7_len] at hcap
    rw [mks7_len]
    have HC : Hid (∀ i, i < n → w.cell? ⟨g, i, none⟩ = some (.string (mktx (s + i)))) := fun i hi => hc i _ (mks7_get s hi)
    clear h hc hfz htk hsz hh
    go_enter Tryd.func36, Tryd.ntmps36
    go_wp2
    go_loopw [1, 5] (fun m i wr => ∃ k : Nat, k ≤ n ∧ i = .int .i64 k ∧ m = .int .i64 ((s : Int) + (k : Int)) ∧ Below w.heap.size w wr) (fun _ i _ => n - (intOf i).toNat)
    case atStart => exact ⟨0, Nat.zero_le _, rfl, by simp, Below.refl _ _⟩
    case round =>
      obtain ⟨k, hk, rfl, rfl, hb⟩ := hrel
      by_cases hlt : k < n
      · have e1 := (hb.cell (p := ⟨g, k, none⟩) hgs).trans (HC.out k hlt)
        have hgr : g < wr.heap.size := Nat.lt_of_lt_of_le hgs hb.size
        have HB := Lib.hid hb
        have HT := Lib.hid (fun W => markText_any (s + k) (by omega) (by omega) W)
        rw [Int.natCast_add] at HT
        have hk0 : (0 : Int) ≤ (k : Int) := by omega
        have hk1 : (k : Int) < (n : Int) := by omega
        clear hb
        generalize mktx (s + k) = tx at e1 HT
        go_wp2
        go_region_with (go_at_call 58; refine (HT.out _).mono ?_; rintro e w2 ⟨rfl, hb2⟩; (try have f1 : w2.cell? ⟨g, k, none⟩ = some (.string tx) := (hb2.cell (p := ⟨g, k, none⟩) (by first | exact hgr | (simp; omega))).trans (by first | exact e1 | (go_simp; done))))
        all_goals
          go_wp2
          go_roundw
          case rel => exact ⟨k + 1, by omega, by go_num, by first | (congr 1; done) | (congr 1; omega), by first | exact bl_step HB.out hb2 | exact (bl_step HB.out hb2).drew | exact bl_step HB.out.drew hb2⟩
          case measure => simp [intOf]; omega
      · have hkn : k = n := by omega
        subst hkn
        go_wp2
        go_ret
        exact ⟨rfl, hb⟩

theorem markStringI_any (lo hi : Nat) (v : Value) (ss : List ByteArray) (s : Int) (hs : 1 ≤ s) (hs1 : s ≤ 10000000) (hx : ss.length ≤ 10000000) (w : World) (h : SRow w lo hi v ss) :
    Calls Tryd.prog 34 #[v, .int .i64 s] w fun e w' => e = .returned (.int .i64 (s + (ss.length : Int))) ∧ SRow w' lo hi v (mks7 s.toNat ss.length) ∧ OwnT v w w' := by
  obtain ⟨n, rfl⟩ : ∃ n : Nat, s = (n : Int) := ⟨s.toNat, by omega⟩
  exact markStringO_any lo hi v ss n (by omega) (by omega) hx w h

theorem heldStringI_any (lo hi : Nat) (v : Value) (s : Int) (n : Nat) (hs : 1 ≤ s) (hs1 : s ≤ 10000000) (hx : n ≤ 10000000) (w : World) (h : SRow w lo hi v (mks7 s.toNat n)) :
    Calls Tryd.prog 36 #[v, .int .i64 s] w fun e w' => e = .returned (.int .i64 (s + (n : Int))) ∧ Below w.heap.size w w' := by
  obtain ⟨m, rfl⟩ : ∃ m : Nat, s = (m : Int) := ⟨s.toNat, by omega⟩
  exact heldStringO_any lo hi v m n (by omega) (by omega) hx w h

theorem OwnT.turnedI {w w' : World} {lo hi : Nat} {u : Value} {zs : List Int} (h : OwnT u w w') (hu : IRow w lo hi u zs) : Turned lo hi w w' :=
  ⟨h.os, h.tape, h.output, h.size, fun k hk ho => h.block k hk (fun e => by
    obtain ⟨⟨_, h1 | ⟨b', cap2, cur2, rfl, hb2, _⟩⟩, hlt⟩ := hu
    · rw [h1.1] at e; simp [Value.ownBlock] at e
    · have e2 : b' = k := by simpa [Value.ownBlock] using e
      subst e2
      have := hlt b' rfl
      omega)⟩

theorem OwnT.turnedS {lo hi : Nat} {v : Value} {ss : List ByteArray} {w w' : World} (h : OwnT v w w') (hr : SRow w lo hi v ss) : Turned lo hi w w' :=
  ⟨h.os, h.tape, h.output, h.size, fun k hk hd => h.block k hk fun e => by
    have h1 := hr.2 k e
    have h2 : lo ≤ k := by
      obtain ⟨⟨_, h3 | ⟨g, cap, cur, rfl, hg, _⟩⟩, _⟩ := hr
      · rw [h3.1] at e; simp [Value.ownBlock] at e
      · have : g = k := by simpa [Value.ownBlock] using e
        omega
    omega⟩
end Go.Proofs.YthhndlefafcdeaaDoor
