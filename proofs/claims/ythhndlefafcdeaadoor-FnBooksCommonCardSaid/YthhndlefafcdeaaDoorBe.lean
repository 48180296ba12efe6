/-
  The letters that most manuscripts have, in both programs.
-/
import Derived.Test.YthhndlefafcdeaaDoorBc
import Derived.OwnWalk
import Derived.Laws.Rows
import Derived.Laws.Concat
import Derived.Laws.IdiomStrings
import Derived.Lib.BufferRead
namespace Go.Proofs.YthhndlefafcdeaaDoor
open Go.RowKit
set_option maxRecDepth 100000
set_option linter.unusedVariables false

theorem abcd_cut {b : Nat} (h : b < 4) : (⟨#[97, 98, 99, 100]⟩ : ByteArray).extract b (b + 1) = ⟨#[l4 b]⟩ := by
  have : b = 0 ∨ b = 1 ∨ b = 2 ∨ b = 3 := by omega
  rcases this with rfl | rfl | rfl | rfl <;> rfl

set_option maxHeartbeats 4000000 in
theorem sBooksCommon_any (v : Value) (ss : List ByteArray) (w : World) (h : SV w v ss) (hsz : ∀ s ∈ ss, s.size ≤ 4611686018427387904) :
    Calls Tryd.prog 22 #[v] w fun e w' => e = .returned (.tuple #[.string (bcom ss), .bool (bval ss)]) ∧ ∃ m, w' = w.drewN m := by
  have KB := Lib.hid (sBooksValid_any v ss w h hsz)
  obtain ⟨a, c, rfl, ha, hc1, hc2⟩ := h
  unfold maxLen at hc2
  have HA := Lib.hid ha
  clear ha hsz
  cases hv : bval ss with
  | false =>
    rw [bcom_no hv]
    rw [hv] at KB
    clear hv
    go_enter Tryd.func22, Tryd.ntmps22
    go_wp2_with (fail)
    (go_at_call 16; refine (KB.out).mono ?_; rintro e w1 ⟨rfl, m, hw1⟩)
    have HW := Lib.hid hw1
    clear hw1
    go_wp2
    go_ret2
    exact ⟨rfl, m, HW.out⟩
  | true =>
    rw [bcom_yes hv]
    obtain ⟨hin, hall⟩ := bval_in hv
    obtain ⟨n1, n6, p1, p8⟩ := bkIn_parts hin
    rw [hv] at KB
    have HV := Lib.hid hv
    have HALL := Lib.hid hall
    obtain ⟨s0, hs0, hp0⟩ := toplc (ss := ss) (by omega)
    rw [hp0] at p1 p8 ⊢
    have hne : ss ≠ [] := by rintro rfl; simp at n1
    rcases HA.out with hh | ⟨A, off, rfl, hA, hc⟩
    · exact absurd hh hne
    have HC := Lib.hid hc
    have i0 : (0 : Int) < (ss.length : Int) := by omega
    clear hv hin hall hne hc HA
    go_enter Tryd.func22, Tryd.ntmps22
    go_wp2_with (fail)
    (go_at_call 16; refine (KB.out).mono ?_; rintro e w1 ⟨rfl, m, hw1⟩)
    have HW := Lib.hid hw1
    have HC1 : Hid (∀ k s, ss[k]? = some s → w1.cell? ⟨A, off + k, none⟩ = some (.string s)) := fun k s hs => by rw [HW.out]; exact HC.out k s hs
    have c0 : w1.cell? ⟨A, off, none⟩ = some (.string s0) := HC1.out 0 s0 hs0
    have HP0 := Lib.hid hp0
    clear hw1 hs0 hp0 HC
    go_wp2
    go_loop [4, 5] (fun o i => ∃ p : Nat, p ≤ s0.size ∧ i = .int .i64 p ∧ o = .string ⟨(cmk ss p).toArray⟩) (fun _ i => s0.size - (intOf i).toNat)
    case atStart => exact ⟨0, Nat.zero_le _, rfl, rfl⟩
    case round =>
      obtain ⟨p, hp, rfl, rfl⟩ := hrel
      by_cases hlt : p < s0.size
      · have pp0 : (0 : Int) ≤ (p : Int) := by omega
        have pp1 : (p : Int) < (s0.size : Int) := by omega
        have HX := Lib.hid (cmk_next ss p)
        have hl := cmk_len ss p
        go_wp2
        go_loop [6, 7, 8] (fun b m i => ∃ c : Nat, c ≤ 4 ∧ i = .int .i64 c ∧ b = .int .i64 ((bst ss p c).1 : Int) ∧ m = .int .i64 ((bst ss p c).2 : Int)) (fun _ _ i => 4 - (intOf i).toNat)
        case atStart => exact ⟨0, Nat.zero_le _, rfl, rfl, rfl⟩
        case round =>
          obtain ⟨c, hc4, rfl, rfl, rfl⟩ := hrel
          have hble := bst_le ss p c
          by_cases hlc : c < 4
          · have cc0 : (c : Int) < 4 := by omega
            go_wp2
            go_loop [9, 10] (fun n i => ∃ k : Nat, k ≤ ss.length ∧ i = .int .i64 k ∧ n = .int .i64 (cnk ss p c k : Int)) (fun _ i => ss.length - (intOf i).toNat)
            case atStart => exact ⟨0, Nat.zero_le _, rfl, rfl⟩
            case round =>
              obtain ⟨k, hk, rfl, rfl⟩ := hrel
              have hcl := cnk_le ss p c k
              by_cases hlk : k < ss.length
              · obtain ⟨s, hs⟩ := ss_get hlk
                have f1 := HC1.out k s hs
                have hsz := (HALL.out k s hs).1
                rw [HP0.out] at hsz
                have hps : p < s.size := by omega
                have k0 : (0 : Int) ≤ (k : Int) := by omega
                have k1 : (k : Int) < (ss.length : Int) := by omega
                have ps1 : (p : Int) < (s.size : Int) := by omega
                have hlt8 := UInt8.toNat_lt s[p]
                have m0 : IntKind.i64.wrap (s[p].toNat : Int) = (s[p].toNat : Int) := IntWalk.i64_in _ (by omega)
                by_cases he : s[p].toNat = 97 + c
                · have HY := Lib.hid (cnk_yes hs hps hlc he)
                  have t1 : ((s[p].toNat : Int) == 97 + (c : Int)) = true := by rw [beq_iff_eq]; omega
                  clear he hs hsz
                  generalize cnk ss p c k = z at HY hcl ⊢
                  go_wp2
                  go_round
                  case rel => exact ⟨k + 1, by omega, by go_num, by rw [HY.out]; go_num⟩
                  case measure => simp [intOf]; omega
                · have HY := Lib.hid (cnk_no hs hps hlc he)
                  have t1 : ((s[p].toNat : Int) == 97 + (c : Int)) = false := by rw [beq_eq_false_iff_ne]; omega
                  clear he hs hsz
                  generalize cnk ss p c k = z at HY hcl ⊢
                  go_wp2
                  go_round
                  case rel => exact ⟨k + 1, by omega, by go_num, by rw [HY.out]⟩
                  case measure => simp [intOf]; omega
              · have hke : k = ss.length := by omega
                subst hke
                have hcn : cnk ss p c ss.length = cnt ss p c := rfl
                rw [hcn] at hcl ⊢
                clear hcn
                by_cases hmo : (bst ss p c).2 < cnt ss p c
                · have HY := Lib.hid (bst_more hmo)
                  have t1 : decide (((bst ss p c).2 : Int) < (cnt ss p c : Int)) = true := decide_eq_true (by omega)
                  have t2 : decide ((bst ss p c).2 < cnt ss p c) = true := decide_eq_true hmo
                  clear hmo
                  go_wp2
                  go_round
                  case rel => exact ⟨c + 1, by omega, by go_num, by rw [HY.out], by rw [HY.out]⟩
                  case measure => simp [intOf]; omega
                · have HY := Lib.hid (bst_same hmo)
                  have t1 : decide (((bst ss p c).2 : Int) < (cnt ss p c : Int)) = false := decide_eq_false (by omega)
                  have t2 : decide ((bst ss p c).2 < cnt ss p c) = false := decide_eq_false hmo
                  clear hmo
                  go_wp2
                  go_round
                  case rel => exact ⟨c + 1, by omega, by go_num, by rw [HY.out], by rw [HY.out]⟩
                  case measure => simp [intOf]; omega
          · have hke : c = 4 := by omega
            subst hke
            have hb4 : (bst ss p 4).1 < 4 := by omega
            have HL : Hid (cml ss p = l4 (bst ss p 4).1) := rfl
            generalize (bst ss p 4).1 = b at hb4 HL hble ⊢
            generalize (bst ss p 4).2 = mo at hble ⊢
            have hcut := abcd_cut hb4
            have m1 : IntKind.i64.wrap ((b : Int) + 1) = (b : Int) + 1 := IntWalk.i64_in _ (by omega)
            have m2 : (0 : Int) ≤ (b : Int) := by omega
            have m3 : ((b : Int) + 1).toNat = b + 1 := by omega
            have m4 : (b : Int) + 1 ≤ 4 := by omega
            have m5 : (b : Int) ≤ (b : Int) + 1 := by omega
            have m6 : (0 : Int) ≤ (b : Int) + 1 := by omega
            have m7 : (b : Int) ≤ 4 := by omega
            have hadd : ∀ W : World, (Op.stringOp .add ⟨(cmk ss p).toArray⟩ ((⟨#[97, 98, 99, 100]⟩ : ByteArray).extract b (b + 1))).run Tryd.prog W = .ok (.string ⟨(cmk ss (p + 1)).toArray⟩) W := fun W => by
              have e : (⟨(cmk ss (p + 1)).toArray⟩ : ByteArray) = ⟨(cmk ss p).toArray⟩ ++ ⟨#[l4 b]⟩ := by
                rw [HX.out, HL.out, ByteArray.mk_append_mk]; try simp
              rw [e, hcut]
              exact run_string_add_sum W _ _ (by show (cmk ss p).toArray.size + 1 ≤ 9223372036854775807; rw [List.size_toArray, hl]; omega)
            clear hcut hl HX
            generalize (⟨(cmk ss p).toArray⟩ : ByteArray) = o at hadd ⊢
            obtain ⟨o2, ho2⟩ : ∃ o2 : ByteArray, (⟨(cmk ss (p + 1)).toArray⟩ : ByteArray) = o2 := ⟨_, rfl⟩
            rw [ho2] at hadd
            have HO := Lib.hid ho2
            clear ho2
            go_wp2
            go_round
            case rel => exact ⟨p + 1, by omega, by go_num, by rw [HO.out]⟩
            case measure => simp [intOf]; omega
      · have hke : p = s0.size := by omega
        subst hke
        go_wp2
        go_ret2
        exact ⟨rfl, m, HW.out⟩

theorem abcd_at {c : Nat} (h : c < 4) (h2 : c < (⟨#[97, 98, 99, 100]⟩ : ByteArray).size) : ((⟨#[97, 98, 99, 100]⟩ : ByteArray)[c]'h2).toNat = 97 + c := by
  have : c = 0 ∨ c = 1 ∨ c = 2 ∨ c = 3 := by omega
  rcases this with rfl | rfl | rfl | rfl <;> rfl

set_option maxHeartbeats 4000000 in
theorem commonLetter_any (v : Value) (ss : List ByteArray) (p : Nat) (hv : bval ss = true) (hp : p < plc ss) (w : World) (h : SV w v ss) :
    Calls Tryd.prog 51 #[v, .int .i64 p] w fun e w' => e = .returned (.int .u8 ((cml ss p).toNat : Int)) ∧ ∃ m, w' = w.drewN m := by
  obtain ⟨a, c, rfl, ha, hc1, hc2⟩ := h
  unfold maxLen at hc2
  have HL := Lib.hid (cml_lv hv hp)
  obtain ⟨hin, hall⟩ := bval_in hv
  obtain ⟨n1, n6, p1, p8⟩ := bkIn_parts hin
  have HALL := Lib.hid hall
  have hne : ss ≠ [] := by rintro rfl; simp at n1
  rcases ha with hh | ⟨A, off, rfl, hA, hc⟩
  · exact absurd hh hne
  have HC := Lib.hid hc
  have HZ := Lib.hid lv7_zero
  have pp0 : (0 : Int) ≤ (p : Int) := by omega
  clear hv hin hall hne hc
  go_enter Tryd.func51, Tryd.ntmps51
  go_wp2
  go_loopw [5, 6, 11] (fun b m i wr => ∃ c : Nat, c ≤ 4 ∧ i = .int .i64 c ∧ b = .int .u8 (lv7 (bst ss p c)) ∧ m = .int .i64 ((bst ss p c).2 : Int) ∧ ∃ d, wr = w.drewN d) (fun _ _ i _ => 4 - (intOf i).toNat)
  case atStart => exact ⟨0, Nat.zero_le _, rfl, by rw [bst, HZ.out], rfl, 0, rfl⟩
  case round =>
    obtain ⟨c, hc4, rfl, rfl, rfl, d, hw⟩ := hrel
    have HW := Lib.hid hw
    have hble := bst_le ss p c
    clear hw
    by_cases hlc : c < 4
    · have cc0 : (c : Int) < 4 := by omega
      have cc1 : (0 : Int) ≤ (c : Int) := by omega
      have hab := abcd_at hlc hlc
      obtain ⟨wo, hwo⟩ : ∃ wo, wo = wr := ⟨wr, rfl⟩
      subst hwo
      go_wp2
      go_loopw [8, 16] (fun n i wx => ∃ k : Nat, k ≤ ss.length ∧ i = .int .i64 k ∧ n = .int .i64 (cnk ss p c k : Int) ∧ ∃ d, wx = w.drewN d) (fun _ i _ => ss.length - (intOf i).toNat)
      case atStart => exact ⟨0, Nat.zero_le _, rfl, rfl, d, HW.out⟩
      case round =>
        obtain ⟨k, hk, rfl, rfl, d2, hw2⟩ := hrel
        have HW2 := Lib.hid hw2
        have hcl := cnk_le ss p c k
        clear hw2
        by_cases hlk : k < ss.length
        · obtain ⟨s, hs⟩ := ss_get hlk
          have f1 : wr.cell? ⟨A, off + k, none⟩ = some (.string s) := by rw [HW2.out]; exact HC.out k s hs
          have hsz := (HALL.out k s hs).1
          have hps : p < s.size := by omega
          have k0 : (0 : Int) ≤ (k : Int) := by omega
          have k1 : (k : Int) < (ss.length : Int) := by omega
          have ps1 : (p : Int) < (s.size : Int) := by omega
          by_cases he : s[p].toNat = 97 + c
          · have HY := Lib.hid (cnk_yes hs hps hlc he)
            have t1 : ((s[p].toNat : Int) == ((97 + c : Nat) : Int)) = true := by rw [beq_iff_eq]; omega
            have t2 : ((s[p].toNat : Int) == 97 + (c : Int)) = true := by rw [beq_iff_eq]; omega
            clear he hs hsz
            generalize cnk ss p c k = z at HY hcl ⊢
            go_wp2
            go_quiet (fail)
            go_wp2
            go_roundw
            case rel => exact ⟨k + 1, by omega, by go_num, by rw [HY.out]; go_num, _, by rw [HW2.out, World.drewN_drewN]⟩
            case measure => simp [intOf]; omega
          · have HY := Lib.hid (cnk_no hs hps hlc he)
            have t1 : ((s[p].toNat : Int) == ((97 + c : Nat) : Int)) = false := by rw [beq_eq_false_iff_ne]; omega
            have t2 : ((s[p].toNat : Int) == 97 + (c : Int)) = false := by rw [beq_eq_false_iff_ne]; omega
            clear he hs hsz
            generalize cnk ss p c k = z at HY hcl ⊢
            go_wp2
            go_quiet (fail)
            go_wp2
            go_roundw
            case rel => exact ⟨k + 1, by omega, by go_num, by rw [HY.out], _, by rw [HW2.out, World.drewN_drewN]⟩
            case measure => simp [intOf]; omega
        · have hke : k = ss.length := by omega
          subst hke
          have hcn : cnk ss p c ss.length = cnt ss p c := rfl
          rw [hcn] at hcl ⊢
          clear hcn
          by_cases hmo : (bst ss p c).2 < cnt ss p c
          · have HY := Lib.hid (bst_more hmo)
            have HQ : Hid (lv7 (c, cnt ss p c) = 97 + (c : Int)) := lv7_pos (by show 0 < cnt ss p c; omega)
            have t1 : decide (((bst ss p c).2 : Int) < (cnt ss p c : Int)) = true := decide_eq_true (by omega)
            have t2 : decide ((bst ss p c).2 < cnt ss p c) = true := decide_eq_true hmo
            clear hmo
            go_wp2
            go_roundw
            case rel => exact ⟨c + 1, by omega, by go_num, by rw [HY.out, HQ.out]; try go_num, by rw [HY.out], d2, HW2.out⟩
            case measure => simp [intOf]; omega
          · have HY := Lib.hid (bst_same hmo)
            have t1 : decide (((bst ss p c).2 : Int) < (cnt ss p c : Int)) = false := decide_eq_false (by omega)
            have t2 : decide ((bst ss p c).2 < cnt ss p c) = false := decide_eq_false hmo
            clear hmo
            go_wp2
            go_roundw
            case rel => exact ⟨c + 1, by omega, by go_num, by rw [HY.out], by rw [HY.out], d2, HW2.out⟩
            case measure => simp [intOf]; omega
    · have hke : c = 4 := by omega
      subst hke
      go_wp2
      go_ret
      exact ⟨by rw [HL.out]; rfl, d, HW.out⟩

/-- the cells of a list of bytes -/
def btc (l : List UInt8) : List Value := l.map fun c => .int .u8 (c.toNat : Int)
theorem btc_app (l m : List UInt8) : btc (l ++ m) = btc l ++ btc m := by simp [btc]
theorem infoB8 : (Tryd.prog.info? 5).map (fun i => (i.zero, i.size, i.bytes)) = some (some (.int .u8 0), 1, 1) := by kernel_rfl
/-- bytes that a call has put together -/
def BtInv (w wr : World) (v : Value) (l : List UInt8) : Prop :=
  wr.ownsRow w.heap.size 5 1 v l.length (btc l) ∧ Below w.heap.size w wr
theorem BtInv.start (w w1 : World) (hb : Below w.heap.size w w1) : BtInv w (w1.alloc (.cells #[] 5)) (.slice (some ⟨w1.heap.size, 0, none⟩) 0 0) [] :=
  ⟨⟨rfl, .inr ⟨w1.heap.size, 0, #[], rfl, hb.size, heap_alloc_new w1 _, by simp, by simp [maxLen], by simp, by simp [btc]⟩⟩, hb.alloc hb.size _⟩
theorem BtInv.app {w wr w2 : World} {v v' : Value} {l : List UInt8} {c : UInt8} {o : Obj} (h : BtInv w wr v l)
    (hown : w2.ownsRow w.heap.size 5 1 v' (l.length + 1) (btc l ++ [.int .u8 (c.toNat : Int)])) (hg : (wr.alloc o).grownBy w2 v.ownBlock) : BtInv w w2 v' (l ++ [c]) := by
  refine ⟨?_, (h.2.alloc h.2.size o).grown hg (by have := h.2.size; simp; omega) (fun k hk => (h.1.lt k hk).1)⟩
  rw [btc_app]
  simpa [btc] using hown
theorem BtInv.below {w wr w2 : World} {v : Value} {l : List UInt8} (h : BtInv w wr v l) (hb : Below wr.heap.size wr w2) : BtInv w w2 v l := by
  refine ⟨?_, bl_step h.2 hb⟩
  obtain ⟨hl, h1 | ⟨g, cap, cur, rfl, hg, hh, hn, hcap, hsz, htake⟩⟩ := h.1
  · exact ⟨hl, .inl h1⟩
  · have hgs : g < wr.heap.size := by
      rcases Nat.lt_or_ge g wr.heap.size with h | h
      · exact h
      · rw [Array.getElem?_eq_none h] at hh; cases hh
    exact ⟨hl, .inr ⟨g, cap, cur, rfl, hg, (hb.block g hgs).trans hh, hn, hcap, hsz, htake⟩⟩
/-- what such a list reads as -/
theorem BtInv.text {w wr : World} {v : Value} {l : List UInt8} (h : BtInv w wr v l) : (convert 45 9 v).run Tryd.prog wr = .ok (.string ⟨l.toArray⟩) wr := by
  obtain ⟨⟨hl, h1 | ⟨g, cap, cur, rfl, hg, hh, hn, hcap, hsz, htake⟩⟩, _⟩ := h
  · obtain ⟨rfl, hz⟩ := h1
    have : l = [] := List.eq_nil_of_length_eq_zero hz
    subst this
    exact Lib.run_convert_nil_bytes wr _ _ _ _ Tryd.underlying45 Tryd.underlying5 Tryd.underlying9
  · refine run_convert_bytes_back wr _ _ _ _ cap l Tryd.underlying45 Tryd.underlying5 Tryd.underlying9 fun j hj => ?_
    have e : (cur.toList.take (l.length * 1))[j]? = (btc l)[j]? := by rw [htake]
    rw [Nat.mul_one, List.getElem?_take_of_lt hj, Array.getElem?_toList] at e
    rw [Go.WideShapes.add_plain, Nat.zero_add]
    simp [World.cell?, hh, e, btc, List.getElem?_eq_getElem hj]
theorem btnews {W : World} {z : Int} {t : TypeId} : ∀ j u, ([.int .u8 z] : List Value)[j]? = some u → (W.alloc (.cells #[.int .u8 z] t)).cell? ((⟨W.heap.size, 0, none⟩ : Addr).add j) = some u := by
  intro j u hj
  match j, hj with
  | 0, hj => simp at hj; subst hj; simp [Addr.add]
theorem btnews_one {z : Int} : ∀ u ∈ ([.int .u8 z] : List Value), u.oneCell' = true := by
  intro u hu; simp at hu; subst hu; rfl

set_option maxHeartbeats 4000000 in
theorem booksCommon_any (v : Value) (ss : List ByteArray) (w : World) (h : SV w v ss) (hsz : ∀ s ∈ ss, s.size ≤ 4611686018427387904) :
    Calls Tryd.prog 23 #[v] w fun e w' => e = .returned (.tuple #[.string (bcom ss), .bool (bval ss)]) ∧ Below w.heap.size w w' := by
  have KB := Lib.hid (booksValid_any v ss w h hsz)
  have HSV := Lib.hid h
  obtain ⟨i0, hi, hq0, hq1, hq2⟩ := info_parts infoB8
  cases hv : bval ss with
  | false =>
    rw [bcom_no hv]
    rw [hv] at KB
    clear hv h hsz
    go_enter Tryd.func23, Tryd.ntmps23
    go_wp2_with (fail)
    (go_at_call 18; refine (KB.out).mono ?_; rintro e w1 ⟨rfl, hb1⟩)
    go_wp2
    go_ret2
    exact ⟨rfl, hb1⟩
  | true =>
    rw [bcom_yes hv]
    rw [hv] at KB
    have HV := Lib.hid hv
    obtain ⟨hin, hall⟩ := bval_in hv
    obtain ⟨n1, n6, p1, p8⟩ := bkIn_parts hin
    obtain ⟨s0, hs0, hp0⟩ := toplc (ss := ss) (by omega)
    rw [hp0] at p1 p8 ⊢
    have HP0 := Lib.hid hp0
    have HS0 := Lib.hid hs0
    obtain ⟨a, c, rfl, ha, hc1, hc2⟩ := h
    unfold maxLen at hc2
    have hne : ss ≠ [] := by rintro rfl; simp at n1
    rcases ha with hh | ⟨A, off, rfl, hA, hc⟩
    · exact absurd hh hne
    have c0 := hc 0 s0 hs0
    have i0' : (0 : Int) < (ss.length : Int) := by omega
    clear hv hin hall hne hc hsz hs0 hp0
    go_enter Tryd.func23, Tryd.ntmps23
    go_wp2_with (fail)
    (go_at_call 18; refine (KB.out).mono ?_; rintro e w1 ⟨rfl, hb1⟩)
    have f0 : w1.cell? ⟨A, off, none⟩ = some (.string s0) := (hb1.cell (p := ⟨A, off, none⟩) hA).trans c0
    have f1 : ∀ o, (w1.alloc o).cell? ⟨A, off, none⟩ = some (.string s0) := fun o => by
      rw [← f0]
      exact ((Below.refl w1.heap.size w1).alloc (Nat.le_refl _) _).cell (p := ⟨A, off, none⟩) (Nat.lt_of_lt_of_le hA hb1.size)
    have hI0 := BtInv.start w w1 hb1
    clear c0 f0
    go_wp2
    have HI0 := Lib.hid hI0
    clear hI0
    go_loopw [4, 14] (fun v i wr => ∃ k : Nat, k ≤ s0.size ∧ i = .int .i64 k ∧ BtInv w wr v (cmk ss k)) (fun _ i _ => s0.size - (intOf i).toNat)
    case atStart => exact ⟨0, Nat.zero_le _, rfl, HI0.out⟩
    case round =>
      obtain ⟨k, hk, rfl, hI⟩ := hrel
      have HI := Lib.hid hI
      by_cases hlt : k < s0.size
      · have k1 : (k : Int) < (s0.size : Int) := by omega
        have k0 : (0 : Int) ≤ (k : Int) := by omega
        have HX := Lib.hid (cmk_next ss k)
        have HC := Lib.hid (commonLetter_any _ ss k HV.out (by rw [HP0.out]; exact hlt) wr (HSV.out.below hI.2))
        have hl := cmk_len ss k
        clear hI
        generalize cmk ss k = l at hl HX HI
        go_wp2_with (fail)
        (go_at_call 51; refine (HC.out).mono ?_; rintro e w2 ⟨rfl, d, hw2⟩)
        have hI2 := HI.out.below (w2 := w2) (by rw [hw2]; exact bl_drewN (Below.refl _ _) _)
        have HI2 := Lib.hid hI2
        have hown := hI2.1
        have hbs := hI2.2.size
        rw [hl] at hown
        have HLL := Lib.hid hl
        clear hl hI2 HI hw2
        go_wp2_with (at_builtin; refine wpList_append_own _ rfl _ _ 45 rfl w.heap.size 5 i0 (.int .u8 0) 1 1 Tryd.underlying45 hi hq0 hq1 hq2 rfl (by decide) _ _ _ rfl (hown.alloc _) ⟨w2.heap.size, 0, none⟩ 1 1 [.int .u8 ((cml ss k).toNat : Int)] rfl rfl btnews btnews_one (by unfold maxLen; omega) (by omega) (by simp; omega) ?_)
        intro v' w3 hown' hgrow _
        have HN : Hid (BtInv w w3 v' (l ++ [cml ss k])) := HI2.out.app (by rw [HLL.out]; exact hown') hgrow
        clear hown' hgrow hown
        go_wp2
        go_roundw
        case rel => exact ⟨k + 1, by omega, by go_num, by rw [HX.out]; exact HN.out⟩
        case measure => simp [intOf]; omega
      · have hke : k = s0.size := by omega
        subst hke
        have hcv := hI.text
        have hb := hI.2
        clear hI
        go_wp2
        go_ret2
        exact ⟨rfl, hb⟩
end Go.Proofs.YthhndlefafcdeaaDoor
