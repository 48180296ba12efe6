/-
  Numbers in words, and behind a word, in the program.
-/
import Derived.Test.YtaelkgpebhdlhaaGreatDoorExm
import Derived.Test.YtaelkgpebhdlhaaGreatDoorShelf
import Derived.Test.YtaelkgpebhdlhaaGreatDoorInts
namespace Go.Proofs.YtaelkgpebhdlhaaGreatDoor
open Go.RowKit
set_option maxRecDepth 100000
set_option linter.unusedVariables false

/-- a word cut behind its minus sign -/
theorem num_cut (l : List UInt8) : ∃ (neg : Bool) (d : List UInt8), Lib.hasPrefix l [45] = neg ∧ Lib.trimPrefix l [45] = d ∧ d.length ≤ l.length ∧ num l = (if neg then (if numD d = 999 then 999 else -(numD d)) else numD d) := by
  match l with
  | [] => exact ⟨false, [], rfl, rfl, by simp, rfl⟩
  | c :: r =>
    by_cases h : c = 45
    · subst h
      exact ⟨true, r, by simp [Lib.hasPrefix, List.isPrefixOf], by simp [Lib.trimPrefix, Lib.hasPrefix, List.isPrefixOf], by simp, by rw [num_neg]; simp⟩
    · have h1 : Lib.hasPrefix (c :: r) [45] = false := by
        simp [Lib.hasPrefix, List.isPrefixOf]
        exact fun e => h e.symm
      exact ⟨false, c :: r, h1, by unfold Lib.trimPrefix; rw [h1]; rfl, by simp, by rw [num_pos (fun r' e => h (by injection e))]; rfl⟩
theorem u8_dig {c : UInt8} (h : isd c = true) : IntKind.u8.wrap ((c.toNat : Int) - 48) = dval c := by
  have := isd_in h
  rw [IntWalk.u8_in _ (by omega)]
  rfl

theorem byte_at {x : ByteArray} {l : List UInt8} {i : Nat} {c : UInt8} (hx : x.data.toList = l) (hc : l[i]? = some c) (h : i < x.size) : x[i] = c := by
  subst hx
  rw [Array.getElem?_toList] at hc
  have h2 : i < x.data.size := h
  rw [Array.getElem?_eq_getElem h2] at hc
  exact Option.some.inj hc
set_option maxHeartbeats 4000000 in
theorem numberOf_any (s : ByteArray) (w : World) : Calls Tryz.prog 176 #[.string s] w fun e w' => e = .returned (.int .i64 (num s.data.toList)) ∧ w' = w := by
  have KC := Lib.hid (Tryz.strings_CutPrefix s ⟨#[45]⟩)
  obtain ⟨neg, d, h1, h2, h3, h4⟩ := num_cut s.data.toList
  rw [h1, h2] at KC
  rw [h4]
  clear h1 h2 h3 h4
  obtain ⟨x, hxe⟩ : ∃ x : ByteArray, x = ⟨d.toArray⟩ := ⟨_, rfl⟩
  have hx : x.data.toList = d := by rw [hxe]
  rw [← hxe] at KC
  have hsz : x.size = d.length := by show x.data.size = _; rw [← hx]; simp
  have htl : x.toList = d := by rw [ByteArray.toList_eq]; exact hx
  rcases d with _ | ⟨c, _ | ⟨c', _ | ⟨c3, r⟩⟩⟩
  case nil =>
    have e1 : (x.toList == []) = true := by rw [htl]; rfl
    have e2 : x.toList.isEmpty = true := by rw [htl]; rfl
    have e3 : (if neg = true then (if numD [] = 999 then 999 else -(numD [])) else numD []) = 999 := by cases neg <;> rfl
    rw [e3]
    clear e3 hx hsz htl hxe
    go_enter Tryz.func176, Tryz.ntmps176
    go_wp2_with (fail)
    (go_at_call 194; refine (KC.out _).mono ?_; rintro e wx ⟨rfl, rfl⟩)
    go_wp2
    go_ret
    exact ⟨rfl, rfl⟩
  case cons.nil =>
    have e1 : (x.toList == []) = false := by rw [htl]; rfl
    have e2 : x.toList.isEmpty = false := by rw [htl]; rfl
    have hs1 : x.size = 1 := hsz
    have hat : ∀ h : 0 < x.size, x[0] = c := fun h => byte_at hx rfl h
    have hat := hat (by omega)
    cases ha : isd c with
    | true =>
      have hina := isd_in ha
      have hua := u8_dig ha
      have hva := dval_in ha
      have gaa : decide ((c.toNat : Int) < 48) = false := decide_eq_false (by omega)
      have gba : decide ((57 : Int) < (c.toNat : Int)) = false := decide_eq_false (by omega)
      have gca : decide (c.toNat < 48) = false := decide_eq_false (by omega)
      have gda : decide (57 < c.toNat) = false := decide_eq_false (by omega)
      have hcva : IntKind.i64.wrap (dval c) = dval c := IntWalk.i64_in _ (by omega)
      have hnd : numD [c] = dval c := by simp [numD, ha]
      have hn9 : ¬ dval c = 999 := by omega
      rw [hnd]
      have hng : IntKind.i64.wrap (-(dval c)) = -(dval c) := IntWalk.i64_in _ (by omega)
      clear hx htl hxe hnd hina ha
      cases neg with
      | true =>
        rw [if_pos rfl, if_neg hn9]
        go_enter Tryz.func176, Tryz.ntmps176
        go_wp2_with (fail)
        (go_at_call 194; refine (KC.out _).mono ?_; rintro e wx ⟨rfl, rfl⟩)
        go_wp2
        go_rounds 2
        go_ret
        exact ⟨rfl, rfl⟩
      | false =>
        rw [if_neg (by decide)]
        go_enter Tryz.func176, Tryz.ntmps176
        go_wp2_with (fail)
        (go_at_call 194; refine (KC.out _).mono ?_; rintro e wx ⟨rfl, rfl⟩)
        go_wp2
        go_rounds 2
        go_ret
        exact ⟨rfl, rfl⟩
    | false =>
      have hnd : numD [c] = 999 := by simp [numD, ha]
      have e3 : (if neg = true then (if numD [c] = 999 then 999 else -(numD [c])) else numD [c]) = 999 := by rw [hnd]; cases neg <;> rfl
      rw [e3]
      clear hx htl hxe hnd e3
      rcases isd_no ha with hlo | hlo
      · have gaa : (c.toNat : Int) < 48 := by omega
        have gca : c.toNat < 48 := hlo
        go_enter Tryz.func176, Tryz.ntmps176
        go_wp2_with (fail)
        (go_at_call 194; refine (KC.out _).mono ?_; rintro e wx ⟨rfl, rfl⟩)
        go_wp2
        go_rounds 1
        go_ret
        exact ⟨rfl, rfl⟩
      · have gaa : decide ((c.toNat : Int) < 48) = false := decide_eq_false (by omega)
        have gca : decide (c.toNat < 48) = false := decide_eq_false (by omega)
        have gba : (57 : Int) < (c.toNat : Int) := by omega
        have gda : 57 < c.toNat := hlo
        go_enter Tryz.func176, Tryz.ntmps176
        go_wp2_with (fail)
        (go_at_call 194; refine (KC.out _).mono ?_; rintro e wx ⟨rfl, rfl⟩)
        go_wp2
        go_rounds 1
        go_ret
        exact ⟨rfl, rfl⟩
  case cons.cons.nil =>
    have e1 : (x.toList == []) = false := by rw [htl]; rfl
    have e2 : x.toList.isEmpty = false := by rw [htl]; rfl
    have hs1 : x.size = 2 := hsz
    have hat : ∀ h : 0 < x.size, x[0] = c := fun h => byte_at hx rfl h
    have hat := hat (by omega)
    have hbt : ∀ h : 1 < x.size, x[1] = c' := fun h => byte_at hx rfl h
    have hbt := hbt (by omega)
    cases ha : isd c with
    | true =>
      have hina := isd_in ha
      have hua := u8_dig ha
      have hva := dval_in ha
      have gaa : decide ((c.toNat : Int) < 48) = false := decide_eq_false (by omega)
      have gba : decide ((57 : Int) < (c.toNat : Int)) = false := decide_eq_false (by omega)
      have gca : decide (c.toNat < 48) = false := decide_eq_false (by omega)
      have gda : decide (57 < c.toNat) = false := decide_eq_false (by omega)
      have hcva : IntKind.i64.wrap (dval c) = dval c := IntWalk.i64_in _ (by omega)
      cases hb : isd c' with
      | true =>
        have hinb := isd_in hb
        have hub := u8_dig hb
        have hvb := dval_in hb
        have gab : decide ((c'.toNat : Int) < 48) = false := decide_eq_false (by omega)
        have gbb : decide ((57 : Int) < (c'.toNat : Int)) = false := decide_eq_false (by omega)
        have gcb : decide (c'.toNat < 48) = false := decide_eq_false (by omega)
        have gdb : decide (57 < c'.toNat) = false := decide_eq_false (by omega)
        have hcvb : IntKind.i64.wrap (dval c') = dval c' := IntWalk.i64_in _ (by omega)
        have hnd : numD [c, c'] = dval c * 10 + dval c' := by simp [numD, ha, hb]
        have hn9 : ¬ dval c * 10 + dval c' = 999 := by omega
        rw [hnd]
        have hm1 : IntKind.i64.wrap (dval c * 10) = dval c * 10 := IntWalk.i64_in _ (by omega)
        have hm2 : IntKind.i64.wrap (dval c * 10 + dval c') = dval c * 10 + dval c' := IntWalk.i64_in _ (by omega)
        have hng : IntKind.i64.wrap (-(dval c * 10 + dval c')) = -(dval c * 10 + dval c') := IntWalk.i64_in _ (by omega)
        clear hx htl hxe hnd hina hinb ha hb
        generalize dval c = p at *
        generalize dval c' = q at *
        cases neg with
        | true =>
          rw [if_pos rfl, if_neg hn9]
          go_enter Tryz.func176, Tryz.ntmps176
          go_wp2_with (fail)
          (go_at_call 194; refine (KC.out _).mono ?_; rintro e wx ⟨rfl, rfl⟩)
          go_wp2
          go_rounds 3
          go_ret
          exact ⟨rfl, rfl⟩
        | false =>
          rw [if_neg (by decide)]
          go_enter Tryz.func176, Tryz.ntmps176
          go_wp2_with (fail)
          (go_at_call 194; refine (KC.out _).mono ?_; rintro e wx ⟨rfl, rfl⟩)
          go_wp2
          go_rounds 3
          go_ret
          exact ⟨rfl, rfl⟩
      | false =>
        have hnd : numD [c, c'] = 999 := by simp [numD, hb]
        have e3 : (if neg = true then (if numD [c, c'] = 999 then 999 else -(numD [c, c'])) else numD [c, c']) = 999 := by rw [hnd]; cases neg <;> rfl
        rw [e3]
        clear hx htl hxe hnd e3
        clear hina
        rcases isd_no hb with hlo | hlo
        · have gab : (c'.toNat : Int) < 48 := by omega
          have gcb : c'.toNat < 48 := hlo
          go_enter Tryz.func176, Tryz.ntmps176
          go_wp2_with (fail)
          (go_at_call 194; refine (KC.out _).mono ?_; rintro e wx ⟨rfl, rfl⟩)
          go_wp2
          go_rounds 2
          go_ret
          exact ⟨rfl, rfl⟩
        · have gab : decide ((c'.toNat : Int) < 48) = false := decide_eq_false (by omega)
          have gcb : decide (c'.toNat < 48) = false := decide_eq_false (by omega)
          have gbb : (57 : Int) < (c'.toNat : Int) := by omega
          have gdb : 57 < c'.toNat := hlo
          go_enter Tryz.func176, Tryz.ntmps176
          go_wp2_with (fail)
          (go_at_call 194; refine (KC.out _).mono ?_; rintro e wx ⟨rfl, rfl⟩)
          go_wp2
          go_rounds 2
          go_ret
          exact ⟨rfl, rfl⟩
    | false =>
      have hnd : numD [c, c'] = 999 := by simp [numD, ha]
      have e3 : (if neg = true then (if numD [c, c'] = 999 then 999 else -(numD [c, c'])) else numD [c, c']) = 999 := by rw [hnd]; cases neg <;> rfl
      rw [e3]
      clear hx htl hxe hnd e3
      rcases isd_no ha with hlo | hlo
      · have gaa : (c.toNat : Int) < 48 := by omega
        have gca : c.toNat < 48 := hlo
        go_enter Tryz.func176, Tryz.ntmps176
        go_wp2_with (fail)
        (go_at_call 194; refine (KC.out _).mono ?_; rintro e wx ⟨rfl, rfl⟩)
        go_wp2
        go_rounds 1
        go_ret
        exact ⟨rfl, rfl⟩
      · have gaa : decide ((c.toNat : Int) < 48) = false := decide_eq_false (by omega)
        have gca : decide (c.toNat < 48) = false := decide_eq_false (by omega)
        have gba : (57 : Int) < (c.toNat : Int) := by omega
        have gda : 57 < c.toNat := hlo
        go_enter Tryz.func176, Tryz.ntmps176
        go_wp2_with (fail)
        (go_at_call 194; refine (KC.out _).mono ?_; rintro e wx ⟨rfl, rfl⟩)
        go_wp2
        go_rounds 1
        go_ret
        exact ⟨rfl, rfl⟩
  case cons.cons.cons =>
    have e1 : (x.toList == []) = false := by rw [htl]; rfl
    have e2 : x.toList.isEmpty = false := by rw [htl]; rfl
    have e3 : (if neg = true then (if numD (c :: c' :: c3 :: r) = 999 then 999 else -(numD (c :: c' :: c3 :: r))) else numD (c :: c' :: c3 :: r)) = 999 := by cases neg <;> rfl
    have g1 : (2 : Int) < (x.size : Int) := by rw [hsz]; simp only [List.length_cons]; omega
    have g2 : 2 < x.size := by omega
    rw [e3]
    clear e3 hx hsz htl hxe
    go_enter Tryz.func176, Tryz.ntmps176
    go_wp2_with (fail)
    (go_at_call 194; refine (KC.out _).mono ?_; rintro e wx ⟨rfl, rfl⟩)
    go_wp2
    go_ret
    exact ⟨rfl, rfl⟩
end Go.Proofs.YtaelkgpebhdlhaaGreatDoor
