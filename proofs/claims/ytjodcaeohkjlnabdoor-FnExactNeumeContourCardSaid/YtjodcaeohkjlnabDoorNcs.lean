/-
  What the name of a neume tells, in the model.
-/
import Derived.Test.YtjodcaeohkjlnabDoorNn
import Derived.Test.YtjodcaeohkjlnabDoorJn
import Derived.Deep.RegionHeld3
import Derived.Deep.AppendLies
import Derived.IntWalk
namespace Go.Proofs.YtjodcaeohkjlnabDoor
open Go.RowKit
set_option maxRecDepth 100000
set_option linter.unusedVariables false

def contsB (n : Nat) : List ByteArray := (conts n).map fun l => ⟨l.toArray⟩
/-- three ways behind each of the first k -/
def ext3 (ls : List ByteArray) : List ByteArray := ls.flatMap fun x => [x ++ ⟨#[117]⟩, x ++ ⟨#[100]⟩, x ++ ⟨#[115]⟩]
theorem ext3_snoc (ls : List ByteArray) (x : ByteArray) : ext3 (ls ++ [x]) = ext3 ls ++ [x ++ ⟨#[117]⟩, x ++ ⟨#[100]⟩, x ++ ⟨#[115]⟩] := by
  simp [ext3, List.flatMap_append]
theorem ext3_len (ls : List ByteArray) : (ext3 ls).length = 3 * ls.length := by
  induction ls with
  | nil => rfl
  | cons x r ih => unfold ext3 at ih ⊢; rw [List.flatMap_cons, List.length_append, ih, List.length_cons]; simp; omega
theorem app1 (x : ByteArray) (c : UInt8) : (x ++ (⟨#[c]⟩ : ByteArray)) = ⟨(x.data.toList ++ [c]).toArray⟩ := by
  obtain ⟨⟨d⟩⟩ := x
  rw [ByteArray.mk_append_mk]
theorem contsB_succ (n : Nat) : contsB (n + 1) = ext3 (contsB n) := by
  unfold contsB ext3
  show ((conts n).flatMap fun l => [l ++ [117], l ++ [100], l ++ [115]]).map _ = _
  rw [List.map_flatMap, List.flatMap_map]
  congr 1
theorem contsB_len : ∀ n, n ≤ 3 → (contsB n).length ≤ 27 := by
  intro n h
  have : n = 0 ∨ n = 1 ∨ n = 2 ∨ n = 3 := by omega
  rcases this with rfl | rfl | rfl | rfl <;> decide
theorem contsB_size : ∀ n, n ≤ 3 → ∀ x ∈ contsB n, x.size ≤ 3 := by
  intro n h
  have : n = 0 ∨ n = 1 ∨ n = 2 ∨ n = 3 := by omega
  rcases this with rfl | rfl | rfl | rfl <;> decide +kernel

/-- a list of words that a call has built -/
def JBuilt (w : World) (ws : List ByteArray) (e : Ending) (w' : World) : Prop := ∃ v, e = .returned v ∧ JRow w' w.heap.size v ws ∧ Below w.heap.size w w'
theorem JRow.flat {w : World} {base : Nat} {v : Value} {ws : List ByteArray} (h : JRow w base v ws) : ∃ a c, v = .slice a ws.length c ∧ (0 < ws.length → ∃ g, a = some ⟨g, 0, none⟩ ∧ base ≤ g ∧ g < w.heap.size ∧ ∀ i x, ws[i]? = some x → w.cell? ⟨g, i, none⟩ = some (.string x)) := by
  rcases id h with ⟨_, ⟨rfl, hz⟩ | ⟨g, cap, cur, rfl, hg, hh, hc, hmx, hsz, htk⟩⟩
  · have hwe : ws = [] := List.eq_nil_of_length_eq_zero hz
    subst hwe
    exact ⟨none, 0, rfl, fun h => by simp at h⟩
  · refine ⟨_, cap, rfl, fun _ => ⟨g, rfl, hg, (World.ownsRow.lt h g rfl).2, fun i x hx => ?_⟩⟩
    have h1 : (ws.map Value.string)[i]? = some (.string x) := by rw [List.getElem?_map, hx]; rfl
    have h2 := World.ownsRow.cells h (g := g) rfl i _ h1
    rw [Go.WideShapes.add_plain, Nat.zero_add] at h2
    exact h2

set_option maxRecDepth 100000 in
set_option maxHeartbeats 8000000 in
theorem l3Contours_any : ∀ (n : Nat), n ≤ 3 → ∀ w : World, Calls Tryd.prog 63 #[.int .i64 (n : Int)] w (JBuilt w (contsB n)) := by
  intro n
  induction n with
  | zero =>
    intro _ w
    have HE : Hid (JBuilt w (contsB 0) (.returned (.slice (some ⟨w.heap.size, 0, none⟩) 1 1)) (w.alloc (.cells #[.string ⟨#[]⟩] 9))) :=
      ⟨_, rfl, ⟨rfl, .inr ⟨w.heap.size, 1, #[.string ⟨#[]⟩], rfl, Nat.le_refl _, heap_alloc_new w _, by decide, by unfold maxLen; decide, by simp, by simp [contsB, conts]⟩⟩, (Below.refl _ _).alloc (Nat.le_refl _) _⟩
    go_enter Tryd.func63, Tryd.ntmps63
    go_wp2
    go_ret
    exact HE.out
  | succ n ih =>
    intro hn w
    obtain ⟨i0, hi, hq0, hq1, hq2⟩ := info_parts infoStrJ
    rw [show ((n + 1 : Nat) : Int) = (n : Int) + 1 by omega]
    have g0 : ((n : Int) + 1 == 0) = false := by simp; omega
    have s1 : IntKind.i64.wrap ((n : Int) + 1 - 1) = (n : Int) := by rw [show (n : Int) + 1 - 1 = (n : Int) by omega]; exact IntWalk.i64_in _ (by omega)
    have HIH := Lib.hid (ih (by omega))
    have hL := contsB_len n (by omega)
    have HZ := Lib.hid (contsB_size n (by omega))
    have HS := Lib.hid (contsB_succ n)
    clear ih
    go_enter Tryd.func63, Tryd.ntmps63
    go_wp2_with (fail)
    (go_at_call 63; refine (HIH.out _).mono ?_; rintro e w1 ⟨v, rfl, hr1, hb1⟩)
    have hown0 : JRow w1 w.heap.size (.slice (some ⟨w.heap.size, 0, none⟩) 0 0) [] := (JRow.start w w (Below.refl _ _)).below hb1
    have hb1w : Below w.heap.size w w1 := ((Below.refl _ _).alloc (Nat.le_refl _) _).trans (hb1.mono (by simp))
    have hz1 : w.heap.size < w1.heap.size := by have := hb1.size; simp at this; omega
    obtain ⟨a, c, rfl, fl⟩ := hr1.flat
    have FL := Lib.hid fl
    have HR1 := Lib.hid hr1
    have HB1 := Lib.hid hb1w
    have HO0 := Lib.hid hown0
    generalize contsB n = ls at FL HR1 hL HZ HS
    clear fl hr1 hb1 hb1w hown0 HIH
    obtain ⟨L, hLe⟩ : ∃ L, ls.length = L := ⟨_, rfl⟩
    rw [hLe] at FL hL ⊢
    have HL := Lib.hid hLe
    clear hLe
    go_wp2
    go_loopw [3, 5] (fun o i wr => ∃ k : Nat, k ≤ L ∧ i = .int .i64 k ∧ JRow wr w.heap.size o (ext3 (ls.take k)) ∧ Below w.heap.size w wr ∧ (0 < L → ∃ g, a = some ⟨g, 0, none⟩ ∧ w.heap.size < g ∧ g < wr.heap.size ∧ o.ownBlock ≠ some g ∧ ∀ i x, ls[i]? = some x → wr.cell? ⟨g, i, none⟩ = some (.string x))) (fun _ i _ => L - (intOf i).toNat)
    case atStart => exact ⟨0, Nat.zero_le _, rfl, HO0.out, HB1.out, fun h => by
      obtain ⟨g, e, h1, h2, h3⟩ := FL.out h
      simp at h1
      exact ⟨g, e, by omega, h2, by simp [Value.ownBlock]; omega, h3⟩⟩
    case round =>
      obtain ⟨k, hk, rfl, hJ, hb, hG⟩ := hrel
      by_cases hlt : k < L
      · obtain ⟨g, rfl, hg0, hg1, hne, hc⟩ := hG (by omega)
        have hkl : k < ls.length := by rw [HL.out]; exact hlt
        have hx : ls[k]? = some ls[k] := List.getElem?_eq_getElem hkl
        have e0 := hc k _ hx
        have hxs := HZ.out ls[k] (List.mem_of_getElem? hx)
        have HTk : Hid (ls.take (k + 1) = ls.take k ++ [ls[k]]) := by show _ = _; rw [List.take_add_one, hx]; rfl
        have HC := Lib.hid hc
        have hlen : (ext3 (ls.take k)).length ≤ 81 := by rw [ext3_len, List.length_take]; omega
        have k0 : (0 : Int) ≤ (k : Int) := by omega
        have k1 : (k : Int) < (L : Int) := by omega
        clear hc hG hx HO0
        generalize ls[k] = x at e0 hxs HTk
        generalize hws : ext3 (ls.take k) = ws at hJ hlen
        have HW := Lib.hid hws
        clear hws
        have hadd1 : ∀ W : World, (Op.stringOp .add x ⟨#[117]⟩).run Tryd.prog W = .ok (.string (x ++ ⟨#[117]⟩)) W := fun W => run_string_add_sum W _ _ (by show x.size + 1 ≤ 9223372036854775807; omega)
        have hadd2 : ∀ W : World, (Op.stringOp .add x ⟨#[100]⟩).run Tryd.prog W = .ok (.string (x ++ ⟨#[100]⟩)) W := fun W => run_string_add_sum W _ _ (by show x.size + 1 ≤ 9223372036854775807; omega)
        have hadd3 : ∀ W : World, (Op.stringOp .add x ⟨#[115]⟩).run Tryd.prog W = .ok (.string (x ++ ⟨#[115]⟩)) W := fun W => run_string_add_sum W _ _ (by show x.size + 1 ≤ 9223372036854775807; omega)
        have hbs := hb.size
        have HB := Lib.hid hb
        have HE3 : Hid (ext3 (ls.take (k + 1)) = ws ++ [x ++ ⟨#[117]⟩, x ++ ⟨#[100]⟩, x ++ ⟨#[115]⟩]) := by show _ = _; rw [HTk.out, ext3_snoc, HW.out]
        generalize x ++ (⟨#[117]⟩ : ByteArray) = x1 at hadd1 HE3
        generalize x ++ (⟨#[100]⟩ : ByteArray) = x2 at hadd2 HE3
        generalize x ++ (⟨#[115]⟩ : ByteArray) = x3 at hadd3 HE3
        clear hb HTk HW
        go_wp2
        go_region_held3 (fun wx => wx.cell? ⟨g, k, none⟩ = some (.string x)) (first | go_keep | (rw [hgrow.cell_far _ (by simp; omega) (Ne.symm hne)]; assumption))
          ((refine step_append_lies _ (by rfl) _ _ _ (by rfl) w.heap.size 9 i0 (.string ⟨#[]⟩) 1 16 Tryd.underlying90 hi hq0 hq1 hq2 rfl (by omega) _ ws.length (ws.map Value.string) (by rfl) ((World.ownsRow.alloc hJ _).drew)
                ⟨wr.heap.size, 0, none⟩ 3 3 [.string x1, .string x2, .string x3] (by rfl) (by rfl) (World.news_of_block (cs := #[.string x1, .string x2, .string x3]) (t := 9) (fr := (0, 0)) (heap_alloc_new wr _)) (by simp [Value.oneCell'])
                (by omega) (by unfold maxLen; omega) (by omega) (by simp; omega) (wr.heap.size + 1) (by simp) ?_; intro gg cap w3 hown3 hgrow hat hltg))
        have HJ : Hid (JRow w3 w.heap.size (.slice (some ⟨gg, 0, none⟩) (ws.length + 3) cap) (ext3 (ls.take (k + 1)))) := by
          show JRow _ _ _ _
          rw [HE3.out]
          unfold JRow
          rw [List.map_append, List.length_append]
          exact hown3
        have HBN : Hid (Below w.heap.size w w3) := ((HB.out.alloc hbs _).drew).grown hgrow (by show w.heap.size ≤ (wr.alloc _).heap.size; simp; omega) (fun k hk => (World.ownsRow.lt hJ k hk).1)
        have HGN : Hid (∃ g', some (⟨g, 0, none⟩ : Addr) = some ⟨g', 0, none⟩ ∧ w.heap.size < g' ∧ g' < w3.heap.size ∧ (Value.slice (some ⟨gg, 0, none⟩) (ws.length + 3) cap).ownBlock ≠ some g' ∧ ∀ i x, ls[i]? = some x → w3.cell? ⟨g', i, none⟩ = some (.string x)) := by
          refine ⟨g, rfl, hg0, ?_, ?_, fun i x hx => ?_⟩
          · have h1 : (wr.alloc (.cells #[.string x1, .string x2, .string x3] 9)).heap.size ≤ w3.heap.size := hgrow.size
            simp at h1
            omega
          · intro e
            have e' : gg = g := by simpa [Value.ownBlock] using e
            rcases hat with h | h
            · exact hne (by rw [h, e'])
            · omega
          · exact (hgrow.cell_far _ (by simp; omega) (Ne.symm hne)).trans ((((Below.refl wr.heap.size wr).alloc (Nat.le_refl _) _).drew.cell (p := ⟨g, i, none⟩) hg1).trans (HC.out i x hx))
        clear hown3 hgrow hat hltg
        go_wp2
        go_roundw
        case rel => exact ⟨k + 1, by omega, by go_num, HJ.out, HBN.out, fun _ => HGN.out⟩
        case measure => simp [intOf]; omega
      · have hke : k = L := by omega
        subst hke
        have HE : Hid (JBuilt w (ext3 ls) (.returned _) wr) := ⟨_, rfl, by rw [List.take_of_length_le (by rw [HL.out]; exact Nat.le_refl _)] at hJ; exact hJ, hb⟩
        clear hJ hG
        go_wp2
        go_ret
        rw [HS.out]
        exact HE.out

/-- no contour of less than k ways has the name -/
def NoN (s : ByteArray) (k : Nat) : Prop := ∀ m, m < k → ∀ l ∈ conts m, nnl l ≠ s.data.toList
def NoJ (s : ByteArray) (k j : Nat) : Prop := ∀ i l, i < j → (conts k)[i]? = some l → nnl l ≠ s.data.toList
theorem NoN.next {s : ByteArray} {k : Nat} (h : NoN s k) (hj : NoJ s k (conts k).length) : NoN s (k + 1) := by
  intro m hm l hl
  by_cases e : m = k
  · subst e
    obtain ⟨i, hi, rfl⟩ := List.getElem_of_mem hl
    exact hj i _ hi (List.getElem?_eq_getElem hi)
  · exact h m (by omega) l hl
theorem NoJ.next {s : ByteArray} {k j : Nat} {l : List UInt8} (h : NoJ s k j) (hl : (conts k)[j]? = some l) (hn : nnl l ≠ s.data.toList) : NoJ s k (j + 1) := by
  intro i m hi hm
  by_cases e : i = j
  · subst e; rw [hl] at hm; injection hm with hm; subst hm; exact hn
  · exact h i m (by omega) hm
theorem NoN.all {s : ByteArray} (h : NoN s 4) : ncn s = (⟨#[]⟩, false) := ncn_miss fun l hl => by
  unfold allC at hl
  simp only [List.mem_append] at hl
  rcases hl with ((hl | hl) | hl) | hl
  · exact h 0 (by omega) l hl
  · exact h 1 (by omega) l hl
  · exact h 2 (by omega) l hl
  · exact h 3 (by omega) l hl
theorem conts_all {k : Nat} (hk : k < 4) {l : List UInt8} (h : l ∈ conts k) : l ∈ allC := by
  unfold allC
  simp only [List.mem_append]
  have : k = 0 ∨ k = 1 ∨ k = 2 ∨ k = 3 := by omega
  rcases this with rfl | rfl | rfl | rfl
  · exact .inl (.inl (.inl h))
  · exact .inl (.inl (.inr h))
  · exact .inl (.inr h)
  · exact .inr h

set_option maxRecDepth 100000 in
set_option maxHeartbeats 8000000 in
theorem sNeumeContour_any (s : ByteArray) (w : World) :
    Calls Tryd.prog 26 #[.string s] w fun e w' => e = .returned (.tuple #[.string (ncn s).1, .bool (ncn s).2]) ∧ Below w.heap.size w w' := by
  go_enter Tryd.func26, Tryd.ntmps26
  go_wp2
  go_loopw [4] (fun i wr => ∃ k : Nat, k ≤ 4 ∧ i = .int .i64 k ∧ Hid (NoN s k) ∧ Below w.heap.size w wr) (fun i _ => 4 - (intOf i).toNat)
  case atStart => exact ⟨0, by omega, rfl, (fun m hm => by omega), Below.refl _ _⟩
  case round =>
    obtain ⟨k, hk, rfl, HN, hb⟩ := hrel
    by_cases hlt : k < 4
    · have k0 : (0 : Int) ≤ (k : Int) := by omega
      have k1 : (k : Int) < 4 := by omega
      have hL := contsB_len k (by omega)
      have HZ := Lib.hid (contsB_size k (by omega))
      obtain ⟨wo, hwo⟩ : ∃ wo : World, wo = wr := ⟨_, rfl⟩
      subst hwo
      have HB := Lib.hid hb
      go_wp2_with (fail)
      (go_at_call 63; refine (l3Contours_any k (by omega) _).mono ?_; rintro e w1 ⟨v, rfl, hr1, hb1⟩)
      obtain ⟨a, c, rfl, fl⟩ := hr1.flat
      have FL := Lib.hid fl
      have HB1 := Lib.hid (bl_step hb hb1)
      obtain ⟨L, hLe⟩ : ∃ L, (contsB k).length = L := ⟨_, rfl⟩
      have hLc : (conts k).length = L := by rw [← hLe]; unfold contsB; rw [List.length_map]
      rw [hLe] at FL hL ⊢
      have HL := Lib.hid hLe
      have HLC := Lib.hid hLc
      clear fl hr1 hb1 hb hLe hLc
      go_wp2
      go_loopw [6] (fun i wr => ∃ j : Nat, j ≤ L ∧ i = .int .i64 j ∧ Hid (NoJ s k j) ∧ Below w1.heap.size w1 wr) (fun i _ => L - (intOf i).toNat)
      case atStart => exact ⟨0, Nat.zero_le _, rfl, (fun i l hi => by omega), by first | exact Below.refl _ _ | exact ⟨rfl, rfl, rfl, Nat.le_refl _, fun _ _ _ => rfl⟩⟩
      case round =>
        obtain ⟨j, hj, rfl, HJ, hb⟩ := hrel
        by_cases hjl : j < L
        · have hjc : j < (conts k).length := by rw [HLC.out]; exact hjl
          have hl : (conts k)[j]? = some (conts k)[j] := List.getElem?_eq_getElem hjc
          have hm : (conts k)[j] ∈ allC := conts_all hlt (List.getElem_mem hjc)
          obtain ⟨g, rfl, _, hgs, hc⟩ := FL.out (by omega)
          have hx : (contsB k)[j]? = some ⟨((conts k)[j]).toArray⟩ := by unfold contsB; rw [List.getElem?_map, hl]; rfl
          have e0 := (hb.cell (p := ⟨g, j, none⟩) hgs).trans (hc j _ hx)
          have hxs := HZ.out _ (List.mem_of_getElem? hx)
          have j0 : (0 : Int) ≤ (j : Int) := by omega
          have j1 : (j : Int) < (L : Int) := by omega
          have hgr : g < wr.heap.size := Nat.lt_of_lt_of_le hgs hb.size
          have HBr := Lib.hid (bl_step HB1.out hb)
          have HBx := Lib.hid hb
          have hnm : nnm ⟨((conts k)[j]).toArray⟩ = ⟨(nnl (conts k)[j]).toArray⟩ := nnm_yes (allC_isn _ hm)
          have KN := fun W => sNeumeName_any ⟨((conts k)[j]).toArray⟩ (by omega) W
          rw [hnm] at KN
          have HK := Lib.hid KN
          clear KN hnm hc hx hxs hb
          by_cases he : nnl (conts k)[j] = s.data.toList
          · have HF := Lib.hid (ncn_hit hm he)
            have g1 : ((⟨(nnl (conts k)[j]).toArray⟩ : ByteArray).toList == s.toList) = true := by rw [ByteArray.toList_eq, ByteArray.toList_eq]; simpa using he
            clear he hm hl
            generalize (⟨(nnl (conts k)[j]).toArray⟩ : ByteArray) = o at HK g1
            generalize (⟨((conts k)[j]).toArray⟩ : ByteArray) = x at HK HF e0
            go_wp2_with (fail)
            (go_at_call 22; refine (HK.out _).mono ?_; rintro e w2 ⟨rfl, hb2⟩)
            have e1 := (hb2.cell (p := ⟨g, j, none⟩) hgr).trans e0
            clear e0
            go_wp2
            go_ret2
            exact ⟨by rw [HF.out]; rfl, bl_step HBr.out hb2⟩
          · have HX := Lib.hid (HJ.out.next hl he)
            have g1 : ((⟨(nnl (conts k)[j]).toArray⟩ : ByteArray).toList == s.toList) = false := by rw [ByteArray.toList_eq, ByteArray.toList_eq]; simpa using he
            clear he hm hl
            generalize (⟨(nnl (conts k)[j]).toArray⟩ : ByteArray) = o at HK g1
            generalize (⟨((conts k)[j]).toArray⟩ : ByteArray) = x at HK e0
            go_wp2_with (fail)
            (go_at_call 22; refine (HK.out _).mono ?_; rintro e w2 ⟨rfl, hb2⟩)
            clear e0
            go_wp2
            go_roundw
            case rel => exact ⟨j + 1, by omega, by go_num, HX.out, bl_step HBx.out hb2⟩
            case measure => simp [intOf]; omega
        · have hje : j = L := by omega
          subst hje
          have HX : Hid (NoN s (k + 1)) := HN.out.next (by rw [HLC.out]; exact HJ.out)
          have HBr := Lib.hid (bl_step HB1.out hb)
          go_wp2
          go_roundw
          case rel => exact ⟨k + 1, by omega, by go_num, HX.out, HBr.out⟩
          case measure => simp [intOf]; omega
    · have hke : k = 4 := by omega
      subst hke
      have HF := Lib.hid HN.out.all
      go_wp2
      go_ret2
      exact ⟨by rw [HF.out]; rfl, hb⟩
end Go.Proofs.YtjodcaeohkjlnabDoor
