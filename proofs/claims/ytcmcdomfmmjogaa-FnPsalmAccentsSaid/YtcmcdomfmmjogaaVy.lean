/-
  The accents of a verse, in both programs.
-/
import Derived.Test.YtcmcdomfmmjogaaVx
import Derived.Test.YtcmcdomfmmjogaaTI
import Derived.Test.YtcmcdomfmmjogaaMelT
import Derived.OwnWalk
import Derived.Laws.Rows
namespace Go.Proofs.Ytcmcdomfmmjogaa
open Go.RowKit
set_option maxRecDepth 100000
set_option linter.unusedVariables false

theorem vnews {w : World} {z : Int} {t : TypeId} : ∀ j u, ([.int .i64 z] : List Value)[j]? = some u → (w.alloc (.cells #[.int .i64 z] t)).cell? ((⟨w.heap.size, 0, none⟩ : Addr).add j) = some u := by
  intro j u hj
  match j, hj with
  | 0, hj => simp at hj; subst hj; simp [Addr.add]
theorem vnews_one {z : Int} : ∀ u ∈ ([.int .i64 z] : List Value), u.oneCell' = true := by
  intro u hu; simp at hu; subst hu; rfl
/-- the places found so far -/
def AcInv (w wr : World) (v : Value) (zs : List Int) : Prop := wr.ownsRow w.heap.size 3 1 v zs.length (zs.map (Value.int .i64)) ∧ Below w.heap.size w wr
theorem AcInv.start {w w1 : World} (hb : Below w.heap.size w w1) : AcInv w (w1.alloc (.cells #[] 3)) (.slice (some ⟨w1.heap.size, 0, none⟩) 0 0) [] :=
  ⟨⟨rfl, .inr ⟨w1.heap.size, 0, #[], rfl, hb.size, heap_alloc_new w1 _, by simp, by simp [maxLen], by simp, by simp⟩⟩, hb.alloc hb.size _⟩
theorem AcInv.built {w wr : World} {v : Value} {zs : List Int} (h : AcInv w wr v zs) : IBuiltI w zs (.returned v) wr :=
  ⟨v, rfl, ⟨h.1, fun g hg => (h.1.lt g hg).2⟩, h.2⟩
theorem AcInv.next {w wr w3 : World} {v v' : Value} {zs : List Int} {z : Int} {o : Obj} (h : AcInv w wr v zs) (hown : w3.ownsRow w.heap.size 3 1 v' (zs.length + 1) (zs.map (Value.int .i64) ++ [.int .i64 z])) (hg : (wr.alloc o).grownBy w3 v.ownBlock) : AcInv w w3 v' (zs ++ [z]) :=
  ⟨by rw [List.map_append, List.length_append]; exact hown, (h.2.alloc h.2.size o).grown hg (by have := h.2.size; simp; omega) (fun k hk => (h.1.lt k hk).1)⟩

set_option maxHeartbeats 4000000 in
theorem verseAccents_any (s : ByteArray) (hs : s.size ≤ 1048577) (w : World) (h : MaxAt w) :
    Calls Try.prog 31 #[.string s] w (IBuiltI w (vacc s)) := by
  obtain ⟨i0, hi, hq0, hq1, hq2⟩ := info_parts infoIntI
  have KV := Lib.hid (newVerse_any s hs w h)
  clear h
  have h20 := vhalf_size' s
  have hvs := @vall_size s
  have HE : Hid (vacc s = acc (vall s).data.toList (vall s).size) := rfl
  have hva : vall s = vFst s ++ vSnd s := rfl
  rw [HE.out]
  rw [hva] at hvs ⊢
  clear hva HE
  generalize vvl s.data.toList = ok at KV
  generalize vFst s = a at *
  generalize vSnd s = b at *
  have KS := Lib.hid (syllables_any a b (by omega))
  generalize a ++ b = x at *
  have HV : Hid (∀ k (c : UInt8), x.data.toList[k]? = some c → c = 47 → acc x.data.toList (k + 1) = acc x.data.toList k ++ [(k : Int)]) := fun k c => acc_hit
  have HM : Hid (∀ k (c : UInt8), x.data.toList[k]? = some c → c ≠ 47 → acc x.data.toList (k + 1) = acc x.data.toList k) := fun k c => acc_miss
  go_enter Try.func31, Try.ntmps31
  go_wp2_with (fail)
  (go_at_call 50; refine (KV.out).mono ?_; rintro e w1 ⟨rfl, hb1⟩)
  have z1 := hb1.size
  go_wp2_with (fail)
  (go_at_call 51; refine (KS.out _).mono ?_; rintro e w2 ⟨rfl, hb2⟩)
  have hbw2 : Below w.heap.size w w2 := bl_step (hb1.alloc z1 _) hb2
  have HI0 := Lib.hid (AcInv.start hbw2)
  clear hb1 hb2 z1 hbw2
  go_wp2
  go_loopw [6, 18] (fun o i wr => ∃ k : Nat, k ≤ x.size ∧ i = .int .i64 k ∧ AcInv w wr o (acc x.data.toList k)) (fun _ i _ => x.size - (intOf i).toNat)
  case atStart => exact ⟨0, Nat.zero_le _, rfl, HI0.out⟩
  case round =>
    obtain ⟨k, hk, rfl, hI⟩ := hrel
    by_cases hlt : k < x.size
    · have k1 : (k : Int) < (x.size : Int) := by omega
      have k0 : (0 : Int) ≤ (k : Int) := by omega
      have ha := at_list x k hlt
      have hla := acc_len x.data.toList k
      by_cases hc : x[k].toNat = 47
      · have h1 : ((x[k].toNat : Int) == 47) = true := by rw [hc]; rfl
        have HX := Lib.hid (HV.out k x[k] ha (UInt8.toNat_inj.1 hc))
        generalize acc x.data.toList k = zs at hI HX hla
        have hown := hI.1
        have hsz := hI.2.size
        have HI := Lib.hid hI
        clear ha hc hI
        go_wp2_with (at_builtin; refine wpList_append_own _ rfl _ _ 41 rfl w.heap.size 3 i0 (.int .i64 0) 1 8 Try.underlying41 hi hq0 hq1 hq2 rfl (by decide) _ _ _ rfl (hown.alloc _) ⟨wr.heap.size, 0, none⟩ 1 1 [.int .i64 (k : Int)] rfl rfl vnews vnews_one (by unfold maxLen; omega) (by omega) (by simp; omega) ?_)
        intro v' w3 hown' hgrow _
        have HN := Lib.hid (HI.out.next hown' hgrow)
        clear hown hown' hgrow HI
        go_wp2
        go_roundw
        case rel => exact ⟨k + 1, by omega, by go_num, by rw [HX.out]; exact HN.out⟩
        case measure => simp [intOf]; omega
      · have h1 : ((x[k].toNat : Int) == 47) = false := by rw [beq_eq_false_iff_ne]; omega
        have HX := Lib.hid (HM.out k x[k] ha (fun e => hc (by rw [e]; rfl)))
        clear ha hc
        go_wp2
        go_roundw
        case rel => exact ⟨k + 1, by omega, by go_num, by rw [HX.out]; exact hI⟩
        case measure => simp [intOf]; omega
    · have hke : k = x.size := by omega
      subst hke
      have HB := Lib.hid hI.built
      clear hI
      go_wp2
      go_ret
      exact HB.out
end Go.Proofs.Ytcmcdomfmmjogaa
