/-
  Execute in the program, given what each line answers.
-/
import Derived.Test.YtaelkgpebhdlhaaGreatDoorExe
import Derived.Test.YtaelkgpebhdlhaaGreatDoorSv
import Derived.Test.YtaelkgpebhdlhaaGreatDoorShelf
import Derived.Lib.Split
import Derived.Lib.Join
import Derived.Deep.AppendLies
namespace Go.Proofs.YtaelkgpebhdlhaaGreatDoor
open Go.RowKit
set_option maxRecDepth 100000
set_option linter.unusedVariables false

theorem infoStrX : (Tryz.prog.info? 9).map (fun i => (i.zero, i.size, i.bytes)) = some (some (.string ⟨#[]⟩), 1, 16) := by kernel_rfl
/-- the lines of a script, and what is behind the last one -/
def lns (s : ByteArray) : List ByteArray := Lib.splitB ⟨#[10]⟩ 0 (Lib.countB s ⟨#[10]⟩) s
/-- lines of output, one behind the other -/
def jn10 (os : List ByteArray) : ByteArray := ⟨(Lib.join (os.map (·.data.toList)) [10]).toArray⟩
/-- where the output's list lies: not with the archive, nor with the lines -/
structure OutI (w wr : World) (v : Value) (os : List ByteArray) (D G : Nat) : Prop where
  own : wr.ownsRow w.heap.size 9 1 v os.length (os.map Value.string)
  bl : Below w.heap.size w wr
  at_ : ∃ g, v.ownBlock = some g ∧ g ≠ D ∧ g ≠ G
theorem OutI.turn {w wr w2 : World} {v : Value} {os : List ByteArray} {D G : Nat} (h : OutI w wr v os D G) (hg : wr.grownBy w2 (some D)) (hD : w.heap.size ≤ D) : OutI w w2 v os D G := by
  obtain ⟨g, e, n1, n2⟩ := h.at_
  exact ⟨h.own.kept hg (.inr (by rw [e]; intro e2; injection e2 with e2; exact n1 e2)), h.bl.grown hg h.bl.size (fun k hk => by injection hk with hk; omega), g, e, n1, n2⟩
theorem OutI.app {w w1 w2 : World} {v : Value} {os : List ByteArray} {D G g cap : Nat} {x : ByteArray} {o : Obj} (h : OutI w w1 v os D G) (hD : D < w1.heap.size) (hG : G < w1.heap.size)
    (hown : w2.ownsRow w.heap.size 9 1 (.slice (some ⟨g, 0, none⟩) (os.length + 1) cap) (os.length + 1) (os.map Value.string ++ [.string x])) (hg : (w1.alloc o).grownBy w2 v.ownBlock) (hat : v.ownBlock = some g ∨ g = w1.heap.size + 1) :
    OutI w w2 (.slice (some ⟨g, 0, none⟩) (os.length + 1) cap) (os ++ [x]) D G := by
  obtain ⟨q, e, n1, n2⟩ := h.at_
  refine ⟨by rw [List.map_append, List.length_append]; exact hown, (h.bl.alloc h.bl.size o).grown hg (by have := h.bl.size; simp; omega) (fun k hk => (h.own.lt k hk).1), g, rfl, ?_, ?_⟩
  · rcases hat with e2 | e2
    · rw [e] at e2; injection e2 with e2; omega
    · omega
  · rcases hat with e2 | e2
    · rw [e] at e2; injection e2 with e2; omega
    · omega

theorem OutI.drewN {w wr : World} {v : Value} {os : List ByteArray} {D G : Nat} (h : OutI w wr v os D G) (n : Nat) : OutI w (wr.drewN n) v os D G :=
  ⟨h.own, ⟨h.bl.os, h.bl.tape, h.bl.output, h.bl.size, h.bl.block⟩, h.at_⟩
theorem far_cell9 {w2 w3 : World} {o : Obj} {b : Option Nat} {p : Addr} {v : Value} (hg : (w2.alloc o).grownBy w3 b) (hp : p.block < w2.heap.size) (hn : some p.block ≠ b) (h : w2.cell? p = some v) : w3.cell? p = some v :=
  (hg.cell_far p (by simp; omega) hn).trans ((World.cell?_alloc_lt _ _ _ hp).trans h)

set_option maxHeartbeats 8000000 in
theorem execute_gen (text : ByteArray) (xs : List ByteArray) (last : ByteArray) (os : List ByteArray) (fin : ByteArray) (m : Int) (w : World) (hm : w.cell? ⟨3, 0, none⟩ = some (.int .i64 m)) (hs : text.size ≤ 400) (hls : lns text = xs ++ [last]) (hcnt : Lib.countB text ⟨#[10]⟩ = xs.length) (hxl : xs.length ≤ 400)
    (I : Nat → World → Prop) (hI0 : ∀ W, W.heap[w.heap.size]? = some (.cells #[.slice none 0 0, .slice none 0 0] 58 (0, 0)) → I 0 W)
    (hIb : ∀ k W W', I k W → Below W.heap.size W W' → I k W')
    (hIg : ∀ k W W' v n zs b o, I k W → W.ownsRow b 9 1 v n zs → (W.alloc o).grownBy W' v.ownBlock → I k W')
    (hosl : os.length = xs.length)
    (hstep : ∀ k line o, xs[k]? = some line → os[k]? = some o → ∀ W, I k W → w.heap.size < W.heap.size → W.cell? ⟨3, 0, none⟩ = some (.int .i64 m) → Calls Tryz.prog 43 #[.pointer (some ⟨w.heap.size, 0, none⟩), .string line] W fun e W' => e = .returned (.string o) ∧ I (k + 1) W' ∧ W.grownBy W' (some w.heap.size))
    (hend : ∀ W, I xs.length W → Calls Tryz.prog 44 #[.pointer (some ⟨w.heap.size, 0, none⟩)] W fun e W' => e = .returned (.string fin) ∧ ∃ q, W' = W.drewN q)
    (hsz : (jn10 (os ++ [fin])).size ≤ 1000000) :
    Calls Tryz.prog 12 #[.string text] w fun e w' => e = .returned (.string (jn10 (os ++ [fin]) ++ ⟨#[10]⟩)) ∧ Below w.heap.size w w' := by
  obtain ⟨i0, hi0, hq0, hq1, hq2⟩ := info_parts infoStrX
  have g0 : decide ((400 : Int) < (text.size : Int)) = false := decide_eq_false (by omega)
  have g00 : decide (400 < text.size) = false := decide_eq_false (by omega)
  obtain ⟨W2, hW2⟩ : ∃ W2, W2 = (w.alloc (.cells #[.slice none 0 0, .slice none 0 0] 58)).alloc (.cells #[] 9) := ⟨_, rfl⟩
  have hz2 : W2.heap.size = w.heap.size + 2 := by rw [hW2, World.size_alloc, World.size_alloc]
  have hb2 : Below w.heap.size w W2 := by rw [hW2]; exact ((Below.refl _ _).alloc (Nat.le_refl _) _).alloc (by simp) _
  have hm2 : W2.cell? ⟨3, 0, none⟩ = some (.int .i64 m) := (hb2.cell (p := ⟨3, 0, none⟩) (World.block_lt_of_cell? w _ hm)).trans hm
  have hD2 : W2.heap[w.heap.size]? = some (.cells #[.slice none 0 0, .slice none 0 0] 58 (0, 0)) := by rw [hW2, heap_alloc_old _ _ (by simp), heap_alloc_new]
  have hP2 : W2.heap[w.heap.size + 1]? = some (.cells #[] 9 (0, 0)) := by
    have := heap_alloc_new (w.alloc (.cells #[.slice none 0 0, .slice none 0 0] 58)) (.cells #[] 9)
    rw [← hW2] at this
    simpa using this
  have KS := Tryz.strings_Split text ⟨#[10]⟩ m W2 (by omega) hm2 (by decide)
  have e1 : Lib.splitB ⟨#[10]⟩ 0 (Lib.countB text ⟨#[10]⟩) text = xs ++ [last] := hls
  rw [e1, hcnt, hz2] at KS
  have HKS := Lib.hid KS
  have HW2 := Lib.hid hW2
  clear KS e1 hls hcnt
  go_enter Tryz.func12, Tryz.ntmps12
  go_wp2_with (fail)
  rw [← HW2.out]
  (go_at_call 42; refine (HKS.out).mono ?_; rintro e w1 ⟨rfl, hw1⟩)
  have hz1 : w1.heap.size = w.heap.size + 3 := by rw [hw1, World.size_alloc, hz2]
  have hb21 : Below w.heap.size w w1 := by rw [hw1]; exact hb2.alloc (by omega) _
  have hm1 : w1.cell? ⟨3, 0, none⟩ = some (.int .i64 m) := (hb21.cell (p := ⟨3, 0, none⟩) (World.block_lt_of_cell? w _ hm)).trans hm
  have h3 : 3 < w.heap.size := World.block_lt_of_cell? w _ hm
  have hD1 : w1.heap[w.heap.size]? = some (.cells #[.slice none 0 0, .slice none 0 0] 58 (0, 0)) := by rw [hw1, heap_alloc_old _ _ (by omega)]; exact hD2
  have hP1 : w1.heap[w.heap.size + 1]? = some (.cells #[] 9 (0, 0)) := by rw [hw1, heap_alloc_old _ _ (by omega)]; exact hP2
  have hG1 : ∀ j line, xs[j]? = some line → w1.cell? ⟨w.heap.size + 2, j, none⟩ = some (.string line) := by
    intro j line h
    obtain ⟨hj, _⟩ := List.getElem?_eq_some_iff.1 h
    rw [hw1]
    unfold World.cell?
    rw [show w.heap.size + 2 = W2.heap.size from hz2.symm, heap_alloc_new]
    have hj2 : (xs ++ [last])[j]? = some line := by rw [List.getElem?_append_left hj]; exact h
    generalize xs ++ [last] = ys at hj2
    simp [hj2]
  have HO0 : Hid (OutI w w1 (.slice (some ⟨w.heap.size + 1, 0, none⟩) 0 0) [] w.heap.size (w.heap.size + 2)) :=
    ⟨⟨rfl, .inr ⟨w.heap.size + 1, 0, #[], rfl, by omega, hP1, by decide, by unfold maxLen; decide, by simp, by simp⟩⟩, hb21, w.heap.size + 1, rfl, by omega, by omega⟩
  have HI0 : Hid (I 0 w1) := hI0 w1 hD1
  have HG0 := Lib.hid hG1
  have HST := Lib.hid hstep
  have HEN := Lib.hid hend
  have HIG := Lib.hid hIg
  have HIB := Lib.hid hIb
  obtain ⟨L, hL⟩ : ∃ L, xs.length = L := ⟨_, rfl⟩
  have HL := Lib.hid hL
  have HOL := Lib.hid hosl
  have HSZ := Lib.hid hsz
  rw [hL] at HOL hxl HEN ⊢
  have s1 : IntKind.i64.wrap ((L : Int) + 1 - 1) = (L : Int) := by rw [show (L : Int) + 1 - 1 = (L : Int) by omega]; exact IntWalk.i64_in _ (by omega)
  clear hG1 hD1 hP1 hD2 hP2 hW2 HW2 hw1 hb2 hb21 hm2 hI0 hIb hstep hend hIg hsz hosl hL HKS
  go_wp2
  go_loopw [4, 22] (fun o i wr => ∃ k : Nat, k ≤ L ∧ i = .int .i64 k ∧ OutI w wr o (os.take k) w.heap.size (w.heap.size + 2) ∧ I k wr ∧ w.heap.size + 2 < wr.heap.size ∧ ∀ j line, xs[j]? = some line → wr.cell? ⟨w.heap.size + 2, j, none⟩ = some (.string line)) (fun _ i _ => L - (intOf i).toNat)
  case atStart => exact ⟨0, Nat.zero_le _, rfl, HO0.out, HI0.out, by omega, HG0.out⟩
  case round =>
    obtain ⟨k, hk, rfl, hO, hI, hz, hG⟩ := hrel
    by_cases hlt : k < L
    · have hkx : k < xs.length := by rw [HL.out]; exact hlt
      have hx : xs[k]? = some xs[k] := List.getElem?_eq_getElem hkx
      have hko : k < os.length := by rw [HOL.out]; exact hlt
      have ho : os[k]? = some os[k] := List.getElem?_eq_getElem hko
      have e0 := hG k _ hx
      have HTk : Hid (os.take (k + 1) = os.take k ++ [os[k]]) := by show _ = _; rw [List.take_add_one, ho]; rfl
      have hln : (os.take k).length = k := by rw [List.length_take]; omega
      have KA := fun W => HST.out k _ _ hx ho W
      have HG := Lib.hid hG
      have HO := Lib.hid hO
      have k0 : (0 : Int) ≤ (k : Int) := by omega
      have k1 : (k : Int) < (L : Int) := by omega
      clear hx ho hG
      generalize xs[k] = line at e0 KA
      generalize os[k] = o at KA HTk
      generalize os.take k = ws at hO hln HTk HO
      have HK := Lib.hid KA
      have e3 : wr.cell? ⟨3, 0, none⟩ = some (.int .i64 m) := (hO.bl.cell (p := ⟨3, 0, none⟩) h3).trans hm
      have HI := Lib.hid hI
      clear KA hO hI
      have hOt := HO.out
      go_wp2_with (fail)
      (go_at_call 43; refine (HK.out _ HI.out (by omega) e3).mono ?_; rintro e w2 ⟨rfl, hI2, hg2⟩)
      have hs2 := hg2.size
      have hO2 := hOt.turn hg2 (Nat.le_refl _)
      have HO2 := Lib.hid hO2
      have HI2 := Lib.hid hI2
      have HG2 := Lib.hid hg2
      have HNB := Lib.hid (heap_alloc_new w2 (.cells #[.string o] 9))
      have hws : w.heap.size ≤ w2.heap.size := by omega
      clear hI2 hg2 hO2 hOt e0 e3 HK
      go_wp2_with (at_builtin; refine wpList_append_lies _ rfl _ _ 59 rfl w.heap.size 9 i0 (.string ⟨#[]⟩) 1 16 Tryz.underlying59 hi0 hq0 hq1 hq2 rfl (by decide) _ ws.length (ws.map Value.string) rfl (HO2.out.own.alloc _) ⟨w2.heap.size, 0, none⟩ 1 1 [.string o] rfl rfl (World.news_of_block HNB.out) (by simp [Value.oneCell']) (by omega) (by unfold maxLen; omega) (by omega) (by simp; omega) (w2.heap.size + 1) (by simp) ?_)
      intro gg cap w3 hown3 hgrow hat hltg
      have HO3 : Hid (OutI w w3 (.slice (some ⟨gg, 0, none⟩) (ws.length + 1) cap) (os.take (k + 1)) w.heap.size (w.heap.size + 2)) := by
        show OutI _ _ _ _ _ _
        rw [HTk.out]
        rw [← hln] at hown3
        exact HO2.out.app (by omega) (by omega) hown3 hgrow hat
      have HI3 := Lib.hid (HIG.out (k + 1) w2 w3 _ _ _ _ _ HI2.out HO2.out.own hgrow)
      have hz3 : w.heap.size + 2 < w3.heap.size := by have := hgrow.size; simp at this; omega
      have HG3 : Hid (∀ j line, xs[j]? = some line → w3.cell? ⟨w.heap.size + 2, j, none⟩ = some (.string line)) := by
        intro j line hj
        obtain ⟨q, e, n1, n2⟩ := HO.out.at_
        refine far_cell9 hgrow (by show w.heap.size + 2 < _; omega) (by rw [e]; intro e2; injection e2 with e2; exact n2 e2.symm) ?_
        exact (HG2.out.cell_far ⟨w.heap.size + 2, j, none⟩ hz (by intro e2; have e3 : w.heap.size + 2 = w.heap.size := (by injection e2); omega)).trans (HG.out j line hj)
      clear hown3 hgrow hat hltg HG HO HO2 HI2 HG2
      go_wp2
      go_roundw
      case rel => exact ⟨k + 1, by omega, by go_num, by first | exact HO3.out | (have h := HO3.out; rw [hln] at h; exact h), HI3.out, hz3, HG3.out⟩
      case measure => simp [intOf]; omega
    · have hke : k = L := by omega
      subst hke
      have hos : os.take k = os := List.take_of_length_le (by rw [HOL.out]; exact Nat.le_refl _)
      rw [hos] at hO
      have HO := Lib.hid hO
      have KE := HEN.out wr hI
      clear hO hI hG hos HST HIG HIB
      go_wp2_with (fail)
      (go_at_call 44; refine KE.mono ?_; rintro e w2 ⟨rfl, q, rfl⟩)
      have HO2 := Lib.hid (HO.out.drewN q)
      have HNB := Lib.hid (heap_alloc_new (wr.drewN q) (.cells #[.string fin] 9))
      have hws : w.heap.size ≤ wr.heap.size := by omega
      have hzd : (wr.drewN q).heap.size = wr.heap.size := rfl
      have hlo : os.length = k := HOL.out
      generalize wr.drewN q = w2 at HO2 HNB hzd
      have hzw : w.heap.size + 2 < w2.heap.size := by omega
      have hws2 : w.heap.size ≤ w2.heap.size := by omega
      clear KE HO hzd
      go_wp2_with (at_builtin; refine wpList_append_lies _ rfl _ _ 59 rfl w.heap.size 9 i0 (.string ⟨#[]⟩) 1 16 Tryz.underlying59 hi0 hq0 hq1 hq2 rfl (by decide) _ os.length (os.map Value.string) rfl (HO2.out.own.alloc _) ⟨w2.heap.size, 0, none⟩ 1 1 [.string fin] rfl rfl (World.news_of_block HNB.out) (by simp [Value.oneCell']) (by omega) (by unfold maxLen; omega) (by omega) (by simp; omega) (w2.heap.size + 1) (by simp) ?_)
      intro gg cap w3 hown3 hgrow hat hltg
      rw [← hlo] at hown3
      have hO3 := HO2.out.app (by omega) (by omega) hown3 hgrow hat
      have hcl : ∀ (j : Nat) x, (os ++ [fin])[j]? = some x → w3.cell? ⟨gg, 0 + j, none⟩ = some (.string x) := fun j x hx => by
        have h1 : ((os ++ [fin]).map Value.string)[j]? = some (.string x) := by rw [List.getElem?_map, hx]; rfl
        have h2 := World.ownsRow.cells hO3.own (g := gg) rfl j _ h1
        rw [Go.WideShapes.add_plain] at h2
        exact h2
      have hcap : (os ++ [fin]).length ≤ cap := by
        rcases hO3.own.2 with ⟨h, _⟩ | ⟨g2, c2, cur, h, _, _, hc, _⟩
        · cases h
        · injection h with _ _ h; subst h; simpa using hc
      have KJ := Tryz.strings_Join gg 0 cap (os ++ [fin]) ⟨#[10]⟩ w3 hcl hltg (by rw [List.length_append, hlo]; simp; omega) hcap (by have h := HSZ.out; unfold jn10 at h; simp only [ByteArray.size, List.size_toArray] at h; show (Lib.join _ [10]).length ≤ _; omega)
      have e5 : (⟨(Lib.join ((os ++ [fin]).map (·.data.toList)) (⟨#[10]⟩ : ByteArray).data.toList).toArray⟩ : ByteArray) = jn10 (os ++ [fin]) := rfl
      rw [e5, List.length_append, List.length_singleton, hlo] at KJ
      have HKJ := Lib.hid KJ
      have HB3 := Lib.hid hO3.bl
      have hadd : ∀ W : World, (Op.stringOp .add (jn10 (os ++ [fin])) ⟨#[10]⟩).run Tryz.prog W = .ok (.string (jn10 (os ++ [fin]) ++ ⟨#[10]⟩)) W := fun W => run_string_add_sum W _ _ (by have := HSZ.out; show _ + 1 ≤ 9223372036854775807; omega)
      generalize hout : jn10 (os ++ [fin]) = out at hadd HKJ
      have HOUT := Lib.hid hout
      clear hout
      clear hown3 hgrow hat hcl hcap KJ e5 hO3 HO2 HNB
      go_wp2_with (fail)
      (go_at_call 45; refine (HKJ.out).mono ?_; rintro e w4 ⟨rfl, hb4⟩)
      go_wp2
      go_ret
      exact ⟨by rw [HOUT.out]; rfl, bl_step HB3.out hb4⟩
end Go.Proofs.YtaelkgpebhdlhaaGreatDoor
