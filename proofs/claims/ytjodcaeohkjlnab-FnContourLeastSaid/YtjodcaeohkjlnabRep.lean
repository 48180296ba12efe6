/-
  slices.Repeat of a list of one number 1.
-/
import Derived.Test.YtjodcaeohkjlnabCn
import Derived.Test.YtjodcaeohkjlnabEa
import Derived.Test.YtjodcaeohkjlnabShelf
import Derived.Laws.CopyOwn
import Derived.Deep.RegionLaw
import Derived.Deep.RegionHeld3
namespace Go.Proofs.Ytjodcaeohkjlnab
open Go.RowKit
set_option maxRecDepth 100000
set_option linter.unusedVariables false

/-- n ones and m zeros -/
def rp (n m : Nat) : List Value := List.replicate n (.int .i64 1) ++ List.replicate m (.int .i64 0)
theorem rp_len (n m : Nat) : (rp n m).length = n + m := by simp [rp]
theorem rp_one {n m j : Nat} (h : j < n) : (rp n m)[j]? = some (.int .i64 1) := by
  unfold rp
  rw [List.getElem?_append_left (by simpa using h)]
  simp [h]
theorem rp_splice {n m k : Nat} (hk : k ≤ m) : splice (rp n m) n (List.replicate k (.int .i64 1)) = rp (n + k) (m - k) := by
  unfold splice rp
  have e1 : (List.replicate n (Value.int .i64 1) ++ List.replicate m (Value.int .i64 0)).take n = List.replicate n (.int .i64 1) := by
    rw [List.take_append_of_le_length (by simp)]; exact List.take_of_length_le (by simp)
  have e2 : (List.replicate n (Value.int .i64 1) ++ List.replicate m (Value.int .i64 0)).drop (n + (List.replicate k (Value.int .i64 1)).length) = List.replicate (m - k) (.int .i64 0) := by
    rw [List.length_replicate, List.drop_append]
    simp
  rw [e1, e2, ← List.append_assoc, List.replicate_append_replicate]
theorem made_rp {w' : World} {base B N : Nat} (hown : w'.ownsRow base 3 1 (.slice (some ⟨B, 0, none⟩) N N) N (madeCells #[Value.int .i64 0] N).toList) : w'.heap[B]? = some (.cells (rp 0 N).toArray 3 (0, 0)) := by
  obtain ⟨cur, hh, ⟨hs, _⟩, hc⟩ := FR.made hown
  have e : cur = (rp 0 N).toArray := by
    apply Array.ext_getElem?
    intro i
    by_cases hi : i < N
    · rw [hc i hi]
      simp [rp, hi]
    · rw [Array.getElem?_eq_none (by omega)]
      simp [rp, hi]
  rw [e] at hh
  exact hh
theorem rp_fr {w : World} {B N : Nat} (h : w.heap[B]? = some (.cells (rp N 0).toArray 3 (0, 0))) : FR w B N N cone :=
  ⟨_, h, ⟨by simp [rp], Nat.le_refl _⟩, fun p hp => by simp [rp, hp, cone]⟩
theorem sizeInt : (Try.prog.info? 3).map (·.size) = some 1 := by kernel_rfl
theorem elemInts : Try.prog.underlying 30 = some (.slice (Try.prog.elem 30)) := by simp [Program.elem, Try.underlying30]
theorem sizeInts (W : World) : (Go.sizeOf (Try.prog.elem 30)).run Try.prog W = .ok 1 W := by
  have e : Try.prog.elem 30 = 3 := by simp [Program.elem, Try.underlying30]
  rw [e]
  exact Try.sizeOf3 W
theorem islice_hi (B N q : Nat) (hq : q ≤ N) (W : World) : (Instr.slice 30 (.slice (some ⟨B, 0, none⟩) N N) none (some (.int .i64 (q : Int))) none).run Try.prog W = .ok (.slice (some ⟨B, 0, none⟩) q N) W := by
  rw [run_slice_h W _ _ N N elemInts .i64 _ (by omega) (by omega), sizeInts]
  simp [Result.andThen, sliced, Addr.add]
  try (intro h; omega)
theorem islice_lo (B N q : Nat) (hq : q < N) (W : World) : (Instr.slice 30 (.slice (some ⟨B, 0, none⟩) N N) (some (.int .i64 (q : Int))) none none).run Try.prog W = .ok (.slice (some ⟨B, q, none⟩) (N - q) (N - q)) W := by
  rw [run_slice_l W _ _ N N elemInts .i64 _ (by omega) (by omega), sizeInts]
  have : ¬ N = q := by omega
  simp [Result.andThen, sliced, Addr.add, this]
  try (intro h; omega)

set_option maxHeartbeats 8000000 in
theorem repeat_one (B N : Nat) (h1 : 1 ≤ N) (h9 : N ≤ 21) (w : World) (h : w.cell? ⟨B, 0, none⟩ = some (.int .i64 1)) :
    Calls Try.prog 64 #[.slice (some ⟨B, 0, none⟩) 1 1, .int .i64 (N : Int)] w (EaBuilt w N cone) := by
  obtain ⟨i0, hi, hq0, hq1, hq2⟩ := info_parts infoIntN
  have KM : ∀ W : World, Calls Try.prog 87 #[.int .u64 1, .int .u64 (N : Int)] W fun e w' => e = .returned (.tuple #[.int .u64 0, .int .u64 (N : Int)]) ∧ W = w' := fun W => by
    have K := Try.bits_Mul 1 N (by decide) (by omega) W
    rw [Nat.one_mul, Nat.div_eq_of_lt (by omega), Nat.mod_eq_of_lt (by omega)] at K
    exact K.mono fun e w' ⟨a, b⟩ => ⟨a, b.symm⟩
  have HKM := Lib.hid KM
  clear KM
  have u1 : IntKind.u64.wrap (N : Int) = (N : Int) := by simp [IntKind.wrap, IntKind.bits, IntKind.signed]; omega
  have u2 : IntKind.i64.wrap (N : Int) = (N : Int) := IntWalk.i64_in _ (by omega)
  have g0 : decide ((N : Int) < 0) = false := by simp
  have g1 : decide ((9223372036854775807 : Int) < (N : Int)) = false := by simp; omega
  have hBw := World.block_lt_of_cell? w ⟨B, 0, none⟩ h
  have HC := Lib.hid h
  clear h
  go_enter Try.func64, Try.ntmps64
  go_wp2_with (fail)
  (go_at_call 87; refine (HKM.out _).mono ?_; rintro e wx ⟨rfl, rfl⟩)
  go_wp2_with (at_make; refine wpList_make_full _ rfl _ _ 30 rfl w.heap.size 3 i0 (.int .i64 0) 1 Try.underlying30 hi hq0 hq1 _ _ _ _ N rfl rfl rfl rfl ?c1 ?c2 ?c3 ?_)
  case c1 => rw [hq2]; omega
  case c2 => unfold maxLen; omega
  case c3 => exact Nat.le_refl _
  intro w2 hown hg2
  have hM := Lib.hid (made_rp hown)
  have hb2 : Below w.heap.size w w2 := ⟨hg2.os, hg2.tape, hg2.output, hg2.size, fun i hi => hg2.block i hi (fun e => by cases e)⟩
  have HB2 := Lib.hid hb2
  clear hown hg2 hb2
  have hsrc : ∀ j v, ([Value.int .i64 1] : List Value)[j]? = some v → w2.cell? ((⟨B, 0, none⟩ : Addr).add j) = some v := by
    intro j v hv
    cases j with
    | zero =>
      have hv1 : v = .int .i64 1 := by simpa using hv.symm
      subst hv1
      exact (HB2.out.cell (p := ⟨B, 0, none⟩) hBw).trans HC.out
    | succ j => simp at hv
  have HSRC := Lib.hid hsrc
  have hmn : ([Value.int .i64 1] : List Value).length = Nat.min 1 N := by
    show 1 = Nat.min 1 N
    rw [show Nat.min 1 N = min 1 N from rfl]; omega
  have HMN := Lib.hid hmn
  clear hsrc hmn
  go_wp2_with ((with_reducible show wpList _ _ _ _ _ _); refine wpList_copy_splice (o := ⟨some 33, _, _, _, _, _⟩) rfl (.tmp 31) (.tmp 32) 30 30 rfl 3 Try.underlying30 sizeInt (some ⟨w.heap.size, 0, none⟩) (some ⟨B, 0, none⟩) N N 1 1 rfl rfl w.heap.size 0 (rp 0 N) 3 hM.out [.int .i64 1] HMN.out (fun _ => ⟨rfl, _, rfl, HSRC.out⟩) (by rw [rp_len]; simp; omega) (fun v hv => by simp at hv; subst hv; rfl) w.heap.size w HB2.out (Nat.le_refl _) ?_)
  intro w3 hg3 hb3
  have e3 : splice (rp 0 N) 0 [Value.int .i64 1] = rp 1 (N - 1) := by
    have := rp_splice (n := 0) (m := N) (k := 1) h1
    simpa using this
  have HI0 : Hid (w3.heap[w.heap.size]? = some (.cells (rp 1 (N - 1)).toArray 3 (0, 0)) ∧ Below w.heap.size w w3) := ⟨by rw [← e3]; exact hg3.out, hb3⟩
  clear hg3 hb3 e3
  go_wp2
  go_loopw [8] (fun i wr => ∃ n : Nat, 1 ≤ n ∧ n ≤ N ∧ i = .int .i64 n ∧ Hid (wr.heap[w.heap.size]? = some (.cells (rp n (N - n)).toArray 3 (0, 0)) ∧ Below w.heap.size w wr)) (fun i _ => N - (intOf i).toNat)
  case atStart => exact ⟨1, Nat.le_refl _, h1, rfl, HI0.out⟩
  case round =>
    obtain ⟨n, hn1, hnN, rfl, HK⟩ := hrel
    clear HI0
    by_cases hlt : n < N
    · have n0 : (0 : Int) ≤ (n : Int) := by omega
      have n1 : (n : Int) < (N : Int) := by omega
      have hs1 := islice_lo w.heap.size N n hlt
      have hs2 := islice_hi w.heap.size N n hnN
      obtain ⟨k, hk⟩ : ∃ k, k = Nat.min n (N - n) := ⟨_, rfl⟩
      have hk1 : 1 ≤ k ∧ n + k ≤ N ∧ k ≤ n := by rw [hk]; simp only [Nat.min_def]; split <;> omega
      have hkn : k ≤ N - n := by omega
      have HK0 := Lib.hid hk
      clear hk
      obtain ⟨cs, hcs⟩ : ∃ cs, cs = List.replicate k (Value.int .i64 1) := ⟨_, rfl⟩
      have hcl : cs.length = k := by rw [hcs]; simp
      have HCS := Lib.hid hcs
      have HSP : Hid (splice (rp n (N - n)) n cs = rp (n + k) (N - (n + k))) := by
        show splice (rp n (N - n)) n cs = _
        rw [hcs, rp_splice hkn, Nat.sub_sub]
      have m1 : IntKind.i64.wrap ((n : Int) + (k : Int)) = (n : Int) + (k : Int) := IntWalk.i64_in _ (by omega)
      have HKd : Hid (wr.drew.heap[w.heap.size]? = some (.cells (rp n (N - n)).toArray 3 (0, 0)) ∧ Below w.heap.size w wr.drew) := ⟨HK.out.1, HK.out.2.drew⟩
      have HSR : Hid (∀ j v, cs[j]? = some v → wr.drew.cell? ((⟨w.heap.size, 0, none⟩ : Addr).add j) = some v) := by
        intro j v hv
        rw [hcs] at hv
        have hj := (List.getElem?_eq_some_iff.1 hv).1
        rw [List.length_replicate] at hj
        have hv1 : v = .int .i64 1 := by
          rw [List.getElem?_replicate, if_pos hj] at hv
          exact (Option.some.inj hv).symm
        subst hv1
        have e := rp_one (n := n) (m := N - n) (j := j) (by omega)
        rw [Go.WideShapes.add_plain, Nat.zero_add]
        have hh : wr.drew.heap[w.heap.size]? = some (.cells (rp n (N - n)).toArray 3 (0, 0)) := HKd.out.1
        simp only [World.cell?, hh]
        rw [List.getElem?_toArray]
        exact e
      have HONE : Hid (∀ v ∈ cs, v.oneCell' = true) := by
        intro v hv
        rw [hcs] at hv
        rw [List.eq_of_mem_replicate hv]; rfl
      clear hcs
      go_wp2
      refine wp_region_held_drew (S := fun _ => True) (by kernel_rfl) trivial (fun hHeld => ?_)
      refine wpAnyH_take (i := 0) (v := .int .i64 (n : Int)) rfl (by kernel_rfl) (by kernel_rfl) (by kernel_rfl) (fun _ _ _ h => h) (Or.inl ⟨by kernel_rfl, fun w _ => ?y0⟩) trivial ?_
      case y0 => go_simp
      (try simp only [Act.put, List.getElem_toArray, List.getElem_cons_zero, List.setIfInBounds_toArray, List.set_cons_zero, List.set_cons_succ])
      refine wpAnyH_take (i := 1) (v := .slice (some ⟨w.heap.size, 0, none⟩) N N) rfl (by kernel_rfl) (by kernel_rfl) (by kernel_rfl) (fun _ _ _ h => h) (Or.inl ⟨by kernel_rfl, fun w _ => ?y1⟩) trivial ?_
      case y1 => go_simp
      (try simp only [Act.put, List.getElem_toArray, List.getElem_cons_succ, List.getElem_cons_zero, List.setIfInBounds_toArray, List.set_cons_zero, List.set_cons_succ])
      refine wpAnyH_take (i := 2) (v := .int .i64 (n : Int)) rfl (by kernel_rfl) (by kernel_rfl) (by kernel_rfl) (fun _ _ _ h => h) (Or.inl ⟨by kernel_rfl, fun w _ => ?y2⟩) trivial ?_
      case y2 => go_simp
      (try simp only [Act.put, List.getElem_toArray, List.getElem_cons_succ, List.getElem_cons_zero, List.setIfInBounds_toArray, List.set_cons_zero, List.set_cons_succ])
      refine wpAnyH_take (i := 3) (v := .slice (some ⟨w.heap.size, n, none⟩) (N - n) (N - n)) rfl (by kernel_rfl) (by kernel_rfl) (by kernel_rfl) (fun _ _ _ h => h) (Or.inl ⟨by kernel_rfl, fun w _ => ?y3⟩) trivial ?_
      case y3 => go_simp
      (try simp only [Act.put, List.getElem_toArray, List.getElem_cons_succ, List.getElem_cons_zero, List.setIfInBounds_toArray, List.set_cons_zero, List.set_cons_succ])
      refine wpAnyH_take (i := 4) (v := .slice (some ⟨w.heap.size, 0, none⟩) N N) rfl (by kernel_rfl) (by kernel_rfl) (by kernel_rfl) (fun _ _ _ h => h) (Or.inl ⟨by kernel_rfl, fun w _ => ?y4⟩) trivial ?_
      case y4 => go_simp
      (try simp only [Act.put, List.getElem_toArray, List.getElem_cons_succ, List.getElem_cons_zero, List.setIfInBounds_toArray, List.set_cons_zero, List.set_cons_succ])
      refine wpAnyH_take (i := 5) (v := .int .i64 (n : Int)) rfl (by kernel_rfl) (by kernel_rfl) (by kernel_rfl) (fun _ _ _ h => h) (Or.inl ⟨by kernel_rfl, fun w _ => ?y5⟩) trivial ?_
      case y5 => go_simp
      (try simp only [Act.put, List.getElem_toArray, List.getElem_cons_succ, List.getElem_cons_zero, List.setIfInBounds_toArray, List.set_cons_zero, List.set_cons_succ])
      refine wpAnyH_take (i := 6) (v := .slice (some ⟨w.heap.size, 0, none⟩) n N) rfl (by kernel_rfl) (by kernel_rfl) (by kernel_rfl) (fun _ _ _ h => h) (Or.inl ⟨by kernel_rfl, fun w _ => ?y6⟩) trivial ?_
      case y6 => go_simp
      (try simp only [Act.put, List.getElem_toArray, List.getElem_cons_succ, List.getElem_cons_zero, List.setIfInBounds_toArray, List.set_cons_zero, List.set_cons_succ])
      refine wpAnyH_ready (rs := [7]) (by kernel_rfl) (by simp) ?_
      refine AllReadyH.cons rfl (fun K hK => ?_) AllReadyH.nil
      refine step_copy_splice rfl (.tmp 41) (.tmp 44) 30 30 rfl 3 Try.underlying30 sizeInt (some ⟨w.heap.size, n, none⟩) (some ⟨w.heap.size, 0, none⟩) (N - n) (N - n) n N rfl rfl w.heap.size n (rp n (N - n)) 3 HKd.out.1 cs (by rw [hcl]; exact HK0.out) (fun _ => ⟨rfl, _, rfl, HSR.out⟩) (by rw [hcl, rp_len]; omega) HONE.out w.heap.size w HKd.out.2 (Nat.le_refl _) ?_
      intro w4 hg4 hb4
      rw [hcl]
      have HN : Hid (w4.heap[w.heap.size]? = some (.cells (rp (n + k) (N - (n + k))).toArray 3 (0, 0)) ∧ Below w.heap.size w w4) := ⟨by rw [← HSP.out]; exact hg4.out, hb4⟩
      clear hg4 hb4
      refine hK.out _ _ trivial (fun hHeld => ?_)
      clear hK K
      (try simp only [Act.put, List.getElem_toArray, List.getElem_cons_succ, List.getElem_cons_zero, List.setIfInBounds_toArray, List.set_cons_zero, List.set_cons_succ])
      refine wpAnyH_take (i := 8) (v := .int .i64 ((n : Int) + (k : Int))) rfl (by kernel_rfl) (by kernel_rfl) (by kernel_rfl) (fun _ _ _ h => h) (Or.inl ⟨by kernel_rfl, fun w _ => ?y8⟩) trivial ?_
      case y8 => go_simp
      (try simp only [Act.put, List.getElem_toArray, List.getElem_cons_succ, List.getElem_cons_zero, List.setIfInBounds_toArray, List.set_cons_zero, List.set_cons_succ])
      refine wpAnyH_take (i := 9) (v := .int .i64 ((n : Int) + (k : Int))) rfl (by kernel_rfl) (by kernel_rfl) (by kernel_rfl) (fun _ _ _ h => h) (Or.inl ⟨by kernel_rfl, fun w _ => ?y9⟩) trivial ?_
      case y9 => go_simp
      (try simp only [Act.put, List.getElem_toArray, List.getElem_cons_succ, List.getElem_cons_zero, List.setIfInBounds_toArray, List.set_cons_zero, List.set_cons_succ])
      refine wpAnyH_done (by kernel_rfl) ?_ _
      clear hHeld
      go_wp2
      go_roundw
      case rel => exact ⟨n + k, by omega, by omega, by go_num, HN.out⟩
      case measure => simp [intOf]; omega
    · have hne : n = N := by omega
      subst hne
      have HE : Hid (EaBuilt w n cone (.returned (.slice (some ⟨w.heap.size, 0, none⟩) n n)) wr) := ⟨_, rfl, rp_fr (by have := HK.out.1; rwa [Nat.sub_self] at this), Nat.le_refl _, HK.out.2⟩
      go_wp2
      go_ret
      exact HE.out
end Go.Proofs.Ytjodcaeohkjlnab
