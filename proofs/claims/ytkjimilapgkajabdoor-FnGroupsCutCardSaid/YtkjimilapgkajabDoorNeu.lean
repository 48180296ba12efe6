/-
  The table of neumes, wherever it stands on a law's list.
-/
import Derived.Test.YtkjimilapgkajabDoorNn
namespace Go.Proofs.YtkjimilapgkajabDoor
open Go.RowKit
set_option maxRecDepth 100000
set_option linter.unusedVariables false

theorem gNeu : Tryd.prog.globalNamed "loop.example/neumes/impl.neumes" = some 1 := by kernel_rfl
theorem gNeuType : (Tryd.prog.globals[1]?).map (·.type) = some 116 := by kernel_rfl
theorem cellsStrN : Tryd.prog.cellsOf 9 = 1 := by kernel_rfl
theorem cellsNeu : Tryd.prog.cellsOf 115 = 2 := by kernel_rfl
def neuL : List (List UInt8 × List UInt8) := [([], nPun), ([117], nPes), ([100], nCli), ([117, 100], nTor), ([100, 117], nPor), ([117, 117], nSca), ([100, 100], nClm)]
theorem neu_get {i : Nat} (h : i < 7) : neuTbl.getD (i * 2) undef = .string ⟨((neuL.getD i ([], [])).1).toArray⟩ ∧ neuTbl.getD (i * 2 + 1) undef = .string ⟨((neuL.getD i ([], [])).2).toArray⟩ := by
  have : i = 0 ∨ i = 1 ∨ i = 2 ∨ i = 3 ∨ i = 4 ∨ i = 5 ∨ i = 6 := by omega
  rcases this with rfl | rfl | rfl | rfl | rfl | rfl | rfl <;> exact ⟨rfl, rfl⟩
theorem str_mk (s : ByteArray) : s = ⟨s.data.toList.toArray⟩ := by obtain ⟨⟨d⟩⟩ := s; rfl

set_option maxRecDepth 100000 in
theorem neuTab_at {W : World} {l : List (String × DataW Unit)} (h : laidMet Tryd.prog l W) (hm : ("loop.example/neumes/impl.neumes", (Rows.laid_loop_example_neumes_impl_neumes : DataW Unit)) ∈ l) : NeuTab W := by
  obtain ⟨g', t', cs, fuel, p, hg', ht', hvar, hd⟩ := Lib.laidMet.reads h hm
  obtain rfl := Option.some.inj (gNeu.symm.trans hg')
  obtain rfl := Option.some.inj (gNeuType.symm.trans ht')
  have hd2 : DataW.trod (fun _ => ()) Tryd.prog W 0 (fun _ => true) false fuel 116 cs.toList = some (.agg (neuL.map fun x => (.agg [.lit (.string x.1), .lit (.string x.2)] : DataW Unit)), p) := hd
  have key : ∀ i, i < 7 → cs[i * 2]? = some (.string ⟨((neuL.getD i ([], [])).1).toArray⟩) ∧ cs[i * 2 + 1]? = some (.string ⟨((neuL.getD i ([], [])).2).toArray⟩) := by
    intro i hi
    obtain ⟨f2, d, q, h1, h2⟩ := Lib.array_elem Tryd.underlying116 hd2 i hi
    rw [cellsNeu] at h2
    obtain ⟨xs, n, rfl, hx, hl, hxl, hall⟩ := DataW.trod_struct Tryd.underlying115 h2
    have q0 := hall 0 _ rfl
    have q1 := hall 1 _ rfl
    rw [List.getElem?_map] at h1
    obtain ⟨x, hxx, hy⟩ := Option.map_eq_some_iff.1 h1
    have hxs : xs.map (·.1) = [(.lit (.string x.1) : DataW Unit), .lit (.string x.2)] := by
      have := congrArg Prod.fst hx
      rw [← hy] at this
      simpa using this.symm
    have hx0 : neuL.getD i ([], []) = x := by rw [List.getD_eq_getElem?_getD, hxx]; rfl
    rw [hx0]
    obtain ⟨b0, b1, rfl⟩ : ∃ b0 b1, xs = [b0, b1] := by
      match xs, hxs with
      | [a, b], _ => exact ⟨a, b, rfl⟩
    simp at hxs
    simp only [List.getElem?_cons_zero, List.getElem?_cons_succ] at q0 q1
    obtain ⟨s0, k0, e0, _⟩ := DataW.trod_string Tryd.underlying9 q0
    obtain ⟨s1, k1, e1, _⟩ := DataW.trod_string Tryd.underlying9 q1
    have z0 : s0.data.toList = x.1 := by
      have := hxs.1
      rw [congrArg Prod.fst e0] at this
      simpa using this
    have z1 : s1.data.toList = x.2 := by
      have := hxs.2
      rw [congrArg Prod.fst e1] at this
      simpa using this
    have w0 : cs.toList[i * 2]? = some (.string s0) := by
      have := congrArg (·[0]?) k0
      simpa [List.getElem?_take, List.getElem?_drop, cellsNeu, cellsStrN] using this
    have w1 : cs.toList[i * 2 + 1]? = some (.string s1) := by
      have := congrArg (·[0]?) k1
      simpa [List.getElem?_take, List.getElem?_drop, cellsNeu, cellsStrN] using this
    rw [← Array.getElem?_toList, ← Array.getElem?_toList, w0, w1, ← z0, ← z1, ← str_mk, ← str_mk]
    exact ⟨rfl, rfl⟩
  intro i hi
  rw [World.var?_cell gNeu hvar i]
  by_cases e : i % 2 = 0
  · have h2 : i = i / 2 * 2 := by omega
    have k := (key (i / 2) (by omega)).1
    rw [← (neu_get (by omega)).1, ← h2] at k
    exact k
  · have h2 : i = i / 2 * 2 + 1 := by omega
    have k := (key (i / 2) (by omega)).2
    rw [← (neu_get (by omega)).2, ← h2] at k
    exact k
end Go.Proofs.YtkjimilapgkajabDoor
