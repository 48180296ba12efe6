/-
  The table of the syllables' names, wherever it stands on a law's list.
-/
import Derived.Test.YthnofdkkocpjhaaDoorMath
import Derived.Test.YthnofdkkocpjhaaDoorRows
import Derived.Lib.LaidU8
import Derived.OpenShut
namespace Go.Proofs.YthnofdkkocpjhaaDoor
open Go.RowKit
set_option maxRecDepth 100000
set_option linter.unusedVariables false

/-- the names of the syllables -/
def sylL : List (List UInt8) := [[117, 116], [114, 101], [109, 105], [102, 97], [115, 111, 108], [108, 97]]
def syl (k : Nat) : ByteArray := ⟨(sylL.getD k []).toArray⟩
theorem syl_size (k : Nat) : (syl k).size ≤ 3 := by
  show (sylL.getD k []).toArray.size ≤ 3
  rw [List.size_toArray]
  by_cases h : k < 6
  · have : k = 0 ∨ k = 1 ∨ k = 2 ∨ k = 3 ∨ k = 4 ∨ k = 5 := by omega
    rcases this with rfl | rfl | rfl | rfl | rfl | rfl <;> decide
  · rw [List.getD_eq_getElem?_getD, List.getElem?_eq_none (by show 6 ≤ k; omega)]; decide
def SylTab (w : World) : Prop := ∀ i, i < 6 → w.cell? ⟨0, i, none⟩ = some (.string (syl i))
theorem SylTab.below {w w' : World} (h : SylTab w) (hb : Below w.heap.size w w') : SylTab w' := fun i hi =>
  (hb.cell (p := ⟨0, i, none⟩) (World.block_lt_of_cell? w _ (h i hi))).trans (h i hi)

theorem gSyl : Tryd.prog.globalNamed "loop.example/neumes/impl.syllableNames" = some 0 := by kernel_rfl
theorem gSylType : (Tryd.prog.globals[0]?).map (·.type) = some 72 := by kernel_rfl
theorem cellsStr1 : Tryd.prog.cellsOf 9 = 1 := by kernel_rfl

theorem sylTab_at {W : World} {l : List (String × DataW Unit)} (h : laidMet Tryd.prog l W) (hm : ("loop.example/neumes/impl.syllableNames", (Rows.laid_loop_example_neumes_impl_syllableNames : DataW Unit)) ∈ l) : SylTab W := by
  obtain ⟨g', t', cs, fuel, p, hg', ht', hvar, hd⟩ := Lib.laidMet.reads h hm
  obtain rfl := Option.some.inj (gSyl.symm.trans hg')
  obtain rfl := Option.some.inj (gSylType.symm.trans ht')
  have hd2 : DataW.trod (fun _ => ()) Tryd.prog W 0 (fun _ => true) false fuel 72 cs.toList = some (.agg (sylL.map fun s => (.lit (.string s) : DataW Unit)), p) := hd
  intro i hi
  obtain ⟨f2, d, q, h1, h2⟩ := Lib.array_elem Tryd.underlying72 hd2 i hi
  rw [cellsStr1, Nat.mul_one] at h2
  obtain ⟨s, hc, he, _⟩ := DataW.trod_string Tryd.underlying9 h2
  have e1 : cs.toList[i]? = some (.string s) := by
    have := congrArg (·[0]?) hc
    simpa [List.getElem?_take, List.getElem?_drop] using this
  have e2 : d = .lit (.string s.data.toList) := congrArg Prod.fst he
  have e3 : s.data.toList = sylL.getD i [] := by
    rw [e2, List.getElem?_map] at h1
    obtain ⟨x, hx, hy⟩ := Option.map_eq_some_iff.1 h1
    rw [List.getD_eq_getElem?_getD, hx]
    injection hy with hy
    injection hy with hy
    exact hy.symm
  rw [World.var?_cell gSyl hvar i, ← Array.getElem?_toList, e1]
  have : s = syl i := by
    obtain ⟨⟨x⟩⟩ := s
    unfold syl
    rw [← e3]
  rw [this]
end Go.Proofs.YthnofdkkocpjhaaDoor
