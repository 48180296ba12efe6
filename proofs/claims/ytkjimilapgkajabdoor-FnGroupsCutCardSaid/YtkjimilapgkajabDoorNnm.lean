/-
  The names of neumes, and what a name tells: plain mathematics.
-/
import Derived.Test.YtkjimilapgkajabDoorCv
import Derived.Lib.Bytealg
namespace Go.Proofs.YtkjimilapgkajabDoor
open Go.RowKit
set_option maxRecDepth 100000
set_option linter.unusedVariables false

def nPun : List UInt8 := [112, 117, 110, 99, 116, 117, 109]
def nPes : List UInt8 := [112, 101, 115]
def nCli : List UInt8 := [99, 108, 105, 118, 105, 115]
def nTor : List UInt8 := [116, 111, 114, 99, 117, 108, 117, 115]
def nPor : List UInt8 := [112, 111, 114, 114, 101, 99, 116, 117, 115]
def nSca : List UInt8 := [115, 99, 97, 110, 100, 105, 99, 117, 115]
def nClm : List UInt8 := [99, 108, 105, 109, 97, 99, 117, 115]
def nGrp : List UInt8 := [103, 114, 111, 117, 112, 45]
/-- the name of a short list of ways -/
def nnl (l : List UInt8) : List UInt8 :=
  if l = [] then nPun else if l = [117] then nPes else if l = [100] then nCli else if l = [117, 100] then nTor else if l = [100, 117] then nPor else if l = [117, 117] then nSca else if l = [100, 100] then nClm else nGrp ++ l
/-- is a text a neume? -/
def isn (s : ByteArray) : Bool := cv s && decide (s.size ≤ 3)
/-- its name, none if it is none -/
def nnm (s : ByteArray) : ByteArray := if isn s then ⟨(nnl s.data.toList).toArray⟩ else ⟨#[]⟩
theorem isn_no1 {s : ByteArray} (h : cv s = false) : isn s = false := by simp [isn, h]
theorem isn_no2 {s : ByteArray} (h : 3 < s.size) : isn s = false := by
  have : decide (s.size ≤ 3) = false := by simp; omega
  simp [isn, this]
theorem isn_yes {s : ByteArray} (h : cv s = true) (k : s.size ≤ 3) : isn s = true := by simp [isn, h, k]
theorem nnm_no {s : ByteArray} (h : isn s = false) : nnm s = ⟨#[]⟩ := by simp [nnm, h]
theorem nnm_yes {s : ByteArray} (h : isn s = true) : nnm s = ⟨(nnl s.data.toList).toArray⟩ := by simp [nnm, h]
theorem isn_in {s : ByteArray} (h : isn s = true) : cv s = true ∧ s.size ≤ 3 := by simpa [isn] using h

/-- all contours of n ways, in the model's order -/
def conts : Nat → List (List UInt8)
  | 0 => [[]]
  | n + 1 => (conts n).flatMap fun l => [l ++ [117], l ++ [100], l ++ [115]]
def allC : List (List UInt8) := conts 0 ++ conts 1 ++ conts 2 ++ conts 3
theorem wayb3 {c : UInt8} (h : wayb c = true) : c = 117 ∨ c = 100 ∨ c = 115 := by
  simp [wayb] at h
  rcases h with (h | h) | h
  · exact .inl h
  · exact .inr (.inl h)
  · exact .inr (.inr h)
theorem isn_mem {s : ByteArray} (h : isn s = true) : s.data.toList ∈ allC := by
  obtain ⟨hc, hn⟩ := isn_in h
  have ha : s.data.toList.all wayb = true := by
    unfold cv at hc; rw [Bool.and_eq_true] at hc; exact hc.2
  have hl : s.data.toList.length ≤ 3 := by simpa using hn
  generalize s.data.toList = l at ha hl
  match l, ha, hl with
  | [], _, _ => decide
  | [a], ha, _ =>
    simp only [List.all_cons, List.all_nil, Bool.and_true] at ha
    rcases wayb3 ha with rfl | rfl | rfl <;> decide
  | [a, b], ha, _ =>
    simp only [List.all_cons, List.all_nil, Bool.and_true, Bool.and_eq_true] at ha
    rcases wayb3 ha.1 with rfl | rfl | rfl <;> rcases wayb3 ha.2 with rfl | rfl | rfl <;> decide
  | [a, b, c], ha, _ =>
    simp only [List.all_cons, List.all_nil, Bool.and_true, Bool.and_eq_true] at ha
    rcases wayb3 ha.1 with rfl | rfl | rfl <;> rcases wayb3 ha.2.1 with rfl | rfl | rfl <;> rcases wayb3 ha.2.2 with rfl | rfl | rfl <;> decide
  | _ :: _ :: _ :: _ :: _, _, hl => simp at hl
theorem allC_isn : ∀ l ∈ allC, isn ⟨l.toArray⟩ = true := by decide +kernel
theorem nnl_inj : ∀ l ∈ allC, ∀ m ∈ allC, nnl l = nnl m → l = m := by decide +kernel

/-- what a name tells: a contour, or none -/
def ncn (s : ByteArray) : ByteArray × Bool :=
  match allC.find? (fun l => nnl l == s.data.toList) with
  | some l => (⟨l.toArray⟩, true)
  | none => (⟨#[]⟩, false)
theorem ncn_hit {s : ByteArray} {l : List UInt8} (h : l ∈ allC) (he : nnl l = s.data.toList) : ncn s = (⟨l.toArray⟩, true) := by
  unfold ncn
  cases hf : allC.find? (fun l => nnl l == s.data.toList) with
  | none =>
    rw [List.find?_eq_none] at hf
    exact absurd (by simpa using he) (hf l h)
  | some m =>
    have h1 := List.find?_some hf
    have h2 := List.mem_of_find?_eq_some hf
    have : m = l := nnl_inj m h2 l h (by rw [he]; simpa using h1)
    rw [this]
theorem ncn_miss {s : ByteArray} (h : ∀ l ∈ allC, nnl l ≠ s.data.toList) : ncn s = (⟨#[]⟩, false) := by
  unfold ncn
  rw [List.find?_eq_none.2 fun l hl => by simpa using h l hl]
theorem ncn_cases (s : ByteArray) : ncn s = (⟨#[]⟩, false) ∨ ∃ l, l ∈ allC ∧ nnl l = s.data.toList ∧ ncn s = (⟨l.toArray⟩, true) := by
  unfold ncn
  cases hf : allC.find? (fun l => nnl l == s.data.toList) with
  | none => exact .inl rfl
  | some m => exact .inr ⟨m, List.mem_of_find?_eq_some hf, by simpa using List.find?_some hf, rfl⟩
/-- the names that do not tell their contours -/
def tabC : List (List UInt8) := [[], [117], [100], [117, 100], [100, 117], [117, 117], [100, 100]]
theorem tabC_mem : ∀ l ∈ tabC, l ∈ allC := by decide
theorem nnl_tab {l : List UInt8} (h : l ∉ tabC) : nnl l = nGrp ++ l := by
  simp [tabC] at h
  obtain ⟨h0, h1, h2, h3, h4, h5, h6⟩ := h
  simp [nnl, h0, h1, h2, h3, h4, h5, h6]
/-- a name that is none of the table's tells what stands behind its beginning -/
theorem ncn_pre {s c : ByteArray} (hs : s.data.toList = nGrp ++ c.data.toList) (hn : (nnm c).data.toList = s.data.toList) : ncn s = (c, true) := by
  have hi : isn c = true := by
    cases h : isn c
    · rw [nnm_no h, hs] at hn
      simp [nGrp] at hn
    · rfl
  rw [nnm_yes hi] at hn
  have := ncn_hit (isn_mem hi) hn
  rw [this]
theorem ncn_pre_no {s c : ByteArray} (hs : s.data.toList = nGrp ++ c.data.toList) (hn : (nnm c).data.toList ≠ s.data.toList) (ht : ∀ l ∈ tabC, nnl l ≠ s.data.toList) : ncn s = (⟨#[]⟩, false) := by
  refine ncn_miss fun l hl he => ?_
  by_cases hm : l ∈ tabC
  · exact ht l hm he
  · rw [nnl_tab hm, hs] at he
    have e : l = c.data.toList := List.append_cancel_left he
    apply hn
    have hc : c = ⟨l.toArray⟩ := by
      obtain ⟨⟨d⟩⟩ := c
      have e' : l = d := e
      rw [e']
    rw [hc, nnm_yes (allC_isn l hl), hs]
    show nnl l = nGrp ++ c.data.toList
    rw [nnl_tab hm, e]
theorem ncn_none {s : ByteArray} (hs : ∀ l, nGrp ++ l ≠ s.data.toList) (ht : ∀ l ∈ tabC, nnl l ≠ s.data.toList) : ncn s = (⟨#[]⟩, false) := by
  refine ncn_miss fun l hl he => ?_
  by_cases hm : l ∈ tabC
  · exact ht l hm he
  · rw [nnl_tab hm] at he
    exact hs l he
end Go.Proofs.YtkjimilapgkajabDoor
