/-
  Words with spaces between: plain facts, and the library's Join over a list of words of a call's own.
-/
import Derived.Test.YthnofdkkocpjhaaDoorBase
import Derived.Test.YthnofdkkocpjhaaDoorShelf
import Derived.Lib.Join
namespace Go.Proofs.YthnofdkkocpjhaaDoor
open Go.RowKit
set_option maxRecDepth 100000
set_option linter.unusedVariables false

/-- words with spaces between -/
def jnw (ws : List ByteArray) : List UInt8 := Lib.join (ws.map (·.data.toList)) [32]
def jns (ws : List ByteArray) : ByteArray := ⟨(jnw ws).toArray⟩
theorem jnw_cons (x : ByteArray) (r : List ByteArray) : jnw (x :: r) = x.data.toList ++ (r.map fun y => 32 :: y.data.toList).flatten := by
  unfold jnw
  rw [List.map_cons, Lib.join_cons]
  unfold Lib.joinTail
  rw [List.map_map]
  rfl
theorem jnw_snoc {ws : List ByteArray} (h : ws ≠ []) (x : ByteArray) : jnw (ws ++ [x]) = jnw ws ++ ([32] ++ x.data.toList) := by
  cases ws with
  | nil => exact absurd rfl h
  | cons u r => rw [List.cons_append, jnw_cons, jnw_cons, List.map_append, List.flatten_append]; simp
theorem jnw_one (x : ByteArray) : jnw [x] = x.data.toList := by rw [jnw_cons]; simp
theorem jns_one (x : ByteArray) : jns [x] = x := by unfold jns; rw [jnw_one]
theorem jns_more {ws : List ByteArray} (h : ws ≠ []) (x : ByteArray) : jns ws ++ ⟨#[32]⟩ ++ x = jns (ws ++ [x]) := by
  obtain ⟨d⟩ := x
  unfold jns
  rw [ByteArray.mk_append_mk, ByteArray.mk_append_mk, jnw_snoc h]
  simp
theorem jnw_len {ws : List ByteArray} {m : Nat} (h : ∀ x, x ∈ ws → x.size ≤ m) : (jnw ws).length ≤ (m + 1) * ws.length := by
  cases ws with
  | nil => simp [jnw, Lib.join_nil]
  | cons x r =>
    rw [jnw_cons, List.length_append]
    have h0 : x.data.toList.length ≤ m := by have := h x (List.mem_cons_self); simpa using this
    have h1 : ((r.map fun y => 32 :: y.data.toList).flatten).length ≤ (m + 1) * r.length := by
      have hr : ∀ y, y ∈ r → y.size ≤ m := fun y hy => h y (List.mem_cons_of_mem _ hy)
      clear h h0
      induction r with
      | nil => simp
      | cons y r ih =>
        have hy : y.data.toList.length ≤ m := by have := hr y (List.mem_cons_self); simpa using this
        have := ih (fun z hz => hr z (List.mem_cons_of_mem _ hz))
        rw [List.map_cons, List.flatten_cons, List.length_append, List.length_cons, List.length_cons, Nat.mul_succ]
        omega
    rw [List.length_cons, Nat.mul_succ]
    omega

theorem infoStrJ : (Tryd.prog.info? 9).map (fun i => (i.zero, i.size, i.bytes)) = some (some (.string ⟨#[]⟩), 1, 16) := by kernel_rfl
theorem jnews {w : World} {s : ByteArray} {t : TypeId} : ∀ j u, ([.string s] : List Value)[j]? = some u → (w.alloc (.cells #[.string s] t)).cell? ((⟨w.heap.size, 0, none⟩ : Addr).add j) = some u := by
  intro j u hj
  match j, hj with
  | 0, hj => simp at hj; subst hj; simp [Addr.add]
theorem jnews_one {s : ByteArray} : ∀ u ∈ ([.string s] : List Value), u.oneCell' = true := by
  intro u hu; simp at hu; subst hu; rfl
/-- a list of words that a call has built so far -/
def JRow (w : World) (base : Nat) (v : Value) (ws : List ByteArray) : Prop := w.ownsRow base 9 1 v ws.length (ws.map Value.string)

theorem JRow.join {w : World} {base : Nat} {v : Value} {ws : List ByteArray} (h : JRow w base v ws) (hj : (jnw ws).length ≤ 1000000) (hn : ws.length ≤ 1000000) :
    Calls Tryd.prog 34 #[v, .string ⟨#[32]⟩] w fun e w' => e = .returned (.string (jns ws)) ∧ Below w.heap.size w w' := by
  rcases id h with ⟨_, ⟨rfl, hz⟩ | ⟨g, cap, cur, rfl, hg, hh, hc, hmx, hsz, htk⟩⟩
  · have hwe : ws = [] := List.eq_nil_of_length_eq_zero hz
    subst hwe
    exact (Tryd.strings_Join_none _ _ _ w).mono fun e w' ⟨h1, h2⟩ => ⟨h1, by rw [h2]; exact Below.refl _ _⟩
  · have hcl : ∀ (k : Nat) x, ws[k]? = some x → w.cell? ⟨g, 0 + k, none⟩ = some (.string x) := fun k x hx => by
      have h1 : (ws.map Value.string)[k]? = some (.string x) := by rw [List.getElem?_map, hx]; rfl
      have h2 := World.ownsRow.cells h (g := g) rfl k _ h1
      rw [Go.WideShapes.add_plain] at h2
      exact h2
    have hgs : g < w.heap.size := (World.ownsRow.lt h g rfl).2
    have KJ := Tryd.strings_Join g 0 cap ws ⟨#[32]⟩ w hcl hgs (by omega) (by simpa using hc) (by show (jnw ws).length ≤ _; omega)
    exact KJ.mono fun e w' ⟨h1, h2⟩ => ⟨h1, h2⟩
theorem JRow.start (w w1 : World) (hb : Below w.heap.size w w1) : JRow (w1.alloc (.cells #[] 9)) w.heap.size (.slice (some ⟨w1.heap.size, 0, none⟩) 0 0) [] :=
  ⟨rfl, .inr ⟨w1.heap.size, 0, #[], rfl, hb.size, heap_alloc_new w1 _, by simp, by simp [maxLen], by simp, by simp⟩⟩
theorem JRow.below {w w1 : World} {base : Nat} {v : Value} {ws : List ByteArray} (h : JRow w base v ws) (hb : Below w.heap.size w w1) : JRow w1 base v ws := by
  obtain ⟨hl, h | ⟨g, cap, cur, hv, hg, hh, hr⟩⟩ := h
  · exact ⟨hl, .inl h⟩
  · have hgs : g < w.heap.size := by
      rcases Nat.lt_or_ge g w.heap.size with h | h
      · exact h
      · rw [Array.getElem?_eq_none h] at hh; cases hh
    exact ⟨hl, .inr ⟨g, cap, cur, hv, hg, (hb.block g hgs).trans hh, hr⟩⟩
theorem JRow.app {w2 : World} {base : Nat} {v' : Value} {ws : List ByteArray} {x : ByteArray} (h : w2.ownsRow base 9 1 v' (ws.length + 1) (ws.map Value.string ++ [.string x])) : JRow w2 base v' (ws ++ [x]) := by
  unfold JRow
  rw [List.map_append, List.length_append]
  exact h
end Go.Proofs.YthnofdkkocpjhaaDoor
