/-
  The draw of a melody and of steps to move it by returns.
-/
import Derived.Test.YtmipkodgkldmbaaDoorSmT
import Derived.Test.YtmipkodgkldmbaaDoorSl
namespace Go.Proofs.YtmipkodgkldmbaaDoor
open Go.RowKit
set_option maxRecDepth 100000
set_option linter.unusedVariables false

def DrewMv (most : Nat) (w : World) (e : Ending) (w' : World) : Prop :=
  ∃ v xs k, e = .returned (.tuple #[v, .int .i64 k]) ∧ TRow w' w.heap.size w'.heap.size v xs ∧ xs.length ≤ most ∧ Below w.heap.size w w' ∧ -9223372036854775808 ≤ k ∧ k ≤ 9223372036854775807
theorem drewMv {B A q most : Nat} {w w1 w2 : World} {v : Value} {xs : List (Int × Bool)} {k : Int} (h : DmInv w1 w2 B A q v xs) (hl : xs.length ≤ most) (hb : Below w.heap.size w w1) (hB : w.heap.size ≤ B) (h0 : -9223372036854775808 ≤ k) (h1 : k ≤ 9223372036854775807) : DrewMv most w (.returned (.tuple #[v, .int .i64 k])) w2 :=
  ⟨v, xs, k, rfl, ⟨tmono h.own hb.size, fun g hg => (h.own.lt g hg).2⟩, hl, below_gb hb h.gb hB, h0, h1⟩
theorem drewMv_e {B A q most : Nat} {w w1 w2 : World} {v : Value} {xs : List (Int × Bool)} {k : Int} {e : Ending} (he : e = .returned (.tuple #[v, .int .i64 k])) (h : DmInv w1 w2 B A q v xs) (hl : xs.length ≤ most) (hb : Below w.heap.size w w1) (hB : w.heap.size ≤ B) (h0 : -9223372036854775808 ≤ k) (h1 : k ≤ 9223372036854775807) : DrewMv most w e w2 := by
  rw [he]; exact drewMv h hl hb hB h0 h1
theorem DmInv.alloc {w wr : World} {B A q : Nat} {v : Value} {xs : List (Int × Bool)} (h : DmInv w wr B A q v xs) (hB : B < w.heap.size) (o : Obj) : DmInv w (wr.alloc o) B A q v xs :=
  ⟨h.own.alloc o, h.rd.alloc o, gb_alloc h.gb o⟩
theorem DmInv.drew {w wr : World} {B A q : Nat} {v : Value} {xs : List (Int × Bool)} (h : DmInv w wr B A q v xs) : DmInv w wr.drew B A q v xs :=
  ⟨h.own.drew, h.rd.drew, gb_drew h.gb⟩
end Go.Proofs.YtmipkodgkldmbaaDoor
