/-
  The texts of tones in the program.
-/
import Derived.Test.YticapinlnlpbpaaDoorTone
import Derived.Test.YticapinlnlpbpaaDoorTxt
import Derived.Test.YticapinlnlpbpaaDoorShelf
namespace Go.Proofs.YticapinlnlpbpaaDoor
open Go.RowKit
set_option maxRecDepth 100000
set_option linter.unusedVariables false

theorem itoa3 (q : Int) (h0 : 0 ≤ q) (h1 : q ≤ 2) (w : World) : Calls Tryd.prog 67 #[.int .i64 q] w fun e w' => e = .returned (.string (dg q)) ∧ w = w' := by
  have : q = 0 ∨ q = 1 ∨ q = 2 := by omega
  rcases this with rfl | rfl | rfl
  · exact (Tryd.strconv_Itoa_small 0 (by decide) w).mono fun e w' ⟨h1, h2⟩ => ⟨h1.trans (by rw [show Lib.decDigits 0 = [48] by first | decide +kernel | simp [Lib.decDigits]]; rfl), h2.symm⟩
  · exact (Tryd.strconv_Itoa_small 1 (by decide) w).mono fun e w' ⟨h1, h2⟩ => ⟨h1.trans (by rw [show Lib.decDigits 1 = [49] by first | decide +kernel | simp [Lib.decDigits]]; rfl), h2.symm⟩
  · exact (Tryd.strconv_Itoa_small 2 (by decide) w).mono fun e w' ⟨h1, h2⟩ => ⟨h1.trans (by rw [show Lib.decDigits 2 = [50] by first | decide +kernel | simp [Lib.decDigits]]; rfl), h2.symm⟩
end Go.Proofs.YticapinlnlpbpaaDoor
