/- The reference's Row. -/
import Derived.Test.YtnkddhmhjnhgcaaDoorCelMarks
import Derived.Test.YtnkddhmhjnhgcaaDoorCelSl
namespace Go.Proofs.YtnkddhmhjnhgcaaDoor
open Go.RowKit
set_option linter.unusedVariables false
set_option maxRecDepth 100000
set_option linter.unusedSimpArgs false

theorem rrow_bad {x : Cl} (l : List Cl) (h : validC x = false ∨ x.w = 0) : rrow (x :: l) = false := by cases l <;> simp [rrow, h]
theorem rrow_one {x : Cl} (l : List Cl) (hv : validC x = true) (h : x.w = 1) : rrow (x :: l) = rrow l := by cases l <;> simp [rrow, hv, h]
theorem rrow_end {x : Cl} (hv : validC x = true) (h : x.w = 2) : rrow [x] = false := by simp [rrow, hv, h]
theorem rrow_two {x : Cl} (y : Cl) (l : List Cl) (hv : validC x = true) (h : x.w = 2) : rrow (x :: y :: l) = if y = spacerC x.p then rrow l else false := by simp [rrow, hv, h]

end Go.Proofs.YtnkddhmhjnhgcaaDoor
