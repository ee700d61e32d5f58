/- cell.Mark. The reference's marks, Valid, Mark. The reference's Valid, Mark. -/
import Derived.Test.YtnkddhmhjnhgcaaDoorCelVal
namespace Go.Proofs.YtnkddhmhjnhgcaaDoor
open Go.RowKit
set_option linter.unusedVariables false
set_option maxRecDepth 100000

theorem CelIn.mark0 {w : World} {b : Nat} {c : Cl} (h : CelIn w b c) (x : Int) : CelIn (w.setCell ⟨b, 1, none⟩ (.int .i32 x)) b (setM c 0 x) := by
  have h0 := heap_set w b 1 (.int .i32 x) _ _ h
  simp only [List.setIfInBounds_toArray, List.set_cons_succ, List.set_cons_zero] at h0
  exact h0
theorem CelIn.mark1 {w : World} {b : Nat} {c : Cl} (h : CelIn w b c) (x : Int) : CelIn (w.setCell ⟨b, 2, none⟩ (.int .i32 x)) b (setM c 1 x) := by
  have h0 := heap_set w b 2 (.int .i32 x) _ _ h
  simp only [List.setIfInBounds_toArray, List.set_cons_succ, List.set_cons_zero] at h0
  exact h0
theorem CelIn.mark2 {w : World} {b : Nat} {c : Cl} (h : CelIn w b c) (x : Int) : CelIn (w.setCell ⟨b, 3, none⟩ (.int .i32 x)) b (setM c 2 x) := by
  have h0 := heap_set w b 3 (.int .i32 x) _ _ h
  simp only [List.setIfInBounds_toArray, List.set_cons_succ, List.set_cons_zero] at h0
  exact h0

end Go.Proofs.YtnkddhmhjnhgcaaDoor
namespace Go.Proofs.YtnkddhmhjnhgcaaDoor
open Go.RowKit
set_option linter.unusedVariables false
set_option maxRecDepth 100000
set_option linter.unusedSimpArgs false

end Go.Proofs.YtnkddhmhjnhgcaaDoor
namespace Go.Proofs.YtnkddhmhjnhgcaaDoor
open Go.RowKit
set_option linter.unusedVariables false
set_option maxRecDepth 100000
set_option linter.unusedSimpArgs false

theorem valid_ord {c : Cl} (h : validC c = true) (hr : c.r ≠ 0) : ordI c.m0 c.m1 c.m2 = true := by
  unfold validC at h
  rw [if_neg hr] at h
  simp only [Bool.and_eq_true] at h
  exact h.2.2

end Go.Proofs.YtnkddhmhjnhgcaaDoor
