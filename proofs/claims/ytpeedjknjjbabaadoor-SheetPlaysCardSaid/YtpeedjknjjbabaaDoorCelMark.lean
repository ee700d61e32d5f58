/- cell.Mark. -/
import Derived.Test.YtpeedjknjjbabaaDoorCelVal
namespace Go.Proofs.YtpeedjknjjbabaaDoor
open Go.RowKit
set_option linter.unusedVariables false
set_option maxRecDepth 100000

theorem CelIn.mark0 {w : World} {b : Nat} {c : Cl} (h : CelIn w b c) (x : Int) : CelIn (w.setCell ⟨b, 1, none⟩ (.int .i32 x)) b (setM c 0 x) := by
  have h0 := heap_set w b 1 (.int .i32 x) _ _ h
  simp only [List.setIfInBounds_toArray, List.set_cons_succ, List.set_cons_zero] at h0
  exact h0
theorem CelIn.mark1 {w : World} {b : Nat} {c : Cl} (h : CelIn w b c) (x : Int) : CelIn (w.setCell ⟨b, 2, none⟩ (.int .i32 x)) b (setM c 1 x) := by
  have h0 := heap_set w b 2 (.int .i32 x) _ _ h
  simp only [List.setIfInBounds_toArray, List.set_cons_succ, List.set_cons_zero] at h0
  exact h0
theorem CelIn.mark2 {w : World} {b : Nat} {c : Cl} (h : CelIn w b c) (x : Int) : CelIn (w.setCell ⟨b, 3, none⟩ (.int .i32 x)) b (setM c 2 x) := by
  have h0 := heap_set w b 3 (.int .i32 x) _ _ h
  simp only [List.setIfInBounds_toArray, List.set_cons_succ, List.set_cons_zero] at h0
  exact h0

end Go.Proofs.YtpeedjknjjbabaaDoor
