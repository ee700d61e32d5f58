/- cell.Text. -/
import Derived.Test.YtpeedjknjjbabaaDoorCelLeaf
namespace Go.Proofs.YtpeedjknjjbabaaDoor
open Go.RowKit
set_option linter.unusedVariables false
set_option maxRecDepth 100000

theorem elInt32 : ElemT Tryd.prog 95 21 (.int .i32 0) 1 4 := ⟨Tryd.underlying95, by kernel_rfl, rfl, by decide, by decide⟩
/-- A slice of runes as a string. -/
theorem conv_runes (w : World) (a : Option Addr) (n c : Nat) (l : List Int) (hr : Rd w a n 1 (ints .i32 l)) : (convert 95 9 (.slice a n c)).run Tryd.prog w = .ok (.string (runesBytes l)) w := by
  have hl : l.length = n := by have := hr.1; rw [ints_len] at this; omega
  rcases hr.2 with h0 | ⟨b, o, rfl, hc⟩
  · have : l = [] := by simpa [ints] using h0
    subst this
    simp at hl
    subst hl
    cases a with
    | none => exact run_convert_runes_nil w 95 9 21 0 c Tryd.underlying95 Tryd.underlying21 Tryd.underlying9
    | some ad => exact run_convert_runes (P := Tryd.prog) w 95 9 21 ad 0 c [] (by simp) Tryd.underlying95 Tryd.underlying21 Tryd.underlying9 (by simp)
  · have h := run_convert_runes (P := Tryd.prog) w 95 9 21 ⟨b, o, none⟩ n c l (by omega) Tryd.underlying95 Tryd.underlying21 Tryd.underlying9 (fun j hj => by
      rw [Addr.add_mid]
      exact hc j _ (by simp [ints, List.getD, List.getElem?_eq_getElem hj]))
    rw [← hl, List.take_length] at h
    rw [← hl]
    exact h
/-- The mark k of a cell. -/
def mkAt (c : Cl) (k : Nat) : Int := match k with | 0 => c.m0 | 1 => c.m1 | _ => c.m2
def runesTo (c : Cl) (k : Nat) : List Int := c.r :: nzL (([c.m0, c.m1, c.m2] : List Int).take k)
theorem runesTo_next (c : Cl) (k : Nat) (hk : k < 3) : runesTo c (k + 1) = if mkAt c k = 0 then runesTo c k else runesTo c k ++ [mkAt c k] := by
  have : k = 0 ∨ k = 1 ∨ k = 2 := by omega
  rcases this with rfl | rfl | rfl
  · by_cases h : c.m0 = 0 <;> simp [runesTo, nzL, mkAt, h]
  · by_cases h : c.m1 = 0 <;> by_cases h0 : c.m0 = 0 <;> simp [runesTo, nzL, mkAt, h, h0]
  · by_cases h : c.m2 = 0 <;> by_cases h0 : c.m0 = 0 <;> by_cases h1 : c.m1 = 0 <;> simp [runesTo, nzL, mkAt, h, h0, h1]
theorem runesTo_len (c : Cl) (k : Nat) : (runesTo c k).length ≤ 4 := by
  unfold runesTo nzL
  have := List.length_filter_le (fun x => decide (x ≠ 0)) (([c.m0, c.m1, c.m2] : List Int).take k)
  simp at this ⊢
  omega

theorem index_M0 (c : Cl) (w : World) : (Instr.index 63 (.agg #[.int .i32 c.m0, .int .i32 c.m1, .int .i32 c.m2]) (.int .i64 0)).run Tryd.prog w = .ok (.int .i32 c.m0) w := by kernel_rfl
theorem index_M1 (c : Cl) (w : World) : (Instr.index 63 (.agg #[.int .i32 c.m0, .int .i32 c.m1, .int .i32 c.m2]) (.int .i64 1)).run Tryd.prog w = .ok (.int .i32 c.m1) w := by kernel_rfl
theorem index_M2 (c : Cl) (w : World) : (Instr.index 63 (.agg #[.int .i32 c.m0, .int .i32 c.m1, .int .i32 c.m2]) (.int .i64 2)).run Tryd.prog w = .ok (.int .i32 c.m2) w := by kernel_rfl
theorem index_M (c : Cl) (k : Nat) (hk : k < 3) (w : World) : (Instr.index 63 (.agg #[.int .i32 c.m0, .int .i32 c.m1, .int .i32 c.m2]) (.int .i64 k)).run Tryd.prog w = .ok (.int .i32 (mkAt c k)) w := by
  have : k = 0 ∨ k = 1 ∨ k = 2 := by omega
  rcases this with rfl | rfl | rfl
  · exact index_M0 c w
  · exact index_M1 c w
  · exact index_M2 c w

end Go.Proofs.YtpeedjknjjbabaaDoor
