/- cell.Text. The reference's Text. strings.Builder: copyCheck, WriteString, String, at this program. cell.Texts, the reference's Texts. -/
import Derived.Test.YtnkddhmhjnhgcaaGreatDoorCelLeaf
import Derived.Shelf.Strings.Builder1
import Derived.Test.YtnkddhmhjnhgcaaGreatDoorCelSl
import Derived.WalkKit
namespace Go.Proofs.YtnkddhmhjnhgcaaGreatDoor
open Go.RowKit
set_option linter.unusedVariables false
set_option maxRecDepth 100000

theorem elInt32 : ElemT Tryz.prog 117 21 (.int .i32 0) 1 4 := ⟨Tryz.underlying117, by kernel_rfl, rfl, by decide, by decide⟩
/-- A slice of runes as a string. -/
theorem conv_runes (w : World) (a : Option Addr) (n c : Nat) (l : List Int) (hr : Rd w a n 1 (ints .i32 l)) : (convert 117 9 (.slice a n c)).run Tryz.prog w = .ok (.string (runesBytes l)) w := by
  have hl : l.length = n := by have := hr.1; rw [ints_len] at this; omega
  rcases hr.2 with h0 | ⟨b, o, rfl, hc⟩
  · have : l = [] := by simpa [ints] using h0
    subst this
    simp at hl
    subst hl
    cases a with
    | none => exact run_convert_runes_nil w 117 9 21 0 c Tryz.underlying117 Tryz.underlying21 Tryz.underlying9
    | some ad => exact run_convert_runes (P := Tryz.prog) w 117 9 21 ad 0 c [] (by simp) Tryz.underlying117 Tryz.underlying21 Tryz.underlying9 (by simp)
  · have h := run_convert_runes (P := Tryz.prog) w 117 9 21 ⟨b, o, none⟩ n c l (by omega) Tryz.underlying117 Tryz.underlying21 Tryz.underlying9 (fun j hj => by
      rw [Addr.add_mid]
      exact hc j _ (by simp [ints, List.getD, List.getElem?_eq_getElem hj]))
    rw [← hl, List.take_length] at h
    rw [← hl]
    exact h
/-- The mark k of a cell. -/
def mkAt (c : Cl) (k : Nat) : Int := match k with | 0 => c.m0 | 1 => c.m1 | _ => c.m2
def runesTo (c : Cl) (k : Nat) : List Int := c.r :: nzL (([c.m0, c.m1, c.m2] : List Int).take k)
theorem runesTo_next (c : Cl) (k : Nat) (hk : k < 3) : runesTo c (k + 1) = if mkAt c k = 0 then runesTo c k else runesTo c k ++ [mkAt c k] := by
  have : k = 0 ∨ k = 1 ∨ k = 2 := by omega
  rcases this with rfl | rfl | rfl
  · by_cases h : c.m0 = 0 <;> simp [runesTo, nzL, mkAt, h]
  · by_cases h : c.m1 = 0 <;> by_cases h0 : c.m0 = 0 <;> simp [runesTo, nzL, mkAt, h, h0]
  · by_cases h : c.m2 = 0 <;> by_cases h0 : c.m0 = 0 <;> by_cases h1 : c.m1 = 0 <;> simp [runesTo, nzL, mkAt, h, h0, h1]
theorem runesTo_len (c : Cl) (k : Nat) : (runesTo c k).length ≤ 4 := by
  unfold runesTo nzL
  have := List.length_filter_le (fun x => decide (x ≠ 0)) (([c.m0, c.m1, c.m2] : List Int).take k)
  simp at this ⊢
  omega

theorem index_M0 (c : Cl) (w : World) : (Instr.index 78 (.agg #[.int .i32 c.m0, .int .i32 c.m1, .int .i32 c.m2]) (.int .i64 0)).run Tryz.prog w = .ok (.int .i32 c.m0) w := by kernel_rfl
theorem index_M1 (c : Cl) (w : World) : (Instr.index 78 (.agg #[.int .i32 c.m0, .int .i32 c.m1, .int .i32 c.m2]) (.int .i64 1)).run Tryz.prog w = .ok (.int .i32 c.m1) w := by kernel_rfl
theorem index_M2 (c : Cl) (w : World) : (Instr.index 78 (.agg #[.int .i32 c.m0, .int .i32 c.m1, .int .i32 c.m2]) (.int .i64 2)).run Tryz.prog w = .ok (.int .i32 c.m2) w := by kernel_rfl
theorem index_M (c : Cl) (k : Nat) (hk : k < 3) (w : World) : (Instr.index 78 (.agg #[.int .i32 c.m0, .int .i32 c.m1, .int .i32 c.m2]) (.int .i64 k)).run Tryz.prog w = .ok (.int .i32 (mkAt c k)) w := by
  have : k = 0 ∨ k = 1 ∨ k = 2 := by omega
  rcases this with rfl | rfl | rfl
  · exact index_M0 c w
  · exact index_M1 c w
  · exact index_M2 c w

end Go.Proofs.YtnkddhmhjnhgcaaGreatDoor
namespace Go.Proofs.YtnkddhmhjnhgcaaGreatDoor
open Go.RowKit
set_option linter.unusedVariables false
set_option maxRecDepth 100000

end Go.Proofs.YtnkddhmhjnhgcaaGreatDoor
namespace Go.Proofs.YtnkddhmhjnhgcaaGreatDoor
open Go.RowKit Go.Shelf
set_option linter.unusedVariables false
set_option maxRecDepth 100000

end Go.Proofs.YtnkddhmhjnhgcaaGreatDoor
namespace Go.Proofs.YtnkddhmhjnhgcaaGreatDoor
open Go.RowKit
set_option linter.unusedVariables false
set_option maxRecDepth 100000

/-- A builder stays one while other blocks turn. -/
theorem isBuilder_kept {T e : TypeId} {B b : Nat} {p : Value} {bs : List Value} {w w' : World} (h : Lib.BuilderAt T e B b p bs w) (hk : Kept [] w w') : Lib.BuilderAt T e B b p bs w' := by
  obtain ⟨hB, v, hb, ho, hne⟩ := h
  refine ⟨hB, v, hk.heap hb (by simp), ?_, hne⟩
  obtain ⟨a, c, rfl⟩ : ∃ a c, v = .slice a bs.length c := by
    rcases ho.2 with ⟨hv, h0⟩ | ⟨g, cap, cur, hv, _⟩
    · exact ⟨none, 0, by rw [hv, h0]⟩
    · exact ⟨_, _, hv⟩
  exact Own.kept (a := a) (n := bs.length) (c := c) ho hk (by simp)
theorem isB_kept {T e : TypeId} {B b : Nat} {bs : List Value} {w w' : World} (h : Lib.IsBuilder T e B b bs w) (hk : Kept [] w w') : Lib.IsBuilder T e B b bs w' :=
  h.imp (fun h => isBuilder_kept h hk) (fun h => isBuilder_kept h hk)
theorem textC_size (c : Cl) : (textC c).size ≤ 16 := by
  unfold textC
  split
  · decide
  · split
    · decide
    · have h := runesBytes_size_le (textL c)
      have h2 := runesTo_len c 3
      have h3 : (textL c).length ≤ 4 := h2
      omega
theorem textsC_snoc (l : List Cl) (x : Cl) : textsC (l ++ [x]) = textsC l ++ (textC x).data.toList := by simp [textsC]
theorem textsC_len (l : List Cl) : (textsC l).length ≤ 16 * l.length := by
  induction l with
  | nil => simp [textsC]
  | cons c l ih =>
    have h := textC_size c
    have e : textsC (c :: l) = (textC c).data.toList ++ textsC l := by simp [textsC]
    rw [e, List.length_append, Array.length_toList, List.length_cons]
    have : (textC c).data.size = (textC c).size := rfl
    omega
def textsB (l : List Cl) : ByteArray := ⟨(textsC l).toArray⟩
theorem textsB_snoc (l : List Cl) (x : Cl) : textsB (l ++ [x]) = textsB l ++ textC x := by
  have h := ByteArray.mk_append_mk (textsC l) (textC x).data.toList
  unfold textsB
  rw [textsC_snoc, ← h, Array.toArray_toList]
theorem textsB_size (l : List Cl) : (textsB l).size ≤ 16 * l.length := by
  have := textsC_len l
  unfold textsB
  rw [ByteArray.size_mk', List.size_toArray]
  exact this

end Go.Proofs.YtnkddhmhjnhgcaaGreatDoor
