/- A pen among the arguments. -/
import Derived.Test.YtpeedjknjjbabaaDoorPenFn
import Derived.ProofKit
import Derived.OpenShut
namespace Go.Proofs.YtpeedjknjjbabaaDoor
open Go.ChangeShapes Go.WideShapes Go.ChangeAt Go.RowKit
set_option linter.unusedVariables false
set_option maxRecDepth 100000

/-! A pen by value. -/
theorem cColor : Tryd.prog.cellsOf 66 = 5 := by kernel_rfl
theorem cPen : Tryd.prog.cellsOf 69 = 11 := by kernel_rfl
theorem cKind : Tryd.prog.cellsOf 64 = 1 := by kernel_rfl
theorem cU8 : Tryd.prog.cellsOf 5 = 1 := by kernel_rfl
theorem cFlags : Tryd.prog.cellsOf 67 = 1 := by kernel_rfl
def colD {H : Type} (c : Col) : DataW H := .agg [.lit (.int .i64 c.k), .lit (.int .u8 c.i), .lit (.int .u8 c.r), .lit (.int .u8 c.g), .lit (.int .u8 c.b)]
def penD {H : Type} (p : Pn) : DataW H := .agg [colD p.f, colD p.b, .lit (.int .u8 p.fl)]

section
variable {H : Type} {enc : TypeId × Value → H} {w : World} {base : Nat} {sp : Nat → Bool} {held : Bool}
theorem open_color {fuel : Nat} {c0 c1 c2 c3 c4 : Value} {x : DataW H × List MemPlace} (h : DataW.trod enc Tryd.prog w base sp held fuel 66 [c0, c1, c2, c3, c4] = some x) :
    ∃ c : Col, ColB c ∧ (Lit.int .i64 c.k).wf = true ∧ x = (colD c, []) ∧ c0 = .int .i64 c.k ∧ c1 = .int .u8 c.i ∧ c2 = .int .u8 c.r ∧ c3 = .int .u8 c.g ∧ c4 = .int .u8 c.b := by
  obtain ⟨xs, n, rfl, hx, _, hlen, hf⟩ := DataW.trod_struct Tryd.underlying66 h
  have g0 : DataW.trod enc Tryd.prog w base sp held n 64 (([c0, c1, c2, c3, c4].drop 0).take (Tryd.prog.cellsOf 64)) = xs[0]? := hf 0 _ rfl
  have g1 : DataW.trod enc Tryd.prog w base sp held n 5 (([c0, c1, c2, c3, c4].drop 1).take (Tryd.prog.cellsOf 5)) = xs[1]? := hf 1 _ rfl
  have g2 : DataW.trod enc Tryd.prog w base sp held n 5 (([c0, c1, c2, c3, c4].drop 2).take (Tryd.prog.cellsOf 5)) = xs[2]? := hf 2 _ rfl
  have g3 : DataW.trod enc Tryd.prog w base sp held n 5 (([c0, c1, c2, c3, c4].drop 3).take (Tryd.prog.cellsOf 5)) = xs[3]? := hf 3 _ rfl
  have g4 : DataW.trod enc Tryd.prog w base sp held n 5 (([c0, c1, c2, c3, c4].drop 4).take (Tryd.prog.cellsOf 5)) = xs[4]? := hf 4 _ rfl
  rw [cKind] at g0
  rw [cU8] at g1 g2 g3 g4
  match xs, hlen with
  | [y0, y1, y2, y3, y4], _ =>
    obtain ⟨n0, e0, z0, w0⟩ := DataW.trod_int Tryd.underlying64 (x := y0) (by simpa using g0)
    obtain ⟨n1, e1, z1, w1⟩ := DataW.trod_int Tryd.underlying5 (x := y1) (by simpa using g1)
    obtain ⟨n2, e2, z2, w2⟩ := DataW.trod_int Tryd.underlying5 (x := y2) (by simpa using g2)
    obtain ⟨n3, e3, z3, w3⟩ := DataW.trod_int Tryd.underlying5 (x := y3) (by simpa using g3)
    obtain ⟨n4, e4, z4, w4⟩ := DataW.trod_int Tryd.underlying5 (x := y4) (by simpa using g4)
    simp at e0 e1 e2 e3 e4
    subst z0 z1 z2 z3 z4
    exact ⟨⟨n0, n1, n2, n3, n4⟩, ⟨bounds_u8 w1, bounds_u8 w2, bounds_u8 w3, bounds_u8 w4⟩, w0, by rw [hx]; simp [colD], e0, e1, e2, e3, e4⟩

theorem array11 {α : Type} {cs : Array α} (h : cs.size = 11) : ∃ c0 c1 c2 c3 c4 c5 c6 c7 c8 c9 c10, cs = #[c0, c1, c2, c3, c4, c5, c6, c7, c8, c9, c10] := by
  obtain ⟨l⟩ := cs
  match l, h with
  | [c0, c1, c2, c3, c4, c5, c6, c7, c8, c9, c10], _ => exact ⟨c0, c1, c2, c3, c4, c5, c6, c7, c8, c9, c10, rfl⟩

theorem open_pen {r : Reach} {b0 : Nat} {v : Value} {d : DataW H} {p : List MemPlace} (hv : Value.okWide Tryd.prog w r b0 69 v) (h : DataW.Trod enc Tryd.prog w base sp held 69 v d p) :
    ∃ x : Pn, PnB x ∧ v = .agg #[.int .i64 x.f.k, .int .u8 x.f.i, .int .u8 x.f.r, .int .u8 x.f.g, .int .u8 x.f.b, .int .i64 x.b.k, .int .u8 x.b.i, .int .u8 x.b.r, .int .u8 x.b.g, .int .u8 x.b.b, .int .u8 x.fl] := by
  obtain ⟨cs, rfl, hsz⟩ := okWide_struct Tryd.underlying69 hv
  obtain ⟨c0, c1, c2, c3, c4, c5, c6, c7, c8, c9, c10, rfl⟩ := array11 (hsz.trans cPen)
  obtain ⟨fuel, hf⟩ := h
  obtain ⟨xs, n, rfl, hx, _, hlen, hf⟩ := DataW.trod_struct Tryd.underlying69 hf
  have g0 : DataW.trod enc Tryd.prog w base sp held n 66 (([c0, c1, c2, c3, c4, c5, c6, c7, c8, c9, c10].drop 0).take (Tryd.prog.cellsOf 66)) = xs[0]? := hf 0 _ rfl
  have g1 : DataW.trod enc Tryd.prog w base sp held n 66 (([c0, c1, c2, c3, c4, c5, c6, c7, c8, c9, c10].drop 5).take (Tryd.prog.cellsOf 66)) = xs[1]? := hf 1 _ rfl
  have g2 : DataW.trod enc Tryd.prog w base sp held n 67 (([c0, c1, c2, c3, c4, c5, c6, c7, c8, c9, c10].drop 10).take (Tryd.prog.cellsOf 67)) = xs[2]? := hf 2 _ rfl
  rw [cColor] at g0 g1
  rw [cFlags] at g2
  match xs, hlen with
  | [y0, y1, y2], _ =>
    obtain ⟨f, bf, wf, _, rfl, rfl, rfl, rfl, rfl⟩ := open_color (x := y0) (by simpa [Value.cells] using g0)
    obtain ⟨b, bb, wb, _, rfl, rfl, rfl, rfl, rfl⟩ := open_color (x := y1) (by simpa [Value.cells] using g1)
    obtain ⟨n2, e2, z2, w2⟩ := DataW.trod_int Tryd.underlying67 (x := y2) (by simpa [Value.cells] using g2)
    simp at e2
    subst e2
    exact ⟨⟨f, b, n2⟩, ⟨bf, bb, bounds_u8 w2⟩, rfl⟩
end
end Go.Proofs.YtpeedjknjjbabaaDoor
