/- From the listed variables to the tables' cells. -/
import Derived.Test.YtpeedjknjjbabaaDoorWidFind
import Derived.ProofKit
import Derived.LaidMore
import Derived.OpenShut
import Derived.Lib.LaidTab
import Derived.LaidOnce
import Derived.LaidSub
namespace Go.Proofs.YtpeedjknjjbabaaDoor
open Go.ChangeShapes Go.WideShapes Go.ChangeAt Go.RowKit
set_option linter.unusedVariables false

/-- A table of pairs as a row lists it. -/
def pairsData {H : Type} (T : List (Int × Int)) : DataW H := .agg (T.map fun x => .agg [.lit (.int .i32 x.1), .lit (.int .i32 x.2)])

theorem pairs_of_trod {H : Type} {enc : TypeId × Value → H} {P : Program} {w : World} {base : Nat} {sp : Nat → Bool} {held : Bool} {fuel : Nat} {t e f : TypeId} {n : Nat} {cs : List Value} {T : List (Int × Int)} {p : List MemPlace}
    (ht : P.underlying t = some (.array n e)) (he : P.underlying e = some (.array 2 f)) (hf : P.underlying f = some (.int .i32)) (hce : P.cellsOf e = 2) (hcf : P.cellsOf f = 1)
    (h : DataW.trod enc P w base sp held fuel t cs = some (pairsData T, p)) : ∀ i, i < T.length → cs[i * 2]? = some (.int .i32 (T.getD i (0, 0)).1) ∧ cs[i * 2 + 1]? = some (.int .i32 (T.getD i (0, 0)).2) := by
  obtain ⟨xs, m, rfl, hx, _, hxl, hel⟩ := DataW.trod_array ht h
  have hxs : xs.map (·.1) = T.map fun x => (DataW.agg [.lit (.int .i32 x.1), .lit (.int .i32 x.2)] : DataW H) := by
    have := congrArg Prod.fst hx
    simpa [pairsData] using this.symm
  have hTl : T.length = n := by
    have := congrArg List.length hxs
    simp at this
    omega
  intro i hi
  have h1 := hel i (by omega)
  have hix : i < xs.length := by omega
  rw [List.getElem?_eq_getElem hix, hce] at h1
  have h2 : xs[i].1 = .agg [.lit (.int .i32 T[i].1), .lit (.int .i32 T[i].2)] := by
    have := congrArg (·[i]?) hxs
    simpa [List.getElem?_eq_getElem hix, List.getElem?_eq_getElem hi] using this
  obtain ⟨ys, m2, rfl, hy, _, hyl, hel2⟩ := DataW.trod_array he h1
  rw [hy] at h2
  simp only [DataW.agg.injEq] at h2
  have g0 := hel2 0 (by omega)
  have g1 := hel2 1 (by omega)
  rw [hcf] at g0 g1
  rw [List.getD_eq_getElem?_getD, List.getElem?_eq_getElem hi]
  match ys, hyl, h2, g0, g1 with
  | [y0, y1], _, h2, g0, g1 =>
    simp only [List.map_cons, List.map_nil, List.cons.injEq] at h2
    obtain ⟨k0, e0, r0, _⟩ := DataW.trod_int hf g0
    obtain ⟨k1, e1, r1, _⟩ := DataW.trod_int hf g1
    have q0 : k0 = T[i].1 := by have := h2.1; rw [r0] at this; simpa using this
    have q1 : k1 = T[i].2 := by have := h2.2.1; rw [r1] at this; simpa using this
    subst q0 q1
    have z0 := congrArg (·[0]?) e0
    have z1 := congrArg (·[0]?) e1
    simp [List.getElem?_drop] at z0 z1
    exact ⟨z0, z1⟩

theorem gMarks : Tryd.prog.globalNamed "scrollback/width.marks" = some 0 := by kernel_rfl
theorem gWide : Tryd.prog.globalNamed "scrollback/width.wide" = some 1 := by kernel_rfl
theorem tMarks : (Tryd.prog.globals[0]?).map (·.type) = some 105 := by kernel_rfl
theorem tWide : (Tryd.prog.globals[1]?).map (·.type) = some 107 := by kernel_rfl
theorem cPair : Tryd.prog.cellsOf 104 = 2 := by kernel_rfl
theorem cRune : Tryd.prog.cellsOf 21 = 1 := by kernel_rfl

theorem tabs_of_laid {W : World} (h0 : laidMetH Tryd.prog [("scrollback/width.marks", Rows.laid_scrollback_width_marks), ("scrollback/width.wide", Rows.laid_scrollback_width_wide)] W) : Tabs W := by
  have h : laidMet Tryd.prog [("scrollback/width.marks", pairsData marksT), ("scrollback/width.wide", pairsData wideT)] W := h0
  obtain ⟨ps, ⟨g0, t0, cs0, f0, p0, q0, hg0, ht0, hv0, hd0, ⟨g1, t1, cs1, f1, p1, q1, hg1, ht1, hv1, hd1, _, _⟩, _⟩, _, _⟩ := h
  obtain rfl := Option.some.inj (gMarks.symm.trans hg0)
  obtain rfl := Option.some.inj (gWide.symm.trans hg1)
  obtain rfl := Option.some.inj (tMarks.symm.trans ht0)
  obtain rfl := Option.some.inj (tWide.symm.trans ht1)
  have a0 := pairs_of_trod Tryd.underlying105 Tryd.underlying104 Tryd.underlying21 cPair cRune hd0
  have a1 := pairs_of_trod Tryd.underlying107 Tryd.underlying104 Tryd.underlying21 cPair cRune hd1
  refine ⟨fun i hi => ?_, fun i hi => ?_⟩
  · rw [World.var?_cell hg0 hv0, World.var?_cell hg0 hv0]
    simpa using a0 i hi
  · rw [World.var?_cell hg1 hv1, World.var?_cell hg1 hv1]
    simpa using a1 i hi
end Go.Proofs.YtpeedjknjjbabaaDoor
