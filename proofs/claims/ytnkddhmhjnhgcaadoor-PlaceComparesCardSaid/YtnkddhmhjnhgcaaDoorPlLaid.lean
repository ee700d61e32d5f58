/- Layer 9: from the listed variables to what the library reads; a place among the arguments. -/
import Derived.Test.YtnkddhmhjnhgcaaDoorPlStr
import Derived.ProofKit
import Derived.LaidMore
import Derived.OpenShut
import Derived.LaidOnce
import Derived.LaidSub
import Derived.LaidLaws
import Derived.Lib.LaidTab
import Derived.Shelf.Vars
namespace Go.Proofs.YtnkddhmhjnhgcaaDoor
open Go.ChangeShapes Go.WideShapes Go.ChangeAt Go.RowKit
set_option linter.unusedVariables false
set_option maxRecDepth 100000

theorem gSyn : Tryd.prog.globalNamed "strconv.ErrSyntax" = some 4 := by kernel_rfl
theorem gRan : Tryd.prog.globalNamed "strconv.ErrRange" = some 5 := by kernel_rfl
theorem tPow : (Tryd.prog.globals[3]?).map (·.type) = some 160 := by kernel_rfl
theorem tSyn : (Tryd.prog.globals[4]?).map (·.type) = some 126 := by kernel_rfl
theorem tRan : (Tryd.prog.globals[5]?).map (·.type) = some 126 := by kernel_rfl
theorem cPl : Tryd.prog.cellsOf 49 = 2 := by kernel_rfl
theorem cInt9 : Tryd.prog.cellsOf 3 = 1 := by kernel_rfl
theorem max_of_shape {W : World} (h : W.ShapedOpen Tryd.prog) : ∃ m, W.cell? ⟨2, 0, none⟩ = some (.int .i64 m) :=
  Go.Proofs.cell_of_shapedOpen_int (zero := #[.int .i64 0]) (t := 3) h (of_decide_eq_true (by kernel_rfl)) (by kernel_rfl) rfl (by kernel_rfl) (by kernel_rfl) Tryd.underlying3
theorem pow_data {H : Type} : (Rows.laid_internal_strconv_uint64pow10 : DataW H) = Lib.tabData .u64 Lib.pow10Tab := rfl
theorem plT_of_laid {W : World} (h0 : laidMetH Tryd.prog [("math/bits.deBruijn32tab", Rows.laid_math_bits_deBruijn32tab), ("math/bits.deBruijn64tab", Rows.laid_math_bits_deBruijn64tab), ("internal/strconv.uint64pow10", Rows.laid_internal_strconv_uint64pow10), ("strconv.ErrRange", Rows.laid_strconv_ErrRange), ("strconv.ErrSyntax", Rows.laid_strconv_ErrSyntax)] W) (hsh : W.ShapedOpen Tryd.prog) : PlT W := by
  have h : laidMet Tryd.prog [("math/bits.deBruijn32tab", Rows.laid_math_bits_deBruijn32tab), ("math/bits.deBruijn64tab", Rows.laid_math_bits_deBruijn64tab), ("internal/strconv.uint64pow10", Rows.laid_internal_strconv_uint64pow10), ("strconv.ErrRange", Rows.laid_strconv_ErrRange), ("strconv.ErrSyntax", Rows.laid_strconv_ErrSyntax)] W := h0
  obtain ⟨ps, ⟨g0, t0, cs0, f0, p0, q0, hg0, ht0, hv0, hd0, ⟨g1, t1, cs1, f1, p1, q1, hg1, ht1, hv1, hd1, ⟨g2, t2, cs2, f2, p2, q2, hg2, ht2, hv2, hd2, ⟨g3, t3, cs3, f3, p3, q3, hg3, ht3, hv3, hd3, ⟨g4, t4, cs4, f4, p4, q4, hg4, ht4, hv4, hd4, _, _⟩, _⟩, _⟩, _⟩, _⟩, _, _⟩ := h
  obtain rfl := Option.some.inj (gPow.symm.trans hg2)
  obtain rfl := Option.some.inj (gRan.symm.trans hg3)
  obtain rfl := Option.some.inj (gSyn.symm.trans hg4)
  obtain rfl := Option.some.inj (tPow.symm.trans ht2)
  obtain rfl := Option.some.inj (tRan.symm.trans ht3)
  obtain rfl := Option.some.inj (tSyn.symm.trans ht4)
  rw [pow_data] at hd2
  have e2 := Lib.cells_of_tab Tryd.underlying160 Tryd.underlying146 (by kernel_rfl) (by kernel_rfl) hd2
  obtain ⟨_, u3, v3, e3, _⟩ := iface_of_trod Tryd.underlying126 hd3
  obtain ⟨_, u4, v4, e4, _⟩ := iface_of_trod Tryd.underlying126 hd4
  refine ⟨?_, ?_, ?_, max_of_shape hsh⟩
  · unfold World.var? at hv2
    rw [gPow, Option.bind_some] at hv2
    cases hb : W.heap[3]? with
    | none => rw [hb] at hv2; cases hv2
    | some o =>
      rw [hb] at hv2
      cases o with
      | cells arr t fr =>
        injection hv2 with hv2
        exact ⟨t, fr, by rw [← e2, hv2]⟩
      | _ => cases hv2
  · refine ⟨u4, v4, ?_⟩
    rw [World.var?_cell hg4 hv4, ← Array.getElem?_toList, e4]
    rfl
  · refine ⟨u3, v3, ?_⟩
    rw [World.var?_cell hg3 hv3, ← Array.getElem?_toList, e3]
    rfl
variable {H : Type} {enc : TypeId × Value → H} {w : World} {base : Nat} {sp : Nat → Bool} {held : Bool}
theorem open_pl2 {fuel : Nat} {c0 c1 : Value} {x : DataW H × List MemPlace} (h : DataW.trod enc Tryd.prog w base sp held fuel 49 [c0, c1] = some x) :
    ∃ p : Pl, [c0, c1] = [.int .i64 p.l, .int .i64 p.c] := by
  obtain ⟨xs, n, rfl, hx, _, hlen, hf⟩ := DataW.trod_struct Tryd.underlying49 h
  have g0 : DataW.trod enc Tryd.prog w base sp held n 3 (([c0, c1].drop 0).take (Tryd.prog.cellsOf 3)) = xs[0]? := hf 0 _ rfl
  have g1 : DataW.trod enc Tryd.prog w base sp held n 3 (([c0, c1].drop 1).take (Tryd.prog.cellsOf 3)) = xs[1]? := hf 1 _ rfl
  rw [cInt9] at g0 g1
  match xs, hlen with
  | [y0, y1], _ =>
    obtain ⟨n0, e0, _, _⟩ := DataW.trod_int Tryd.underlying3 (x := y0) (by simpa using g0)
    obtain ⟨n1, e1, _, _⟩ := DataW.trod_int Tryd.underlying3 (x := y1) (by simpa using g1)
    simp at e0 e1
    subst e0 e1
    exact ⟨⟨n0, n1⟩, rfl⟩
theorem open_place {r : Reach} {b0 : Nat} {v : Value} {d : DataW H} {p : List MemPlace} (hv : Value.okWide Tryd.prog w r b0 49 v) (h : DataW.Trod enc Tryd.prog w base sp held 49 v d p) :
    ∃ c : Pl, v = .agg #[.int .i64 c.l, .int .i64 c.c] := by
  obtain ⟨cs, rfl, hsz⟩ : ∃ cs : Array Value, v = .agg cs ∧ cs.size = Tryd.prog.cellsOf 49 := by
    simp only [Value.okWide, Tryd.underlying49] at hv
    obtain ⟨cs, h1, h2, _⟩ := hv
    exact ⟨cs, h1, h2⟩
  obtain ⟨l⟩ := cs
  have hl : l.length = 2 := hsz.trans cPl
  match l, hl with
  | [c0, c1], _ =>
    obtain ⟨fuel, hf⟩ := h
    obtain ⟨c, hc⟩ := open_pl2 (by simpa [Value.cells] using hf)
    exact ⟨c, by rw [hc]⟩
end Go.Proofs.YtnkddhmhjnhgcaaDoor
