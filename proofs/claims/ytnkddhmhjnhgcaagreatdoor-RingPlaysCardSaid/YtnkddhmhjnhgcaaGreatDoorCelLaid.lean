/- Cells among the arguments, and slices of cells. -/
import Derived.Test.YtnkddhmhjnhgcaaGreatDoorPenA
import Derived.Test.YtnkddhmhjnhgcaaGreatDoorWidA
import Derived.Test.YtnkddhmhjnhgcaaGreatDoorCelSl
import Derived.Deep.Slices
namespace Go.Proofs.YtnkddhmhjnhgcaaGreatDoor
open Go.ChangeShapes Go.WideShapes Go.ChangeAt Go.RowKit Go.Deep
set_option linter.unusedVariables false
set_option maxRecDepth 100000

theorem cCell : Tryz.prog.cellsOf 86 = 16 := by kernel_rfl
theorem cI32 : Tryz.prog.cellsOf 21 = 1 := by kernel_rfl
theorem cInt : Tryz.prog.cellsOf 3 = 1 := by kernel_rfl
theorem cM3 : Tryz.prog.cellsOf 78 = 3 := by kernel_rfl

section
variable {H : Type} {enc : TypeId × Value → H} {w : World} {base : Nat} {sp : Nat → Bool} {held : Bool}
theorem open_pen11 {fuel : Nat} {c0 c1 c2 c3 c4 c5 c6 c7 c8 c9 c10 : Value} {x : DataW H × List MemPlace} (h : DataW.trod enc Tryz.prog w base sp held fuel 84 [c0, c1, c2, c3, c4, c5, c6, c7, c8, c9, c10] = some x) :
    ∃ p : Pn, PnB p ∧ [c0, c1, c2, c3, c4, c5, c6, c7, c8, c9, c10] = pcL p := by
  obtain ⟨xs, n, rfl, hx, _, hlen, hf⟩ := DataW.trod_struct Tryz.underlying84 h
  have g0 : DataW.trod enc Tryz.prog w base sp held n 81 (([c0, c1, c2, c3, c4, c5, c6, c7, c8, c9, c10].drop 0).take (Tryz.prog.cellsOf 81)) = xs[0]? := hf 0 _ rfl
  have g1 : DataW.trod enc Tryz.prog w base sp held n 81 (([c0, c1, c2, c3, c4, c5, c6, c7, c8, c9, c10].drop 5).take (Tryz.prog.cellsOf 81)) = xs[1]? := hf 1 _ rfl
  have g2 : DataW.trod enc Tryz.prog w base sp held n 82 (([c0, c1, c2, c3, c4, c5, c6, c7, c8, c9, c10].drop 10).take (Tryz.prog.cellsOf 82)) = xs[2]? := hf 2 _ rfl
  rw [cColor] at g0 g1
  rw [cFlags] at g2
  match xs, hlen with
  | [y0, y1, y2], _ =>
    obtain ⟨f, bf, wf, _, rfl, rfl, rfl, rfl, rfl⟩ := open_color (x := y0) (by simpa using g0)
    obtain ⟨b, bb, wb, _, rfl, rfl, rfl, rfl, rfl⟩ := open_color (x := y1) (by simpa using g1)
    obtain ⟨n2, e2, z2, w2⟩ := DataW.trod_int Tryz.underlying82 (x := y2) (by simpa using g2)
    simp at e2
    subst e2
    exact ⟨⟨f, b, n2⟩, ⟨bf, bb, bounds_u8 w2⟩, rfl⟩
theorem open_cel16 {fuel : Nat} {c0 c1 c2 c3 c4 c5 c6 c7 c8 c9 c10 c11 c12 c13 c14 c15 : Value} {x : DataW H × List MemPlace} (h : DataW.trod enc Tryz.prog w base sp held fuel 86 [c0, c1, c2, c3, c4, c5, c6, c7, c8, c9, c10, c11, c12, c13, c14, c15] = some x) :
    ∃ c : Cl, ClB c ∧ [c0, c1, c2, c3, c4, c5, c6, c7, c8, c9, c10, c11, c12, c13, c14, c15] = kcL c := by
  obtain ⟨xs, n, rfl, hx, _, hlen, hf⟩ := DataW.trod_struct Tryz.underlying86 h
  have g0 : DataW.trod enc Tryz.prog w base sp held n 21 (([c0, c1, c2, c3, c4, c5, c6, c7, c8, c9, c10, c11, c12, c13, c14, c15].drop 0).take (Tryz.prog.cellsOf 21)) = xs[0]? := hf 0 _ rfl
  have g1 : DataW.trod enc Tryz.prog w base sp held n 78 (([c0, c1, c2, c3, c4, c5, c6, c7, c8, c9, c10, c11, c12, c13, c14, c15].drop 1).take (Tryz.prog.cellsOf 78)) = xs[1]? := hf 1 _ rfl
  have g2 : DataW.trod enc Tryz.prog w base sp held n 3 (([c0, c1, c2, c3, c4, c5, c6, c7, c8, c9, c10, c11, c12, c13, c14, c15].drop 4).take (Tryz.prog.cellsOf 3)) = xs[2]? := hf 2 _ rfl
  have g3 : DataW.trod enc Tryz.prog w base sp held n 84 (([c0, c1, c2, c3, c4, c5, c6, c7, c8, c9, c10, c11, c12, c13, c14, c15].drop 5).take (Tryz.prog.cellsOf 84)) = xs[3]? := hf 3 _ rfl
  rw [cI32] at g0
  rw [cM3] at g1
  rw [cInt] at g2
  rw [cPen] at g3
  match xs, hlen with
  | [y0, y1, y2, y3], _ =>
    obtain ⟨n0, e0, z0, w0⟩ := DataW.trod_int Tryz.underlying21 (x := y0) (by simpa using g0)
    obtain ⟨n2, e2, z2, w2⟩ := DataW.trod_int Tryz.underlying3 (x := y2) (by simpa using g2)
    obtain ⟨ms, k, rfl, _, _, hml, hm⟩ := DataW.trod_array (cs := [c1, c2, c3]) (x := y1) Tryz.underlying78 (by simpa using g1)
    have m0 := hm 0 (by omega)
    have m1 := hm 1 (by omega)
    have m2 := hm 2 (by omega)
    rw [cI32] at m0 m1 m2
    match ms, hml with
    | [a0, a1, a2], _ =>
      obtain ⟨k0, f0, _, v0⟩ := DataW.trod_int Tryz.underlying21 (x := a0) (by simpa using m0)
      obtain ⟨k1, f1, _, v1⟩ := DataW.trod_int Tryz.underlying21 (x := a1) (by simpa using m1)
      obtain ⟨k2, f2, _, v2⟩ := DataW.trod_int Tryz.underlying21 (x := a2) (by simpa using m2)
      obtain ⟨p, bp, hp⟩ := open_pen11 (x := y3) (by simpa using g3)
      simp at e0 e2 f0 f1 f2
      subst e0 e2 f0 f1 f2
      refine ⟨⟨n0, k0, k1, k2, n2, p⟩, ⟨bounds_i32 w0, bounds_i32 v0, bounds_i32 v1, bounds_i32 v2, bp⟩, ?_⟩
      show _ :: _ :: _ :: _ :: _ :: [c5, c6, c7, c8, c9, c10, c11, c12, c13, c14, c15] = _
      rw [hp]
      rfl
theorem list16 {α : Type} {l : List α} (h : l.length = 16) : ∃ c0 c1 c2 c3 c4 c5 c6 c7 c8 c9 c10 c11 c12 c13 c14 c15, l = [c0, c1, c2, c3, c4, c5, c6, c7, c8, c9, c10, c11, c12, c13, c14, c15] := by
  match l, h with
  | [c0, c1, c2, c3, c4, c5, c6, c7, c8, c9, c10, c11, c12, c13, c14, c15], _ => exact ⟨c0, c1, c2, c3, c4, c5, c6, c7, c8, c9, c10, c11, c12, c13, c14, c15, rfl⟩
theorem open_cel {r : Reach} {b0 : Nat} {v : Value} {d : DataW H} {p : List MemPlace} (hv : Value.okWide Tryz.prog w r b0 86 v) (h : DataW.Trod enc Tryz.prog w base sp held 86 v d p) :
    ∃ c : Cl, ClB c ∧ v = .agg #[.int .i32 c.r, .int .i32 c.m0, .int .i32 c.m1, .int .i32 c.m2, .int .i64 c.w, .int .i64 c.p.f.k, .int .u8 c.p.f.i, .int .u8 c.p.f.r, .int .u8 c.p.f.g, .int .u8 c.p.f.b, .int .i64 c.p.b.k, .int .u8 c.p.b.i, .int .u8 c.p.b.r, .int .u8 c.p.b.g, .int .u8 c.p.b.b, .int .u8 c.p.fl] := by
  obtain ⟨cs, rfl, hsz⟩ := okWide_struct Tryz.underlying86 hv
  obtain ⟨l⟩ := cs
  obtain ⟨c0, c1, c2, c3, c4, c5, c6, c7, c8, c9, c10, c11, c12, c13, c14, c15, rfl⟩ := list16 (show l.length = 16 from hsz.trans cCell)
  obtain ⟨fuel, hf⟩ := h
  obtain ⟨c, hb, hc⟩ := open_cel16 (by simpa [Value.cells] using hf)
  exact ⟨c, hb, by rw [hc]; rfl⟩
/-- A slice of cells among the arguments. -/
theorem open_cels {r : Reach} {b0 : Nat} {v : Value} {d : DataW H} {p : List MemPlace} (hv : Value.okWide Tryz.prog w r b0 34 v) (h : DataW.Trod enc Tryz.prog w base sp held 34 v d p) :
    ∃ (a : Option Addr) (n c : Nat) (l : List Cl), v = .slice a n c ∧ Rd w a n 16 (cellsV l) := by
  obtain ⟨a, n, c, rfl⟩ := okWide_slice Tryz.underlying34 hv
  refine ⟨a, n, c, ?_⟩
  obtain ⟨fuel, hf⟩ := h
  rcases open_slice Tryz.underlying34 hf with ⟨hcs, _⟩ | ⟨ad, len, cap, m, k, D, Pl, hcs, _, hlc, _, hm, _, hel⟩
  · simp [Value.cells] at hcs
    obtain ⟨rfl, rfl, rfl⟩ := hcs
    exact ⟨[], rfl, Rd.nil _ _ _⟩
  · simp [Value.cells] at hcs
    obtain ⟨rfl, rfl, rfl⟩ := hcs
    have hlm : n ≤ m := by rw [hm]; split <;> omega
    by_cases hn : n = 0
    · subst hn
      exact ⟨[], rfl, Rd.nil _ _ _⟩
    · have hspot : ad.spot = none := by
        obtain ⟨cs', h1, h2⟩ := hel 0 (by omega)
        rw [cCell] at h1
        obtain ⟨_, hl, hcell⟩ := World.cells?_some h1
        obtain ⟨c0, c1, c2, c3, c4, c5, c6, c7, c8, c9, c10, c11, c12, c13, c14, c15, rfl⟩ := list16 hl
        have h0 := World.cell?_spot (hcell 0 (by omega))
        obtain ⟨b, o, spot⟩ := ad
        cases spot with
        | none => rfl
        | some s => simp [Addr.add] at h0
      obtain ⟨b, o, spot⟩ := ad
      simp only at hspot
      subst hspot
      have each : ∀ i, i < n → ∃ c : Cl, ∀ j u, (kcL c)[j]? = some u → w.cell? ⟨b, o + (i * 16 + j), none⟩ = some u := fun i hi => by
        obtain ⟨cs', h1, h2⟩ := hel i (by omega)
        rw [cCell] at h1
        obtain ⟨_, hl, hcell⟩ := World.cells?_some h1
        obtain ⟨c0, c1, c2, c3, c4, c5, c6, c7, c8, c9, c10, c11, c12, c13, c14, c15, rfl⟩ := list16 hl
        obtain ⟨x, _, hx⟩ := open_cel16 h2
        refine ⟨x, fun j u hu => ?_⟩
        have hj : j < 16 := by have := (List.getElem?_eq_some_iff.1 hu).1; rwa [kc_len] at this
        have := hcell j hj
        rw [hx, hu, Addr.add_mid, Addr.add_mid, Nat.add_assoc] at this
        exact this
      obtain ⟨f, hf⟩ : ∃ f : Nat → Cl, ∀ i, i < n → ∀ j u, (kcL (f i))[j]? = some u → w.cell? ⟨b, o + (i * 16 + j), none⟩ = some u :=
        ⟨fun i => if h : i < n then Classical.choose (each i h) else zeroK, fun i hi => by simp only [dif_pos hi]; exact Classical.choose_spec (each i hi)⟩
      refine ⟨(List.range n).map f, rfl, by rw [cellsV_len]; simp, .inr ⟨b, o, rfl, fun j u hu => ?_⟩⟩
      have hj : j < n * 16 := by have := (List.getElem?_eq_some_iff.1 hu).1; rw [cellsV_len] at this; simpa using this
      have hi : j / 16 < ((List.range n).map f).length := by simp; omega
      have e := cellsV_at ((List.range n).map f) (j / 16) hi (j % 16) (by omega)
      rw [show j / 16 * 16 + j % 16 = j by omega, hu] at e
      have h3 := hf (j / 16) (by omega) (j % 16) u (by rw [e]; simp)
      rw [show j / 16 * 16 + j % 16 = j by omega] at h3
      exact h3
end
end Go.Proofs.YtnkddhmhjnhgcaaGreatDoor
