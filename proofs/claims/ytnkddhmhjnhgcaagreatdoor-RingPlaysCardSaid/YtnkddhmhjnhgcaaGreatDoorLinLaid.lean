/- Lines among the arguments, and slices of cells with what is known of their capacity. -/
import Derived.Test.YtnkddhmhjnhgcaaGreatDoorCelLaid
import Derived.Test.YtnkddhmhjnhgcaaGreatDoorLinMem
namespace Go.Proofs.YtnkddhmhjnhgcaaGreatDoor
open Go.ChangeShapes Go.WideShapes Go.ChangeAt Go.RowKit Go.Deep
set_option linter.unusedVariables false
set_option maxRecDepth 100000

theorem cLine : Tryz.prog.cellsOf 36 = 2 := by kernel_rfl
theorem cCells : Tryz.prog.cellsOf 34 = 1 := by kernel_rfl
theorem cBool : Tryz.prog.cellsOf 4 = 1 := by kernel_rfl

section
variable {H : Type} {enc : TypeId × Value → H} {w : World} {base : Nat} {sp : Nat → Bool} {held : Bool}
theorem open_cels1 {fuel : Nat} {v : Value} {x : DataW H × List MemPlace} (h : DataW.trod enc Tryz.prog w base sp held fuel 34 [v] = some x) :
    ∃ (a : Option Addr) (n c : Nat) (l : List Cl), v = .slice a n c ∧ n ≤ c ∧ c ≤ maxLen ∧ Rd w a n 16 (cellsV l) := by
  rcases open_slice Tryz.underlying34 h with ⟨hcs, _⟩ | ⟨ad, n, c, m, k, D, Pl, hcs, _, hlc, hcm, hm, _, hel⟩
  · simp at hcs
    exact ⟨none, 0, 0, [], hcs, Nat.le_refl _, Nat.zero_le _, Rd.nil _ _ _⟩
  · simp at hcs
    refine ⟨some ad, n, c, ?_⟩
    have hlm : n ≤ m := by rw [hm]; split <;> omega
    by_cases hn : n = 0
    · subst hn
      exact ⟨[], hcs, hlc, hcm, Rd.nil _ _ _⟩
    · have hspot : ad.spot = none := by
        obtain ⟨cs', h1, h2⟩ := hel 0 (by omega)
        rw [cCell] at h1
        obtain ⟨_, hl, hcell⟩ := World.cells?_some h1
        obtain ⟨c0, c1, c2, c3, c4, c5, c6, c7, c8, c9, c10, c11, c12, c13, c14, c15, rfl⟩ := list16 hl
        have h0 := World.cell?_spot (hcell 0 (by omega))
        obtain ⟨b, o, spot⟩ := ad
        cases spot with
        | none => rfl
        | some s => simp [Addr.add] at h0
      obtain ⟨b, o, spot⟩ := ad
      simp only at hspot
      subst hspot
      have each : ∀ i, i < n → ∃ c : Cl, ∀ j u, (kcL c)[j]? = some u → w.cell? ⟨b, o + (i * 16 + j), none⟩ = some u := fun i hi => by
        obtain ⟨cs', h1, h2⟩ := hel i (by omega)
        rw [cCell] at h1
        obtain ⟨_, hl, hcell⟩ := World.cells?_some h1
        obtain ⟨c0, c1, c2, c3, c4, c5, c6, c7, c8, c9, c10, c11, c12, c13, c14, c15, rfl⟩ := list16 hl
        obtain ⟨x, _, hx⟩ := open_cel16 h2
        refine ⟨x, fun j u hu => ?_⟩
        have hj : j < 16 := by have := (List.getElem?_eq_some_iff.1 hu).1; rwa [kc_len] at this
        have := hcell j hj
        rw [hx, hu, Addr.add_mid, Addr.add_mid, Nat.add_assoc] at this
        exact this
      obtain ⟨f, hf⟩ : ∃ f : Nat → Cl, ∀ i, i < n → ∀ j u, (kcL (f i))[j]? = some u → w.cell? ⟨b, o + (i * 16 + j), none⟩ = some u :=
        ⟨fun i => if h : i < n then Classical.choose (each i h) else zeroK, fun i hi => by simp only [dif_pos hi]; exact Classical.choose_spec (each i hi)⟩
      refine ⟨(List.range n).map f, hcs, hlc, hcm, by rw [cellsV_len]; simp, .inr ⟨b, o, rfl, fun j u hu => ?_⟩⟩
      have hj : j < n * 16 := by have := (List.getElem?_eq_some_iff.1 hu).1; rw [cellsV_len] at this; simpa using this
      have hi : j / 16 < ((List.range n).map f).length := by simp; omega
      have e := cellsV_at ((List.range n).map f) (j / 16) hi (j % 16) (by omega)
      rw [show j / 16 * 16 + j % 16 = j by omega, hu] at e
      have h3 := hf (j / 16) (by omega) (j % 16) u (by rw [e]; simp)
      rw [show j / 16 * 16 + j % 16 = j by omega] at h3
      exact h3
/-- A slice of cells among the arguments. -/
theorem open_celsC {r : Reach} {b0 : Nat} {v : Value} {d : DataW H} {p : List MemPlace} (hv : Value.okWide Tryz.prog w r b0 34 v) (h : DataW.Trod enc Tryz.prog w base sp held 34 v d p) :
    ∃ (a : Option Addr) (n c : Nat) (l : List Cl), v = .slice a n c ∧ n ≤ c ∧ c ≤ maxLen ∧ Rd w a n 16 (cellsV l) := by
  obtain ⟨a, n, c, rfl⟩ := okWide_slice Tryz.underlying34 hv
  obtain ⟨fuel, hf⟩ := h
  exact open_cels1 (by simpa [Value.cells] using hf)
/-- A line among the arguments. -/
theorem open_line {r : Reach} {b0 : Nat} {v : Value} {d : DataW H} {p : List MemPlace} (hv : Value.okWide Tryz.prog w r b0 36 v) (h : DataW.Trod enc Tryz.prog w base sp held 36 v d p) :
    ∃ (a : Option Addr) (n c : Nat) (l : List Cl) (s : Bool), v = .agg #[.slice a n c, .bool s] ∧ n ≤ c ∧ c ≤ maxLen ∧ Rd w a n 16 (cellsV l) := by
  obtain ⟨cs, rfl, hsz⟩ := okWide_struct Tryz.underlying36 hv
  obtain ⟨k⟩ := cs
  have hk : k.length = 2 := hsz.trans cLine
  match k, hk with
  | [v0, v1], _ =>
    obtain ⟨fuel, hf⟩ := h
    obtain ⟨xs, n, rfl, hx, _, hlen, hf⟩ := DataW.trod_struct Tryz.underlying36 hf
    have g0 : DataW.trod enc Tryz.prog w base sp held n 34 (([v0, v1].drop 0).take (Tryz.prog.cellsOf 34)) = xs[0]? := hf 0 _ rfl
    have g1 : DataW.trod enc Tryz.prog w base sp held n 4 (([v0, v1].drop 1).take (Tryz.prog.cellsOf 4)) = xs[1]? := hf 1 _ rfl
    rw [cCells] at g0
    rw [cBool] at g1
    match xs, hlen with
    | [y0, y1], _ =>
      obtain ⟨a, m, c, l, rfl, h1, h2, h3⟩ := open_cels1 (x := y0) (by simpa using g0)
      obtain ⟨s, e1, _⟩ := DataW.trod_bool Tryz.underlying4 (x := y1) (by simpa using g1)
      simp at e1
      subst e1
      exact ⟨a, m, c, l, s, rfl, h1, h2, h3⟩
end
end Go.Proofs.YtnkddhmhjnhgcaaGreatDoor
