/- Calls of the law among the arguments: a slice of them. -/
import Derived.Test.YtpeedjknjjbabaaDoorLinLaid
import Derived.Test.YtpeedjknjjbabaaDoorShDoes
namespace Go.Proofs.YtpeedjknjjbabaaDoor
open Go.ChangeShapes Go.WideShapes Go.ChangeAt Go.RowKit Go.Deep
set_option linter.unusedVariables false
set_option maxRecDepth 100000

theorem cIntS : Tryd.prog.cellsOf 3 = 1 := by kernel_rfl
theorem cActS : Tryd.prog.cellsOf 37 = 4 := by kernel_rfl
section
variable {H : Type} {enc : TypeId × Value → H} {w : World} {base : Nat} {sp : Nat → Bool} {held : Bool}
theorem open_line2 {fuel : Nat} {v0 v1 : Value} {x : DataW H × List MemPlace} (h : DataW.trod enc Tryd.prog w base sp held fuel 35 [v0, v1] = some x) :
    ∃ (a : Option Addr) (n c : Nat) (l : List Cl) (s : Bool), v0 = .slice a n c ∧ v1 = .bool s ∧ Rd w a n 16 (cellsV l) := by
  obtain ⟨xs, n, rfl, hx, _, hlen, hf⟩ := DataW.trod_struct Tryd.underlying35 h
  have g0 : DataW.trod enc Tryd.prog w base sp held n 33 (([v0, v1].drop 0).take (Tryd.prog.cellsOf 33)) = xs[0]? := hf 0 _ rfl
  have g1 : DataW.trod enc Tryd.prog w base sp held n 4 (([v0, v1].drop 1).take (Tryd.prog.cellsOf 4)) = xs[1]? := hf 1 _ rfl
  rw [cCells] at g0
  rw [cBool] at g1
  match xs, hlen with
  | [y0, y1], _ =>
    obtain ⟨a, m, c, l, rfl, h1, h2, h3⟩ := open_cels1 (x := y0) (by simpa using g0)
    obtain ⟨s, e1, _⟩ := DataW.trod_bool Tryd.underlying4 (x := y1) (by simpa using g1)
    simp at e1
    subst e1
    exact ⟨a, m, c, l, s, rfl, rfl, h3⟩
theorem open_act4 {fuel : Nat} {c0 c1 c2 c3 : Value} {x : DataW H × List MemPlace} (h : DataW.trod enc Tryd.prog w base sp held fuel 37 [c0, c1, c2, c3] = some x) :
    ∃ u : AcA, (∃ l, Rd w u.a u.n 16 (cellsV l)) ∧ [c0, c1, c2, c3] = acV u := by
  obtain ⟨xs, n, rfl, hx, _, hlen, hf⟩ := DataW.trod_struct Tryd.underlying37 h
  have g0 : DataW.trod enc Tryd.prog w base sp held n 3 (([c0, c1, c2, c3].drop 0).take (Tryd.prog.cellsOf 3)) = xs[0]? := hf 0 _ rfl
  have g1 : DataW.trod enc Tryd.prog w base sp held n 3 (([c0, c1, c2, c3].drop 1).take (Tryd.prog.cellsOf 3)) = xs[1]? := hf 1 _ rfl
  have g2 : DataW.trod enc Tryd.prog w base sp held n 35 (([c0, c1, c2, c3].drop 2).take (Tryd.prog.cellsOf 35)) = xs[2]? := hf 2 _ rfl
  rw [cIntS] at g0 g1
  rw [cLine] at g2
  match xs, hlen with
  | [y0, y1, y2], _ =>
    obtain ⟨k0, e0, _, _⟩ := DataW.trod_int Tryd.underlying3 (x := y0) (by simpa using g0)
    obtain ⟨k1, e1, _, _⟩ := DataW.trod_int Tryd.underlying3 (x := y1) (by simpa using g1)
    obtain ⟨a, m, c, l, s, e2, e3, h3⟩ := open_line2 (x := y2) (by simpa using g2)
    simp at e0 e1
    subst e0 e1 e2 e3
    exact ⟨⟨k0, k1, a, m, c, s⟩, ⟨l, h3⟩, rfl⟩
/-- A slice of things of k cells each. -/
theorem open_rowsS {α : Type} {f : α → List Value} {k : Nat} (hR : RowOf f k) {P : α → Prop} (d0 : α) {S E : TypeId} (hS : Tryd.prog.underlying S = some (.slice E)) (hE : Tryd.prog.cellsOf E = k)
    (open1 : ∀ fuel cs x, DataW.trod enc Tryd.prog w base sp held fuel E cs = some x → cs.length = k → ∃ y, P y ∧ cs = f y)
    {r : Reach} {b0 : Nat} {v : Value} {d : DataW H} {p : List MemPlace} (hv : Value.okWide Tryd.prog w r b0 S v) (h : DataW.Trod enc Tryd.prog w base sp held S v d p) :
    ∃ (a : Option Addr) (n c : Nat) (l : List α), v = .slice a n c ∧ (∀ x ∈ l, P x) ∧ Rd w a n k (rowsV f l) := by
  obtain ⟨a, n, c, rfl⟩ := okWide_slice hS hv
  refine ⟨a, n, c, ?_⟩
  obtain ⟨fuel, hf⟩ := h
  rcases open_slice hS hf with ⟨hcs, _⟩ | ⟨ad, len, cap, m, kk, D, Pl, hcs, _, hlc, _, hm, _, hel⟩
  · simp [Value.cells] at hcs
    obtain ⟨rfl, rfl, rfl⟩ := hcs
    exact ⟨[], rfl, by simp, Rd.nil _ _ _⟩
  · simp [Value.cells] at hcs
    obtain ⟨rfl, rfl, rfl⟩ := hcs
    have hlm : n ≤ m := by rw [hm]; split <;> omega
    by_cases hn : n = 0
    · subst hn
      exact ⟨[], rfl, by simp, Rd.nil _ _ _⟩
    · have hspot : ad.spot = none := by
        obtain ⟨cs', h1, h2⟩ := hel 0 (by omega)
        rw [hE] at h1
        obtain ⟨_, hl, hcell⟩ := World.cells?_some h1
        have h0 := hcell 0 hR.pos
        rw [List.getElem?_eq_getElem (by rw [hl]; exact hR.pos)] at h0
        have h0 := World.cell?_spot h0
        obtain ⟨b, o, spot⟩ := ad
        cases spot with
        | none => rfl
        | some s => simp [Addr.add] at h0
      obtain ⟨b, o, spot⟩ := ad
      simp only at hspot
      subst hspot
      have each : ∀ i, i < n → ∃ c : α, P c ∧ ∀ j u, (f c)[j]? = some u → w.cell? ⟨b, o + (i * k + j), none⟩ = some u := fun i hi => by
        obtain ⟨cs', h1, h2⟩ := hel i (by omega)
        rw [hE] at h1
        obtain ⟨_, hl, hcell⟩ := World.cells?_some h1
        obtain ⟨x, hPx, hx⟩ := open1 _ _ _ h2 hl
        refine ⟨x, hPx, fun j u hu => ?_⟩
        have hj : j < k := by have := (List.getElem?_eq_some_iff.1 hu).1; rwa [hR.len] at this
        have := hcell j (by omega)
        rw [hx, hu, Addr.add_mid, Addr.add_mid, Nat.add_assoc] at this
        exact this
      obtain ⟨g, hg⟩ : ∃ g : Nat → α, ∀ i, i < n → P (g i) ∧ ∀ j u, (f (g i))[j]? = some u → w.cell? ⟨b, o + (i * k + j), none⟩ = some u :=
        ⟨fun i => if h : i < n then Classical.choose (each i h) else d0, fun i hi => by simp only [dif_pos hi]; exact Classical.choose_spec (each i hi)⟩
      refine ⟨(List.range n).map g, rfl, ?_, by rw [rowsV_len hR]; simp, .inr ⟨b, o, rfl, fun j u hu => ?_⟩⟩
      · intro x hx
        obtain ⟨i, hi, rfl⟩ := List.mem_map.1 hx
        exact (hg i (List.mem_range.1 hi)).1
      · have hj : j < n * k := by have := (List.getElem?_eq_some_iff.1 hu).1; rw [rowsV_len hR] at this; simpa using this
        have hdiv : j / k < n := (Nat.div_lt_iff_lt_mul hR.pos).2 hj
        have hmod : j % k < k := Nat.mod_lt _ hR.pos
        have ee : j / k * k + j % k = j := by rw [Nat.mul_comm]; exact Nat.div_add_mod j k
        have hi : j / k < ((List.range n).map g).length := by simpa using hdiv
        have e := rowsV_at hR ((List.range n).map g) (j / k) hi (j % k) hmod
        rw [ee, hu] at e
        have h3 := (hg (j / k) hdiv).2 (j % k) u (by rw [e]; simp)
        rw [ee] at h3
        exact h3
theorem open_acts {r : Reach} {b0 : Nat} {v : Value} {d : DataW H} {p : List MemPlace} (hv : Value.okWide Tryd.prog w r b0 22 v) (h : DataW.Trod enc Tryd.prog w base sp held 22 v d p) :
    ∃ (a : Option Addr) (n c : Nat) (l : List AcA), v = .slice a n c ∧ (∀ u ∈ l, ∃ q, Rd w u.a u.n 16 (cellsV q)) ∧ Rd w a n 4 (rowsV acV l) :=
  open_rowsS rowAc ⟨0, 0, none, 0, 0, false⟩ Tryd.underlying22 cActS (fun fuel cs x hx hl => by
    match cs, hl with
    | [c0, c1, c2, c3], _ => exact open_act4 hx) hv h
end
end Go.Proofs.YtpeedjknjjbabaaDoor
