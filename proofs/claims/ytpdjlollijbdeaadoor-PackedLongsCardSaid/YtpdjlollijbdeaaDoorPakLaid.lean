/- Words among the arguments, slices of cells and of runs. -/
import Derived.Test.YtpdjlollijbdeaaDoorCelLaid
import Derived.Test.YtpdjlollijbdeaaDoorPakMem
import Derived.Test.YtpdjlollijbdeaaDoorRowy
namespace Go.Proofs.YtpdjlollijbdeaaDoor
open Go.ChangeShapes Go.WideShapes Go.ChangeAt Go.RowKit Go.Deep
set_option linter.unusedVariables false
set_option maxRecDepth 100000

theorem cRun : Tryd.prog.cellsOf 67 = 4 := by kernel_rfl
theorem cW3 : Tryd.prog.cellsOf 34 = 3 := by kernel_rfl
theorem cU64 : Tryd.prog.cellsOf 33 = 1 := by kernel_rfl

section
variable {H : Type} {enc : TypeId × Value → H} {w : World} {base : Nat} {sp : Nat → Bool} {held : Bool}
theorem u64_of {n : Int} (h : (Lit.int .u64 n).wf = true) : U64 n := by
  have := bounds_u64 h
  exact ⟨by omega, by omega⟩
theorem open_w33 {fuel : Nat} {c0 c1 c2 : Value} {x : DataW H × List MemPlace} (h : DataW.trod enc Tryd.prog w base sp held fuel 34 [c0, c1, c2] = some x) :
    ∃ v : W3, W3B v ∧ [c0, c1, c2] = [.int .u64 v.a, .int .u64 v.b, .int .u64 v.c] := by
  obtain ⟨ms, k, rfl, _, _, hml, hm⟩ := DataW.trod_array (cs := [c0, c1, c2]) (x := x) Tryd.underlying34 h
  have m0 := hm 0 (by omega)
  have m1 := hm 1 (by omega)
  have m2 := hm 2 (by omega)
  rw [cU64] at m0 m1 m2
  match ms, hml with
  | [a0, a1, a2], _ =>
    obtain ⟨k0, f0, _, v0⟩ := DataW.trod_int Tryd.underlying33 (x := a0) (by simpa using m0)
    obtain ⟨k1, f1, _, v1⟩ := DataW.trod_int Tryd.underlying33 (x := a1) (by simpa using m1)
    obtain ⟨k2, f2, _, v2⟩ := DataW.trod_int Tryd.underlying33 (x := a2) (by simpa using m2)
    simp at f0 f1 f2
    subst f0 f1 f2
    exact ⟨⟨k0, k1, k2⟩, ⟨u64_of v0, u64_of v1, u64_of v2⟩, rfl⟩
theorem open_run4 {fuel : Nat} {c0 c1 c2 c3 : Value} {x : DataW H × List MemPlace} (h : DataW.trod enc Tryd.prog w base sp held fuel 67 [c0, c1, c2, c3] = some x) :
    ∃ r : Ru, RuB r ∧ [c0, c1, c2, c3] = runL r := by
  obtain ⟨xs, n, rfl, hx, _, hlen, hf⟩ := DataW.trod_struct Tryd.underlying67 h
  have g0 : DataW.trod enc Tryd.prog w base sp held n 3 (([c0, c1, c2, c3].drop 0).take (Tryd.prog.cellsOf 3)) = xs[0]? := hf 0 _ rfl
  have g1 : DataW.trod enc Tryd.prog w base sp held n 34 (([c0, c1, c2, c3].drop 1).take (Tryd.prog.cellsOf 34)) = xs[1]? := hf 1 _ rfl
  rw [cInt] at g0
  rw [cW3] at g1
  match xs, hlen with
  | [y0, y1], _ =>
    obtain ⟨n0, e0, z0, w0⟩ := DataW.trod_int Tryd.underlying3 (x := y0) (by simpa using g0)
    obtain ⟨v, vb, hv⟩ := open_w33 (x := y1) (by simpa using g1)
    simp at e0
    subst e0
    refine ⟨⟨n0, v⟩, ⟨?_, vb⟩, ?_⟩
    · exact bounds_i64 w0
    · show _ :: [c1, c2, c3] = _
      rw [hv]
      rfl
theorem open_w3 {r : Reach} {b0 : Nat} {v : Value} {d : DataW H} {p : List MemPlace} (hv : Value.okWide Tryd.prog w r b0 34 v) (h : DataW.Trod enc Tryd.prog w base sp held 34 v d p) :
    ∃ c : W3, W3B c ∧ v = .agg #[.int .u64 c.a, .int .u64 c.b, .int .u64 c.c] := by
  obtain ⟨cs, rfl, hsz⟩ : ∃ cs : Array Value, v = .agg cs ∧ cs.size = Tryd.prog.cellsOf 34 := by
    simp only [Value.okWide, Tryd.underlying34] at hv
    obtain ⟨cs, h1, h2, _⟩ := hv
    exact ⟨cs, h1, h2⟩
  obtain ⟨l⟩ := cs
  have hl : l.length = 3 := hsz.trans cW3
  match l, hl with
  | [c0, c1, c2], _ =>
    obtain ⟨fuel, hf⟩ := h
    obtain ⟨c, hb, hc⟩ := open_w33 (by simpa [Value.cells] using hf)
    exact ⟨c, hb, by rw [hc]⟩
/-- A slice of things of k cells each. -/
theorem open_rows {α : Type} {f : α → List Value} {k : Nat} (hR : RowOf f k) {P : α → Prop} (d0 : α) {S E : TypeId} (hS : Tryd.prog.underlying S = some (.slice E)) (hE : Tryd.prog.cellsOf E = k)
    (open1 : ∀ fuel cs x, DataW.trod enc Tryd.prog w base sp held fuel E cs = some x → cs.length = k → ∃ y, P y ∧ cs = f y)
    {r : Reach} {b0 : Nat} {v : Value} {d : DataW H} {p : List MemPlace} (hv : Value.okWide Tryd.prog w r b0 S v) (h : DataW.Trod enc Tryd.prog w base sp held S v d p) :
    ∃ (a : Option Addr) (n c : Nat) (l : List α), v = .slice a n c ∧ (∀ x ∈ l, P x) ∧ Rd w a n k (rowsV f l) := by
  obtain ⟨a, n, c, rfl⟩ := okWide_slice hS hv
  refine ⟨a, n, c, ?_⟩
  obtain ⟨fuel, hf⟩ := h
  rcases open_slice hS hf with ⟨hcs, _⟩ | ⟨ad, len, cap, m, kk, D, Pl, hcs, _, hlc, _, hm, _, hel⟩
  · simp [Value.cells] at hcs
    obtain ⟨rfl, rfl, rfl⟩ := hcs
    exact ⟨[], rfl, by simp, Rd.nil _ _ _⟩
  · simp [Value.cells] at hcs
    obtain ⟨rfl, rfl, rfl⟩ := hcs
    have hlm : n ≤ m := by rw [hm]; split <;> omega
    by_cases hn : n = 0
    · subst hn
      exact ⟨[], rfl, by simp, Rd.nil _ _ _⟩
    · have hspot : ad.spot = none := by
        obtain ⟨cs', h1, h2⟩ := hel 0 (by omega)
        rw [hE] at h1
        obtain ⟨_, hl, hcell⟩ := World.cells?_some h1
        have h0 := hcell 0 hR.pos
        rw [List.getElem?_eq_getElem (by rw [hl]; exact hR.pos)] at h0
        have h0 := World.cell?_spot h0
        obtain ⟨b, o, spot⟩ := ad
        cases spot with
        | none => rfl
        | some s => simp [Addr.add] at h0
      obtain ⟨b, o, spot⟩ := ad
      simp only at hspot
      subst hspot
      have each : ∀ i, i < n → ∃ c : α, P c ∧ ∀ j u, (f c)[j]? = some u → w.cell? ⟨b, o + (i * k + j), none⟩ = some u := fun i hi => by
        obtain ⟨cs', h1, h2⟩ := hel i (by omega)
        rw [hE] at h1
        obtain ⟨_, hl, hcell⟩ := World.cells?_some h1
        obtain ⟨x, hPx, hx⟩ := open1 _ _ _ h2 hl
        refine ⟨x, hPx, fun j u hu => ?_⟩
        have hj : j < k := by have := (List.getElem?_eq_some_iff.1 hu).1; rwa [hR.len] at this
        have := hcell j (by omega)
        rw [hx, hu, Addr.add_mid, Addr.add_mid, Nat.add_assoc] at this
        exact this
      obtain ⟨g, hg⟩ : ∃ g : Nat → α, ∀ i, i < n → P (g i) ∧ ∀ j u, (f (g i))[j]? = some u → w.cell? ⟨b, o + (i * k + j), none⟩ = some u :=
        ⟨fun i => if h : i < n then Classical.choose (each i h) else d0, fun i hi => by simp only [dif_pos hi]; exact Classical.choose_spec (each i hi)⟩
      refine ⟨(List.range n).map g, rfl, ?_, by rw [rowsV_len hR]; simp, .inr ⟨b, o, rfl, fun j u hu => ?_⟩⟩
      · intro x hx
        obtain ⟨i, hi, rfl⟩ := List.mem_map.1 hx
        exact (hg i (List.mem_range.1 hi)).1
      · have hj : j < n * k := by have := (List.getElem?_eq_some_iff.1 hu).1; rw [rowsV_len hR] at this; simpa using this
        have hdiv : j / k < n := (Nat.div_lt_iff_lt_mul hR.pos).2 hj
        have hmod : j % k < k := Nat.mod_lt _ hR.pos
        have ee : j / k * k + j % k = j := by rw [Nat.mul_comm]; exact Nat.div_add_mod j k
        have hi : j / k < ((List.range n).map g).length := by simpa using hdiv
        have e := rowsV_at hR ((List.range n).map g) (j / k) hi (j % k) hmod
        rw [ee, hu] at e
        have h3 := (hg (j / k) hdiv).2 (j % k) u (by rw [e]; simp)
        rw [ee] at h3
        exact h3
theorem rowCel : RowOf kcL 16 := ⟨by decide, fun _ => rfl, fun x u hu => by
  have := cellsV_one [x] u (by simpa [cellsV] using hu)
  exact this⟩
theorem open_celsB {r : Reach} {b0 : Nat} {v : Value} {d : DataW H} {p : List MemPlace} (hv : Value.okWide Tryd.prog w r b0 42 v) (h : DataW.Trod enc Tryd.prog w base sp held 42 v d p) :
    ∃ (a : Option Addr) (n c : Nat) (l : List Cl), v = .slice a n c ∧ (∀ x ∈ l, ClB x) ∧ Rd w a n 16 (cellsV l) :=
  open_rows rowCel zeroK Tryd.underlying42 cCell (fun fuel cs x hx hl => by
    obtain ⟨c0, c1, c2, c3, c4, c5, c6, c7, c8, c9, c10, c11, c12, c13, c14, c15, rfl⟩ := list16 hl
    exact open_cel16 hx) hv h
theorem open_runs {r : Reach} {b0 : Nat} {v : Value} {d : DataW H} {p : List MemPlace} (hv : Value.okWide Tryd.prog w r b0 43 v) (h : DataW.Trod enc Tryd.prog w base sp held 43 v d p) :
    ∃ (a : Option Addr) (n c : Nat) (l : List Ru), v = .slice a n c ∧ (∀ x ∈ l, RuB x) ∧ Rd w a n 4 (runsV l) :=
  open_rows rowRun ⟨0, zeroW⟩ Tryd.underlying43 cRun (fun fuel cs x hx hl => by
    match cs, hl with
    | [c0, c1, c2, c3], _ => exact open_run4 hx) hv h
end
end Go.Proofs.YtpdjlollijbdeaaDoor
