/- Layer 9: places in boxes. -/
import Derived.Test.YtnkddhmhjnhgcaaDoorPlLeaf
namespace Go.Proofs.YtnkddhmhjnhgcaaDoor
open Go.RowKit
set_option linter.unusedVariables false
set_option linter.unusedSimpArgs false
set_option maxRecDepth 100000
def PlB (w : World) (b : Nat) (p : Pl) : Prop := w.heap[b]? = some (.cells #[.int .i64 p.l, .int .i64 p.c] 49 (0, 0))
section
variable {w w' : World} {b : Nat} {p : Pl}
theorem PlB.new (w : World) (p : Pl) : PlB (w.alloc (.cells #[.int .i64 p.l, .int .i64 p.c] 49)) w.heap.size p := heap_alloc_new w _
theorem PlB.newAt (w : World) (p : Pl) {g : Nat} (h : g = w.heap.size) : PlB (w.alloc (.cells #[.int .i64 p.l, .int .i64 p.c] 49)) g p := heap_new_at h
theorem PlB.kept {S : List Nat} (h : PlB w b p) (hk : Kept S w w') (hb : b ∉ S) : PlB w' b p := hk.heap h hb
theorem PlB.c0 (h : PlB w b p) : w.cell? ⟨b, 0, none⟩ = some (.int .i64 p.l) := by
  unfold PlB at h; simp [World.cell?, h]
theorem PlB.c1 (h : PlB w b p) : w.cell? ⟨b, 1, none⟩ = some (.int .i64 p.c) := by
  unfold PlB at h; simp [World.cell?, h]
theorem PlB.f0 (h : PlB w b p) : w.frozen? ⟨b, 0, none⟩ = false := by
  unfold PlB at h; simp [World.frozen?, h]
theorem PlB.f1 (h : PlB w b p) : w.frozen? ⟨b, 1, none⟩ = false := by
  unfold PlB at h; simp [World.frozen?, h]
theorem PlB.lt (h : PlB w b p) : b < w.heap.size := World.block_lt_of_cell? w _ h.c0
theorem PlB.set (h : PlB w b p) (q : Pl) : PlB ((w.setCell ⟨b, 0, none⟩ (.int .i64 q.l)).setCell ⟨b, 1, none⟩ (.int .i64 q.c)) b q :=
  plHeap_set _ b 1 (.int .i64 q.c) _ _ (plHeap_set w b 0 (.int .i64 q.l) _ _ h)
theorem PlB.set1 (h : PlB w b p) (k : Int) : PlB (w.setCell ⟨b, 1, none⟩ (.int .i64 k)) b ⟨p.l, k⟩ := plHeap_set _ b 1 (.int .i64 k) _ _ h
theorem kept_set (w : World) (b : Nat) (u v : Value) : Kept [b] w ((w.setCell ⟨b, 0, none⟩ u).setCell ⟨b, 1, none⟩ v) := ((Kept.refl _ _).setCell (.inl (by simp)) _).setCell (.inl (by simp)) _
theorem kept_set1 (w : World) (b : Nat) (v : Value) : Kept [b] w (w.setCell ⟨b, 1, none⟩ v) := (Kept.refl _ _).setCell (.inl (by simp)) _
end
theorem PlB.range {w : World} {b : Nat} {p : Pl} (h : PlB w b p) : w.rangeAt b 0 [.int .i64 p.l, .int .i64 p.c] := by
  have h0 := h.c0
  have h1 := h.c1
  intro j u hj
  match j, hj with
  | 0, hj => rw [← hj]; exact h0
  | 1, hj => rw [← hj]; exact h1
/-- Results that are a place in a box. -/
theorem results_pl {fn : Func} {p : Tmp} {tmps : Array Value} {W : World} {b : Nat} {q : Pl} (h : fn.results = #[.cell p 49]) (hp : tmps.getD p undef = .pointer (some ⟨b, 0, none⟩)) (hc : PlB W b q) :
    (results fn tmps).run Tryd.prog W = .ok (.agg #[.int .i64 q.l, .int .i64 q.c]) W := by
  have hl := run_loadVar_mid (P := Tryd.prog) W b 0 49 [.int .i64 q.l, .int .i64 q.c] _ hc.range Tryd.underlying49 rfl (by kernel_rfl)
  rw [Array.getD_eq_getD_getElem?] at hp
  simp [results, h, hp, asAddr, hl]
theorem results_pl2 {fn : Func} {p u : Tmp} {tmps : Array Value} {W : World} {b : Nat} {q : Pl} (h : fn.results = #[.cell p 49, .tmp u]) (hp : tmps.getD p undef = .pointer (some ⟨b, 0, none⟩)) (hc : PlB W b q) {v : Value} (hu : tmps.getD u undef = v) :
    (results fn tmps).run Tryd.prog W = .ok (.tuple #[.agg #[.int .i64 q.l, .int .i64 q.c], v]) W := by
  have hl := run_loadVar_mid (P := Tryd.prog) W b 0 49 [.int .i64 q.l, .int .i64 q.c] _ hc.range Tryd.underlying49 rfl (by kernel_rfl)
  rw [Array.getD_eq_getD_getElem?] at hp hu
  simp [results, h, hp, hu, asAddr, hl]
end Go.Proofs.YtnkddhmhjnhgcaaDoor
