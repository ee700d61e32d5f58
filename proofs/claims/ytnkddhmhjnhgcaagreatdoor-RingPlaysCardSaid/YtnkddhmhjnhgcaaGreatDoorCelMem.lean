/- Cells in memory: in boxes, in slices; the operations that load and store one whole. -/
import Derived.Test.YtnkddhmhjnhgcaaGreatDoorMaths
import Derived.Test.YtnkddhmhjnhgcaaGreatDoorPenA
import Derived.Laws.StructEq
import Derived.Deep.LoopGhost
import Derived.Deep.RegionHeld3
import Derived.Deep.Cut
import Derived.Deep.MidRow
import Derived.Deep.WholeRow
import Derived.Great.BuildSlice
import Derived.Laws.CopyRow
namespace Go.Proofs.YtnkddhmhjnhgcaaGreatDoor
open Go.RowKit
set_option linter.unusedVariables false

/-- A cell in a box; in a slice, from offset o on. -/
def CelAt (W : World) (b : Nat) (c : Cl) : Prop := W.cell? ⟨b, 0, none⟩ = some (.int .i32 c.r) ∧ W.cell? ⟨b, 1, none⟩ = some (.int .i32 c.m0) ∧ W.cell? ⟨b, 2, none⟩ = some (.int .i32 c.m1) ∧ W.cell? ⟨b, 3, none⟩ = some (.int .i32 c.m2) ∧ W.cell? ⟨b, 4, none⟩ = some (.int .i64 c.w) ∧ W.cell? ⟨b, 5, none⟩ = some (.int .i64 c.p.f.k) ∧ W.cell? ⟨b, 6, none⟩ = some (.int .u8 c.p.f.i) ∧ W.cell? ⟨b, 7, none⟩ = some (.int .u8 c.p.f.r) ∧ W.cell? ⟨b, 8, none⟩ = some (.int .u8 c.p.f.g) ∧ W.cell? ⟨b, 9, none⟩ = some (.int .u8 c.p.f.b) ∧ W.cell? ⟨b, 10, none⟩ = some (.int .i64 c.p.b.k) ∧ W.cell? ⟨b, 11, none⟩ = some (.int .u8 c.p.b.i) ∧ W.cell? ⟨b, 12, none⟩ = some (.int .u8 c.p.b.r) ∧ W.cell? ⟨b, 13, none⟩ = some (.int .u8 c.p.b.g) ∧ W.cell? ⟨b, 14, none⟩ = some (.int .u8 c.p.b.b) ∧ W.cell? ⟨b, 15, none⟩ = some (.int .u8 c.p.fl)
def CelAtO (W : World) (b o : Nat) (c : Cl) : Prop := W.cell? ⟨b, o, none⟩ = some (.int .i32 c.r) ∧ W.cell? ⟨b, o + 1, none⟩ = some (.int .i32 c.m0) ∧ W.cell? ⟨b, o + 2, none⟩ = some (.int .i32 c.m1) ∧ W.cell? ⟨b, o + 3, none⟩ = some (.int .i32 c.m2) ∧ W.cell? ⟨b, o + 4, none⟩ = some (.int .i64 c.w) ∧ W.cell? ⟨b, o + 5, none⟩ = some (.int .i64 c.p.f.k) ∧ W.cell? ⟨b, o + 6, none⟩ = some (.int .u8 c.p.f.i) ∧ W.cell? ⟨b, o + 7, none⟩ = some (.int .u8 c.p.f.r) ∧ W.cell? ⟨b, o + 8, none⟩ = some (.int .u8 c.p.f.g) ∧ W.cell? ⟨b, o + 9, none⟩ = some (.int .u8 c.p.f.b) ∧ W.cell? ⟨b, o + 10, none⟩ = some (.int .i64 c.p.b.k) ∧ W.cell? ⟨b, o + 11, none⟩ = some (.int .u8 c.p.b.i) ∧ W.cell? ⟨b, o + 12, none⟩ = some (.int .u8 c.p.b.r) ∧ W.cell? ⟨b, o + 13, none⟩ = some (.int .u8 c.p.b.g) ∧ W.cell? ⟨b, o + 14, none⟩ = some (.int .u8 c.p.b.b) ∧ W.cell? ⟨b, o + 15, none⟩ = some (.int .u8 c.p.fl)
theorem CelAt.kept {S : List Nat} {w w' : World} {b : Nat} {c : Cl} (h : CelAt w b c) (hk : Kept S w w') (hb : b ∉ S) : CelAt w' b c := by
  obtain ⟨h0, h1, h2, h3, h4, h5, h6, h7, h8, h9, h10, h11, h12, h13, h14, h15⟩ := h
  exact ⟨hk.cell h0 hb, hk.cell h1 hb, hk.cell h2 hb, hk.cell h3 hb, hk.cell h4 hb, hk.cell h5 hb, hk.cell h6 hb, hk.cell h7 hb, hk.cell h8 hb, hk.cell h9 hb, hk.cell h10 hb, hk.cell h11 hb, hk.cell h12 hb, hk.cell h13 hb, hk.cell h14 hb, hk.cell h15 hb⟩
theorem CelAtO.kept {S : List Nat} {w w' : World} {b o : Nat} {c : Cl} (h : CelAtO w b o c) (hk : Kept S w w') (hb : b ∉ S) : CelAtO w' b o c := by
  obtain ⟨h0, h1, h2, h3, h4, h5, h6, h7, h8, h9, h10, h11, h12, h13, h14, h15⟩ := h
  exact ⟨hk.cell h0 hb, hk.cell h1 hb, hk.cell h2 hb, hk.cell h3 hb, hk.cell h4 hb, hk.cell h5 hb, hk.cell h6 hb, hk.cell h7 hb, hk.cell h8 hb, hk.cell h9 hb, hk.cell h10 hb, hk.cell h11 hb, hk.cell h12 hb, hk.cell h13 hb, hk.cell h14 hb, hk.cell h15 hb⟩
/-- A block that is a cell. -/
def CelIn (W : World) (b : Nat) (c : Cl) : Prop := W.heap[b]? = some (.cells #[.int .i32 c.r, .int .i32 c.m0, .int .i32 c.m1, .int .i32 c.m2, .int .i64 c.w, .int .i64 c.p.f.k, .int .u8 c.p.f.i, .int .u8 c.p.f.r, .int .u8 c.p.f.g, .int .u8 c.p.f.b, .int .i64 c.p.b.k, .int .u8 c.p.b.i, .int .u8 c.p.b.r, .int .u8 c.p.b.g, .int .u8 c.p.b.b, .int .u8 c.p.fl] 86 (0, 0))
def KFroz (W : World) (b : Nat) : Prop := W.frozen? ⟨b, 0, none⟩ = false ∧ W.frozen? ⟨b, 1, none⟩ = false ∧ W.frozen? ⟨b, 2, none⟩ = false ∧ W.frozen? ⟨b, 3, none⟩ = false ∧ W.frozen? ⟨b, 4, none⟩ = false ∧ W.frozen? ⟨b, 5, none⟩ = false ∧ W.frozen? ⟨b, 6, none⟩ = false ∧ W.frozen? ⟨b, 7, none⟩ = false ∧ W.frozen? ⟨b, 8, none⟩ = false ∧ W.frozen? ⟨b, 9, none⟩ = false ∧ W.frozen? ⟨b, 10, none⟩ = false ∧ W.frozen? ⟨b, 11, none⟩ = false ∧ W.frozen? ⟨b, 12, none⟩ = false ∧ W.frozen? ⟨b, 13, none⟩ = false ∧ W.frozen? ⟨b, 14, none⟩ = false ∧ W.frozen? ⟨b, 15, none⟩ = false
theorem CelIn.new (w : World) (c : Cl) : CelIn (w.alloc (.cells #[.int .i32 c.r, .int .i32 c.m0, .int .i32 c.m1, .int .i32 c.m2, .int .i64 c.w, .int .i64 c.p.f.k, .int .u8 c.p.f.i, .int .u8 c.p.f.r, .int .u8 c.p.f.g, .int .u8 c.p.f.b, .int .i64 c.p.b.k, .int .u8 c.p.b.i, .int .u8 c.p.b.r, .int .u8 c.p.b.g, .int .u8 c.p.b.b, .int .u8 c.p.fl] 86)) w.heap.size c := heap_alloc_new w _
theorem CelIn.kept {S : List Nat} {w w' : World} {b : Nat} {c : Cl} (h : CelIn w b c) (hk : Kept S w w') (hb : b ∉ S) : CelIn w' b c := hk.heap h hb
theorem CelIn.at {w : World} {b : Nat} {c : Cl} (h : CelIn w b c) : CelAt w b c := by
  have e := fun j => cell_of_row w b j _ _ _ h
  exact ⟨e 0, e 1, e 2, e 3, e 4, e 5, e 6, e 7, e 8, e 9, e 10, e 11, e 12, e 13, e 14, e 15⟩
theorem CelIn.froz {w : World} {b : Nat} {c : Cl} (h : CelIn w b c) : KFroz w b := by
  have e : ∀ i, w.frozen? ⟨b, i, none⟩ = false := fun i => by unfold World.frozen?; rw [h]; simp
  exact ⟨e 0, e 1, e 2, e 3, e 4, e 5, e 6, e 7, e 8, e 9, e 10, e 11, e 12, e 13, e 14, e 15⟩
theorem CelIn.lt {w : World} {b : Nat} {c : Cl} (h : CelIn w b c) : b < w.heap.size := World.block_lt_of_cell? w _ h.at.1

theorem Kept.setRow {S : List Nat} {a w : World} (h : Kept S a w) {b : Nat} (hb : b ∈ S ∨ a.heap.size ≤ b) (cs : Array Value) : Kept S a (w.setRow b cs) :=
  ⟨h.os, h.tape, h.output, by simpa [World.setRow] using h.size, fun i hi hn => (setRow_other w b i cs (by
    rintro rfl
    rcases hb with hb | hb
    · exact hn hb
    · omega)).trans (h.block i hi hn)⟩

/-- A list of cells, all of them one behind the other; a cell as a range. -/
def kcL (c : Cl) : List Value := [.int .i32 c.r, .int .i32 c.m0, .int .i32 c.m1, .int .i32 c.m2, .int .i64 c.w, .int .i64 c.p.f.k, .int .u8 c.p.f.i, .int .u8 c.p.f.r, .int .u8 c.p.f.g, .int .u8 c.p.f.b, .int .i64 c.p.b.k, .int .u8 c.p.b.i, .int .u8 c.p.b.r, .int .u8 c.p.b.g, .int .u8 c.p.b.b, .int .u8 c.p.fl]
theorem kc_len (c : Cl) : (kcL c).length = 16 := rfl
def cellsV (l : List Cl) : List Value := l.flatMap kcL
theorem cellsV_cons (c : Cl) (l : List Cl) : cellsV (c :: l) = kcL c ++ cellsV l := rfl
theorem cellsV_len (l : List Cl) : (cellsV l).length = l.length * 16 := by
  induction l with
  | nil => rfl
  | cons c l ih => rw [cellsV_cons, List.length_append, ih, List.length_cons, kc_len]; omega
theorem cellsV_app (l m : List Cl) : cellsV (l ++ m) = cellsV l ++ cellsV m := by simp [cellsV]
theorem cellsV_one (l : List Cl) : ∀ u ∈ cellsV l, u.oneCell' = true := by
  induction l with
  | nil => intro u hu; cases hu
  | cons c l ih =>
    intro u hu
    rw [cellsV_cons, List.mem_append] at hu
    rcases hu with hu | hu
    · simp only [kcL, List.mem_cons, List.not_mem_nil, or_false] at hu
      rcases hu with rfl | rfl | rfl | rfl | rfl | rfl | rfl | rfl | rfl | rfl | rfl | rfl | rfl | rfl | rfl | rfl <;> rfl
    · exact ih u hu
theorem cellsV_at : ∀ (l : List Cl) (i : Nat) (hi : i < l.length) (j : Nat), j < 16 → (cellsV l)[i * 16 + j]? = (kcL l[i])[j]?
  | c :: l, 0, hi, j, hj => by
    rw [cellsV_cons, Nat.zero_mul, Nat.zero_add, List.getElem?_append_left (by rw [kc_len]; exact hj)]
    rfl
  | c :: l, i + 1, hi, j, hj => by
    rw [cellsV_cons, List.getElem?_append_right (by rw [kc_len]; omega), kc_len, show (i + 1) * 16 + j - 16 = i * 16 + j by omega, cellsV_at l i (by simpa using hi) j hj]
    rfl
def CelR (w : World) (b o : Nat) (c : Cl) : Prop := w.rangeAt b o (kcL c)
theorem CelIn.range {w : World} {b : Nat} {c : Cl} (h : CelIn w b c) : CelR w b 0 c := fun j v hv => by
  rw [cell_of_row w b (0 + j) _ _ _ h, Nat.zero_add]
  simpa [kcL] using hv
theorem CelR.kept {S : List Nat} {w w' : World} {b o : Nat} {c : Cl} (h : CelR w b o c) (hk : Kept S w w') (hb : b ∉ S) : CelR w' b o c := fun j v hv => hk.cell (h j v hv) hb
theorem CelR.at {w : World} {b o : Nat} {c : Cl} (h : CelR w b o c) : CelAtO w b o c :=
  ⟨h 0 _ rfl, h 1 _ rfl, h 2 _ rfl, h 3 _ rfl, h 4 _ rfl, h 5 _ rfl, h 6 _ rfl, h 7 _ rfl, h 8 _ rfl, h 9 _ rfl, h 10 _ rfl, h 11 _ rfl, h 12 _ rfl, h 13 _ rfl, h 14 _ rfl, h 15 _ rfl⟩
theorem Rd.cel {w : World} {b o n : Nat} {l : List Cl} (h : Rd w (some ⟨b, o, none⟩) n 16 (cellsV l)) (i : Nat) (hi : i < l.length) : CelR w b (o + i * 16) l[i] := fun j v hv => by
  have hj : j < 16 := by have := (List.getElem?_eq_some_iff.1 hv).1; rwa [kc_len] at this
  have hm : (cellsV l)[i * 16 + j]? = some v := (cellsV_at l i hi j hj).trans hv
  rcases h.2 with h0 | ⟨b', o', ha, hc⟩
  · rw [h0] at hm; cases hm
  · injection ha with ha
    injection ha with h1 h2 _
    subst h1 h2
    rw [show o + i * 16 + j = o + (i * 16 + j) by omega]
    exact hc _ _ hm
/-- A slice of cells with an element has an address. -/
theorem Rd.addr {w : World} {a : Option Addr} {n : Nat} {l : List Cl} (h : Rd w a n 16 (cellsV l)) (hn : l ≠ []) : ∃ b o, a = some ⟨b, o, none⟩ := by
  rcases h.2 with h0 | ⟨b, o, ha, _⟩
  · cases l with
    | nil => exact absurd rfl hn
    | cons c l => cases h0
  · exact ⟨b, o, ha⟩
theorem Rd.clen {w : World} {a : Option Addr} {n : Nat} {l : List Cl} (h : Rd w a n 16 (cellsV l)) : l.length = n := by
  have := h.1
  rw [cellsV_len] at this
  omega
theorem CelIn.rd {w : World} {g : Nat} {c : Cl} (h : CelIn w g c) : Rd w (some ⟨g, 0, none⟩) 1 16 (cellsV [c]) :=
  ⟨rfl, .inr ⟨g, 0, rfl, fun j u hu => by rw [Nat.zero_add, cell_of_row w g j _ _ _ h]; simpa [cellsV, kcL] using hu⟩⟩

theorem Rd.blockC {w : World} {g : Nat} {cur : Array Value} {E : TypeId} {fr : Nat × Nat} {l : List Cl} (hg : w.heap[g]? = some (.cells cur E fr)) (hc : cur.toList = cellsV l) : Rd w (some ⟨g, 0, none⟩) l.length 16 (cellsV l) :=
  ⟨cellsV_len l, .inr ⟨g, 0, rfl, fun j u hu => by rw [Nat.zero_add, cell_of_row w g j _ _ _ hg]; rw [← hc] at hu; simpa using hu⟩⟩
def pcL (p : Pn) : List Value := [.int .i64 p.f.k, .int .u8 p.f.i, .int .u8 p.f.r, .int .u8 p.f.g, .int .u8 p.f.b, .int .i64 p.b.k, .int .u8 p.b.i, .int .u8 p.b.r, .int .u8 p.b.g, .int .u8 p.b.b, .int .u8 p.fl]
theorem PenIn.range {w : World} {b : Nat} {p : Pn} (h : PenIn w b p) : w.rangeAt b 0 (pcL p) := fun j v hv => by
  rw [cell_of_row w b (0 + j) _ _ _ h, Nat.zero_add]
  simpa [pcL] using hv
theorem wpList_load_pen {ops : Array Oper} {rest : List Oper} {op : Oper} {a : Act} {w : World} {Q : Exit → Act → World → Prop} {x : Operand} (ho : op.op = .load 84 x) (hgd : op.guard = none) (b o : Nat) (hx : a.eval x = .pointer (some ⟨b, o, none⟩)) {p : Pn} (hc : w.rangeAt b o (pcL p))
    (h : wpList Tryz.prog ops Q rest (a.put op.dst (.agg #[.int .i64 p.f.k, .int .u8 p.f.i, .int .u8 p.f.r, .int .u8 p.f.g, .int .u8 p.f.b, .int .i64 p.b.k, .int .u8 p.b.i, .int .u8 p.b.r, .int .u8 p.b.g, .int .u8 p.b.b, .int .u8 p.fl])) w) : wpList Tryz.prog ops Q (op :: rest) a w :=
  wpList_load_mid hgd 84 x ho b o hx (pcL p) _ hc Tryz.underlying84 rfl (by kernel_rfl) h
/-- The pen of a cell, as a range. -/
theorem CelR.pen {w : World} {b o : Nat} {c : Cl} (h : CelR w b o c) : w.rangeAt b (o + 5) (pcL c.p) := fun j v hv => by
  rw [show o + 5 + j = o + (5 + j) by omega]
  refine h (5 + j) v ?_
  rw [show 5 + j = j + 1 + 1 + 1 + 1 + 1 by omega]
  exact hv

/-- The operations. -/
theorem wpList_load_cel {ops : Array Oper} {rest : List Oper} {op : Oper} {a : Act} {w : World} {Q : Exit → Act → World → Prop} {x : Operand} (ho : op.op = .load 86 x) (hgd : op.guard = none) (b o : Nat) (hx : a.eval x = .pointer (some ⟨b, o, none⟩)) {c : Cl} (hc : CelR w b o c)
    (h : wpList Tryz.prog ops Q rest (a.put op.dst (.agg #[.int .i32 c.r, .int .i32 c.m0, .int .i32 c.m1, .int .i32 c.m2, .int .i64 c.w, .int .i64 c.p.f.k, .int .u8 c.p.f.i, .int .u8 c.p.f.r, .int .u8 c.p.f.g, .int .u8 c.p.f.b, .int .i64 c.p.b.k, .int .u8 c.p.b.i, .int .u8 c.p.b.r, .int .u8 c.p.b.g, .int .u8 c.p.b.b, .int .u8 c.p.fl])) w) : wpList Tryz.prog ops Q (op :: rest) a w :=
  wpList_load_mid hgd 86 x ho b o hx (kcL c) _ hc Tryz.underlying86 rfl (by kernel_rfl) h
theorem oneC (c : Cl) : (#[.int .i32 c.r, .int .i32 c.m0, .int .i32 c.m1, .int .i32 c.m2, .int .i64 c.w, .int .i64 c.p.f.k, .int .u8 c.p.f.i, .int .u8 c.p.f.r, .int .u8 c.p.f.g, .int .u8 c.p.f.b, .int .i64 c.p.b.k, .int .u8 c.p.b.i, .int .u8 c.p.b.r, .int .u8 c.p.b.g, .int .u8 c.p.b.b, .int .u8 c.p.fl] : Array Value).all (·.oneCell') = true := by simp [Value.oneCell']
theorem wpList_store_cel {ops : Array Oper} {rest : List Oper} {op : Oper} {a : Act} {w : World} {Q : Exit → Act → World → Prop} {x y : Operand} (ho : op.op = .store 86 x y) (hgd : op.guard = none) (hd : op.dst = none) (b : Nat) (hx : a.eval x = .pointer (some ⟨b, 0, none⟩)) {c : Cl} (hb : CelIn w b c)
    (d : Cl) (hy : a.eval y = .agg #[.int .i32 d.r, .int .i32 d.m0, .int .i32 d.m1, .int .i32 d.m2, .int .i64 d.w, .int .i64 d.p.f.k, .int .u8 d.p.f.i, .int .u8 d.p.f.r, .int .u8 d.p.f.g, .int .u8 d.p.f.b, .int .i64 d.p.b.k, .int .u8 d.p.b.i, .int .u8 d.p.b.r, .int .u8 d.p.b.g, .int .u8 d.p.b.b, .int .u8 d.p.fl]) (h : ∀ w', CelIn w' b d → Kept [b] w w' → wpList Tryz.prog ops Q rest a w') : wpList Tryz.prog ops Q (op :: rest) a w :=
  wpList_store_rowTo hgd 86 x y ho hd b #[.int .i32 d.r, .int .i32 d.m0, .int .i32 d.m1, .int .i32 d.m2, .int .i64 d.w, .int .i64 d.p.f.k, .int .u8 d.p.f.i, .int .u8 d.p.f.r, .int .u8 d.p.f.g, .int .u8 d.p.f.b, .int .i64 d.p.b.k, .int .u8 d.p.b.i, .int .u8 d.p.b.r, .int .u8 d.p.b.g, .int .u8 d.p.b.b, .int .u8 d.p.fl] hx hy 86 _ hb (by kernel_rfl) rfl (oneC d) (h _ (setRow_heap w b _ _ _ _ hb) ((Kept.refl [b] w).setRow (.inl (by simp)) _))
theorem wp_store_cel {op : Oper} {a : Act} {w : World} {K : Act → World → Prop} {Q : Exit → Act → World → Prop} {x y : Operand} (ho : op.op = .store 86 x y) (hd : op.dst = none) (b : Nat) (hx : a.eval x = .pointer (some ⟨b, 0, none⟩)) {c : Cl} (hb : CelIn w b c)
    (d : Cl) (hy : a.eval y = .agg #[.int .i32 d.r, .int .i32 d.m0, .int .i32 d.m1, .int .i32 d.m2, .int .i64 d.w, .int .i64 d.p.f.k, .int .u8 d.p.f.i, .int .u8 d.p.f.r, .int .u8 d.p.f.g, .int .u8 d.p.f.b, .int .i64 d.p.b.k, .int .u8 d.p.b.i, .int .u8 d.p.b.r, .int .u8 d.p.b.g, .int .u8 d.p.b.b, .int .u8 d.p.fl]) (h : ∀ w', CelIn w' b d → Kept [b] w w' → K a w') : op.wp Tryz.prog a w K Q :=
  wp_store_row 86 x y ho b #[.int .i32 d.r, .int .i32 d.m0, .int .i32 d.m1, .int .i32 d.m2, .int .i64 d.w, .int .i64 d.p.f.k, .int .u8 d.p.f.i, .int .u8 d.p.f.r, .int .u8 d.p.f.g, .int .u8 d.p.f.b, .int .i64 d.p.b.k, .int .u8 d.p.b.i, .int .u8 d.p.b.r, .int .u8 d.p.b.g, .int .u8 d.p.b.b, .int .u8 d.p.fl] hx hy 86 _ hb (by kernel_rfl) rfl (oneC d) (by rw [hd]; exact h _ (setRow_heap w b _ _ _ _ hb) ((Kept.refl [b] w).setRow (.inl (by simp)) _))
theorem cellsV_set (l : List Cl) : ∀ (i : Nat) (hi : i < l.length) (d : Cl), cellsV (l.set i d) = (cellsV l).take (i * 16) ++ kcL d ++ (cellsV l).drop (i * 16 + 16) := by
  induction l with
  | nil => intro i hi; cases hi
  | cons c l ih =>
    intro i hi d
    match i, hi with
    | 0, _ => rw [List.set_cons_zero, cellsV_cons, cellsV_cons, Nat.zero_mul, List.take_zero, List.nil_append, Nat.zero_add, List.drop_append, kc_len, List.drop_of_length_le (by rw [kc_len]; exact Nat.le_refl _), List.nil_append]; rfl
    | i + 1, hi =>
      rw [List.set_cons_succ, cellsV_cons, ih i (by simpa using hi) d, cellsV_cons, List.take_append, List.drop_append, kc_len, List.take_of_length_le (l := kcL c) (by rw [kc_len]; omega), List.drop_of_length_le (l := kcL c) (by rw [kc_len]; omega),
        show (i + 1) * 16 - 16 = i * 16 by omega, show (i + 1) * 16 + 16 - 16 = i * 16 + 16 by omega]
      simp only [List.append_assoc, List.nil_append]
theorem wpList_store_celO {ops : Array Oper} {rest : List Oper} {op : Oper} {a : Act} {w : World} {Q : Exit → Act → World → Prop} {x y : Operand} (ho : op.op = .store 86 x y) (hgd : op.guard = none) (hd : op.dst = none) (g i : Nat) (hx : a.eval x = .pointer (some ⟨g, i * 16, none⟩))
    {base n c : Nat} {l : List Cl} (hown : Own w base 86 (some ⟨g, 0, none⟩) n c 16 (cellsV l)) (hi : i < l.length)
    (d : Cl) (hy : a.eval y = .agg #[.int .i32 d.r, .int .i32 d.m0, .int .i32 d.m1, .int .i32 d.m2, .int .i64 d.w, .int .i64 d.p.f.k, .int .u8 d.p.f.i, .int .u8 d.p.f.r, .int .u8 d.p.f.g, .int .u8 d.p.f.b, .int .i64 d.p.b.k, .int .u8 d.p.b.i, .int .u8 d.p.b.r, .int .u8 d.p.b.g, .int .u8 d.p.b.b, .int .u8 d.p.fl]) (h : ∀ w', Own w' base 86 (some ⟨g, 0, none⟩) n c 16 (cellsV (l.set i d)) → Kept [g] w w' → wpList Tryz.prog ops Q rest a w') : wpList Tryz.prog ops Q (op :: rest) a w := by
  rcases hown.2 with ⟨hv, _⟩ | ⟨g', cap, cur, hv, hb, hg, hnc, hcm, hsz, ht⟩
  · cases hv
  · injection hv with h1 h2 h3
    injection h1 with h1
    injection h1 with h1 _ _
    subst h1 h3
    have hln := hown.1
    rw [cellsV_len] at hln
    have h16 : i * 16 + 16 ≤ cur.size := by omega
    refine wpList_plain hgd fun _ hK => ?_
    unfold Oper.wp execOp
    have hst := run_storeCells_at (P := Tryz.prog) g (i * 16) 86 (kcL d) 0 cur w hg (by rw [kc_len]; exact h16) (fun v hv => (Array.all_eq_true_iff_forall_mem.1 (oneC d)) v (by simpa [kcL] using hv))
    have hsv : (storeVar 86 ⟨g, i * 16, none⟩ (.agg #[.int .i32 d.r, .int .i32 d.m0, .int .i32 d.m1, .int .i32 d.m2, .int .i64 d.w, .int .i64 d.p.f.k, .int .u8 d.p.f.i, .int .u8 d.p.f.r, .int .u8 d.p.f.g, .int .u8 d.p.f.b, .int .i64 d.p.b.k, .int .u8 d.p.b.i, .int .u8 d.p.b.r, .int .u8 d.p.b.g, .int .u8 d.p.b.b, .int .u8 d.p.fl])).run Tryz.prog w = .ok () (w.setRow g (cur.toList.take (i * 16 + 0) ++ kcL d ++ cur.toList.drop (i * 16 + 0 + (kcL d).length)).toArray) := by
      cases hq : Tryz.prog.info? 86 with
      | none => have h0 : (Tryz.prog.info? 86).map (·.size) = some 16 := by kernel_rfl
                rw [hq] at h0; cases h0
      | some i' =>
        have h0 : (Tryz.prog.info? 86).map (·.size) = some 16 := by kernel_rfl
        have hs : 16 = i'.size := by rw [hq] at h0; simpa using h0.symm
        change (storeCells ⟨g, i * 16, none⟩ [.int .i32 d.r, .int .i32 d.m0, .int .i32 d.m1, .int .i32 d.m2, .int .i64 d.w, .int .i64 d.p.f.k, .int .u8 d.p.f.i, .int .u8 d.p.f.r, .int .u8 d.p.f.g, .int .u8 d.p.f.b, .int .i64 d.p.b.k, .int .u8 d.p.b.i, .int .u8 d.p.b.r, .int .u8 d.p.b.g, .int .u8 d.p.b.b, .int .u8 d.p.fl] 0).run Tryz.prog w = _ at hst
        simpa [storeVar, sizeOf, typeInfo, hq, Value.cells, hs] using hst
    simp only [ho, hx, hy, Instr.storeAt, Instr.sureAddr, Sem.run_bind, Sem.run_pure, Result.andThen_ok, hsv]
    refine hK _ _ ?_
    rw [hd]
    refine h _ ⟨?_, .inr ⟨g, _, _, rfl, hb, setRow_heap w g cur _ _ _ hg, hnc, hcm, ?_, ?_⟩⟩ ((Kept.refl [g] w).setRow (.inl (by simp)) _)
    · rw [cellsV_len, List.length_set]; omega
    · simp [kc_len]; omega
    · rw [cellsV_set l i hi d, ← ht, Nat.add_zero, kc_len, List.take_take, Nat.min_eq_left (by omega), List.drop_take]
      rw [List.append_assoc, List.append_assoc, List.take_append, List.length_take, Array.length_toList, Nat.min_eq_left (by omega : i * 16 ≤ cur.size), List.take_of_length_le (by simp; omega), List.take_append, kc_len, List.take_of_length_le (l := kcL d) (by rw [kc_len]; omega)]
      rw [show n * 16 - i * 16 - 16 = n * 16 - (i * 16 + 16) by omega]
theorem results_cel {fn : Func} {p : Tmp} {tmps : Array Value} {W : World} {b : Nat} {c : Cl} (h : fn.results = #[.cell p 86]) (hp : tmps.getD p undef = .pointer (some ⟨b, 0, none⟩)) (hc : CelIn W b c) :
    (results fn tmps).run Tryz.prog W = .ok (.agg #[.int .i32 c.r, .int .i32 c.m0, .int .i32 c.m1, .int .i32 c.m2, .int .i64 c.w, .int .i64 c.p.f.k, .int .u8 c.p.f.i, .int .u8 c.p.f.r, .int .u8 c.p.f.g, .int .u8 c.p.f.b, .int .i64 c.p.b.k, .int .u8 c.p.b.i, .int .u8 c.p.b.r, .int .u8 c.p.b.g, .int .u8 c.p.b.b, .int .u8 c.p.fl]) W := by
  have hl := run_loadVar_mid (P := Tryz.prog) W b 0 86 (kcL c) _ hc.range Tryz.underlying86 rfl (by kernel_rfl)
  rw [Array.getD_eq_getD_getElem?] at hp
  simp [results, h, hp, asAddr, hl, kcL]
theorem results_cel2 {fn : Func} {p u : Tmp} {tmps : Array Value} {W : World} {b : Nat} {c : Cl} (h : fn.results = #[.cell p 86, .tmp u]) (hp : tmps.getD p undef = .pointer (some ⟨b, 0, none⟩)) (hc : CelIn W b c) {v : Value} (hu : tmps.getD u undef = v) :
    (results fn tmps).run Tryz.prog W = .ok (.tuple #[.agg #[.int .i32 c.r, .int .i32 c.m0, .int .i32 c.m1, .int .i32 c.m2, .int .i64 c.w, .int .i64 c.p.f.k, .int .u8 c.p.f.i, .int .u8 c.p.f.r, .int .u8 c.p.f.g, .int .u8 c.p.f.b, .int .i64 c.p.b.k, .int .u8 c.p.b.i, .int .u8 c.p.b.r, .int .u8 c.p.b.g, .int .u8 c.p.b.b, .int .u8 c.p.fl], v]) W := by
  have hl := run_loadVar_mid (P := Tryz.prog) W b 0 86 (kcL c) _ hc.range Tryz.underlying86 rfl (by kernel_rfl)
  rw [Array.getD_eq_getD_getElem?] at hp hu
  simp [results, h, hp, hu, asAddr, hl, kcL]
end Go.Proofs.YtnkddhmhjnhgcaaGreatDoor
