/- Lines in memory; the reference's functions of layer 6. -/
import Derived.Test.YtnkddhmhjnhgcaaGreatDoorMaths
import Derived.Test.YtnkddhmhjnhgcaaGreatDoorRowy
import Derived.Test.YtnkddhmhjnhgcaaGreatDoorCelEq
import Derived.Test.YtnkddhmhjnhgcaaGreatDoorCelSl
namespace Go.Proofs.YtnkddhmhjnhgcaaGreatDoor
open Go.RowKit
set_option linter.unusedVariables false
set_option maxRecDepth 100000

/-- A line in a box. -/
def LinIn (W : World) (b : Nat) (a : Option Addr) (n c : Nat) (s : Bool) : Prop := W.heap[b]? = some (.cells #[.slice a n c, .bool s] 36 (0, 0))
theorem LinIn.new (w : World) (a : Option Addr) (n c : Nat) (s : Bool) : LinIn (w.alloc (.cells #[.slice a n c, .bool s] 36)) w.heap.size a n c s := heap_alloc_new w _
theorem LinIn.kept {S : List Nat} {w w' : World} {b : Nat} {a : Option Addr} {n c : Nat} {s : Bool} (h : LinIn w b a n c s) (hk : Kept S w w') (hb : b ∉ S) : LinIn w' b a n c s := hk.heap h hb
theorem LinIn.at {w : World} {b : Nat} {a : Option Addr} {n c : Nat} {s : Bool} (h : LinIn w b a n c s) : w.cell? ⟨b, 0, none⟩ = some (.slice a n c) ∧ w.cell? ⟨b, 1, none⟩ = some (.bool s) := by
  have e := fun j => cell_of_row w b j _ _ _ h
  exact ⟨e 0, e 1⟩
theorem LinIn.froz {w : World} {b : Nat} {a : Option Addr} {n c : Nat} {s : Bool} (h : LinIn w b a n c s) : w.frozen? ⟨b, 0, none⟩ = false ∧ w.frozen? ⟨b, 1, none⟩ = false := by
  have e : ∀ i, w.frozen? ⟨b, i, none⟩ = false := fun i => by unfold World.frozen?; rw [h]; simp
  exact ⟨e 0, e 1⟩
theorem LinIn.lt {w : World} {b : Nat} {a : Option Addr} {n c : Nat} {s : Bool} (h : LinIn w b a n c s) : b < w.heap.size := World.block_lt_of_cell? w _ h.at.1
theorem LinIn.setCells {w : World} {b : Nat} {a : Option Addr} {n c : Nat} {s : Bool} (h : LinIn w b a n c s) (a' : Option Addr) (n' c' : Nat) : LinIn (w.setCell ⟨b, 0, none⟩ (.slice a' n' c')) b a' n' c' s := by
  unfold LinIn at *
  have := heap_setAt w b 0 (.slice a' n' c') _ _ h
  simpa using this
def linL (a : Option Addr) (n c : Nat) (s : Bool) : List Value := [.slice a n c, .bool s]
theorem LinIn.range {w : World} {b : Nat} {a : Option Addr} {n c : Nat} {s : Bool} (h : LinIn w b a n c s) : w.rangeAt b 0 (linL a n c s) := fun j v hv => by
  rw [cell_of_row w b (0 + j) _ _ _ h, Nat.zero_add]
  simpa [linL] using hv
theorem oneLin (a : Option Addr) (n c : Nat) (s : Bool) : (#[Value.slice a n c, Value.bool s] : Array Value).all (·.oneCell') = true := by simp [Value.oneCell']
theorem wpList_store_lin {ops : Array Oper} {rest : List Oper} {op : Oper} {A : Act} {w : World} {Q : Exit → Act → World → Prop} {x y : Operand} (ho : op.op = .store 36 x y) (hgd : op.guard = none) (hd : op.dst = none) (b : Nat) (hx : A.eval x = .pointer (some ⟨b, 0, none⟩)) {a : Option Addr} {n c : Nat} {s : Bool} (hb : LinIn w b a n c s)
    (a' : Option Addr) (n' c' : Nat) (s' : Bool) (hy : A.eval y = .agg #[.slice a' n' c', .bool s']) (h : ∀ w', LinIn w' b a' n' c' s' → Kept [b] w w' → wpList Tryz.prog ops Q rest A w') : wpList Tryz.prog ops Q (op :: rest) A w :=
  wpList_store_rowTo hgd 36 x y ho hd b #[.slice a' n' c', .bool s'] hx hy 36 _ hb (by kernel_rfl) rfl (oneLin a' n' c' s') (h _ (setRow_heap w b _ _ _ _ hb) ((Kept.refl [b] w).setRow (.inl (by simp)) _))
theorem wp_store_lin {op : Oper} {A : Act} {w : World} {K : Act → World → Prop} {Q : Exit → Act → World → Prop} {x y : Operand} (ho : op.op = .store 36 x y) (hd : op.dst = none) (b : Nat) (hx : A.eval x = .pointer (some ⟨b, 0, none⟩)) {a : Option Addr} {n c : Nat} {s : Bool} (hb : LinIn w b a n c s)
    (a' : Option Addr) (n' c' : Nat) (s' : Bool) (hy : A.eval y = .agg #[.slice a' n' c', .bool s']) (h : ∀ w', LinIn w' b a' n' c' s' → Kept [b] w w' → K A w') : op.wp Tryz.prog A w K Q :=
  wp_store_row 36 x y ho b #[.slice a' n' c', .bool s'] hx hy 36 _ hb (by kernel_rfl) rfl (oneLin a' n' c' s') (by rw [hd]; exact h _ (setRow_heap w b _ _ _ _ hb) ((Kept.refl [b] w).setRow (.inl (by simp)) _))
theorem results_lin {fn : Func} {p : Tmp} {tmps : Array Value} {W : World} {b : Nat} {a : Option Addr} {n c : Nat} {s : Bool} (h : fn.results = #[.cell p 36]) (hp : tmps.getD p undef = .pointer (some ⟨b, 0, none⟩)) (hc : LinIn W b a n c s) :
    (results fn tmps).run Tryz.prog W = .ok (.agg #[.slice a n c, .bool s]) W := by
  have hl := run_loadVar_mid (P := Tryz.prog) W b 0 36 (linL a n c s) _ hc.range Tryz.underlying36 rfl (by kernel_rfl)
  rw [Array.getD_eq_getD_getElem?] at hp
  simp [results, h, hp, asAddr, hl, linL]
theorem results_lin2 {fn : Func} {p u : Tmp} {tmps : Array Value} {W : World} {b : Nat} {a : Option Addr} {n c : Nat} {s : Bool} (h : fn.results = #[.cell p 36, .tmp u]) (hp : tmps.getD p undef = .pointer (some ⟨b, 0, none⟩)) (hc : LinIn W b a n c s) {v : Value} (hu : tmps.getD u undef = v) :
    (results fn tmps).run Tryz.prog W = .ok (.tuple #[.agg #[.slice a n c, .bool s], v]) W := by
  have hl := run_loadVar_mid (P := Tryz.prog) W b 0 36 (linL a n c s) _ hc.range Tryz.underlying36 rfl (by kernel_rfl)
  rw [Array.getD_eq_getD_getElem?] at hp hu
  simp [results, h, hp, hu, asAddr, hl, linL]

/-- Parts of slices of cells. -/
theorem rowC6 : RowOf kcL 16 := ⟨by decide, fun _ => rfl, fun x u hu => by
  have := cellsV_one [x] u (by simpa [cellsV] using hu)
  exact this⟩
theorem sz6 : ∀ w, (sizeOf (Tryz.prog.elem 34)).run Tryz.prog w = .ok 16 w := fun w => by kernel_rfl
theorem cut_h (a : Option Addr) (n c hi : Nat) (h2 : hi ≤ n) (h3 : n ≤ c) (hc : c ≤ maxLen) :
    ∃ a2 c2, hi ≤ c2 ∧ c2 ≤ maxLen ∧ (∀ w, (Instr.slice 34 (.slice a n c) none (some (.int .i64 hi)) none).run Tryz.prog w = .ok (.slice a2 hi c2) w) ∧
      ∀ w (l : List Cl), Rd w a n 16 (cellsV l) → Rd w a2 hi 16 (cellsV (l.take hi)) := rows_slice_h rowC6 Tryz.underlying34 sz6 a n c hi h2 h3 hc
theorem cut_l (a : Option Addr) (n c lo : Nat) (h1 : lo ≤ n) (h3 : n ≤ c) (hc : c ≤ maxLen) :
    ∃ a2 c2, n - lo ≤ c2 ∧ c2 ≤ maxLen ∧ (∀ w, (Instr.slice 34 (.slice a n c) (some (.int .i64 lo)) none none).run Tryz.prog w = .ok (.slice a2 (n - lo) c2) w) ∧
      ∀ w (l : List Cl), Rd w a n 16 (cellsV l) → Rd w a2 (n - lo) 16 (cellsV (l.drop lo)) := rows_slice_l rowC6 Tryz.underlying34 sz6 a n c lo h1 h3 hc
theorem cut_lh (a : Option Addr) (n c lo hi : Nat) (h1 : lo ≤ hi) (h2 : hi ≤ n) (h3 : n ≤ c) (hc : c ≤ maxLen) :
    ∃ a2 c2, hi - lo ≤ c2 ∧ c2 ≤ maxLen ∧ (∀ w, (Instr.slice 34 (.slice a n c) (some (.int .i64 lo)) (some (.int .i64 hi)) none).run Tryz.prog w = .ok (.slice a2 (hi - lo) c2) w) ∧
      ∀ w (l : List Cl), Rd w a n 16 (cellsV l) → Rd w a2 (hi - lo) 16 (cellsV ((l.take hi).drop lo)) := rows_slice_lh rowC6 Tryz.underlying34 sz6 a n c lo hi h1 h2 h3 hc
/-- b[:hi] lies where b lies. -/
theorem Rd.takeC {w : World} {a : Option Addr} {n : Nat} {l : List Cl} (h : Rd w a n 16 (cellsV l)) {hi : Nat} (hh : hi ≤ n) : Rd w a hi 16 (cellsV (l.take hi)) := by
  have hl := h.clen
  refine ⟨by rw [cellsV_len, List.length_take, Nat.min_eq_left (by omega)], ?_⟩
  rcases h.2 with h0 | ⟨b, o, rfl, hc⟩
  · left
    have h1 := h.1
    rw [h0] at h1
    have : hi = 0 := by simp at h1; omega
    subst this
    rfl
  · refine .inr ⟨b, o, rfl, fun j u hu => hc j u ?_⟩
    have := rows_part rowC6 l 0 hi (Nat.zero_le _) (by omega) j (u := u) (by rw [List.drop_zero]; exact hu)
    rw [Nat.zero_add] at this
    exact this
/-- A cell against the empty one, as the walk meets it. -/
theorem neq_E (x : Cl) (w : World) : (binOp .neq 86 (.agg #[.int .i32 x.r, .int .i32 x.m0, .int .i32 x.m1, .int .i32 x.m2, .int .i64 x.w, .int .i64 x.p.f.k, .int .u8 x.p.f.i, .int .u8 x.p.f.r, .int .u8 x.p.f.g, .int .u8 x.p.f.b, .int .i64 x.p.b.k, .int .u8 x.p.b.i, .int .u8 x.p.b.r, .int .u8 x.p.b.g, .int .u8 x.p.b.b, .int .u8 x.p.fl]) (.agg #[.int .i32 0, .int .i32 0, .int .i32 0, .int .i32 0, .int .i64 1, .int .i64 0, .int .u8 0, .int .u8 0, .int .u8 0, .int .u8 0, .int .i64 0, .int .u8 0, .int .u8 0, .int .u8 0, .int .u8 0, .int .u8 0])).run Tryz.prog w = .ok (.bool (!decide (x = eC))) w := neq_K x eC w
/-- What a function of layer 6 returns that returns a line. -/
def LinRet (w : World) (L : List Cl) (s : Bool) (e : Ending) (w' : World) : Prop :=
  ∃ a' n' c', e = .returned (.agg #[.slice a' n' c', .bool s]) ∧ Own w' w.heap.size 86 a' n' c' 16 (cellsV L) ∧ n' ≤ c' ∧ c' ≤ maxLen ∧ Kept [] w w'
theorem Own.caps {w : World} {base : Nat} {E : TypeId} {a : Option Addr} {n c size : Nat} {xs : List Value} (h : Own w base E a n c size xs) : n ≤ c ∧ c ≤ maxLen := by
  rcases h.2 with ⟨hv, h0⟩ | ⟨g, cap, cur, hv, _, _, h1, h2, _⟩
  · injection hv with _ e1 e2
    subst e1 e2
    exact ⟨Nat.le_refl _, Nat.zero_le _⟩
  · injection hv with _ _ e2
    subst e2
    exact ⟨h1, h2⟩
end Go.Proofs.YtnkddhmhjnhgcaaGreatDoor
