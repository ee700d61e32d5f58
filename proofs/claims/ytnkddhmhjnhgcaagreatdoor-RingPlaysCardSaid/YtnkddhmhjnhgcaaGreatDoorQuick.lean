/- Quick laws for drawn regions (from LinKn, for later stages; never beside LinKn): a cell's value by name; a slice made in place, its address and the world behind it variables; a call by its contract; orders that meet again. -/
import Derived.Test.YtnkddhmhjnhgcaaGreatDoorLinMem
import Derived.Shelf.Abstract
namespace Go.Proofs.YtnkddhmhjnhgcaaGreatDoor
open Go.RowKit
set_option linter.unusedVariables false
set_option maxRecDepth 100000

theorem LinIn.setSoft {w : World} {b : Nat} {a : Option Addr} {n c : Nat} {s : Bool} (h : LinIn w b a n c s) (s' : Bool) : LinIn (w.setCell ⟨b, 1, none⟩ (.bool s')) b a n c s' := by
  unfold LinIn at *
  have := heap_setAt w b 1 (.bool s') _ _ h
  simpa using this
/-- A cell's value; a slice of cells that is made in place: its address and the world behind it are variables. -/
def kV (c : Cl) : Value := .agg #[.int .i32 c.r, .int .i32 c.m0, .int .i32 c.m1, .int .i32 c.m2, .int .i64 c.w, .int .i64 c.p.f.k, .int .u8 c.p.f.i, .int .u8 c.p.f.r, .int .u8 c.p.f.g, .int .u8 c.p.f.b, .int .i64 c.p.b.k, .int .u8 c.p.b.i, .int .u8 c.p.b.r, .int .u8 c.p.b.g, .int .u8 c.p.b.b, .int .u8 c.p.fl]
theorem wp_bsC {o : Oper} {A : Act} {w : World} {K : Act → World → Prop} {Q : Exit → Act → World → Prop} (len : Nat) (parts : Array (Nat × Operand)) (ho : o.op = .buildSlice 34 len parts)
    (l : List Cl) (hl : l.length = len) (hsmall : ¬ len * 16 > 2 ^ 24) (hpos : ¬ len * 16 = 0)
    (hf : Instr.fill (fun i => some (i * 16, 16)) ((Array.range (len * 16)).map ((Value.agg #[.int .i32 0, .int .i32 0, .int .i32 0, .int .i32 0, .int .i64 0, .int .i64 0, .int .u8 0, .int .u8 0, .int .u8 0, .int .u8 0, .int .i64 0, .int .u8 0, .int .u8 0, .int .u8 0, .int .u8 0, .int .u8 0]).cells[· % (Value.agg #[.int .i32 0, .int .i32 0, .int .i32 0, .int .i32 0, .int .i64 0, .int .i64 0, .int .u8 0, .int .u8 0, .int .u8 0, .int .u8 0, .int .i64 0, .int .u8 0, .int .u8 0, .int .u8 0, .int .u8 0, .int .u8 0]).cells.size]!)) (parts.map fun (i, x) => (i, A.eval x)).toList = some (cellsV l).toArray)
    (h : ∀ g w', Rd w' (some ⟨g, 0, none⟩) len 16 (cellsV l) → Kept [] w w' → K (A.put o.dst (.slice (some ⟨g, 0, none⟩) len len)) w') : o.wp Tryz.prog A w K Q := by
  obtain ⟨i, hi, hz0, hz1, hz2⟩ := info_parts elCell.info
  refine wp_buildSlice (P := Tryz.prog) 34 86 len parts ho (cellsV l).toArray i _ Tryz.underlying34 hi hz0 (by rw [hz1]; exact hsmall) (by rw [hz1]; exact hpos) (by rw [hz1]; exact hf) ?_
  refine h _ _ ?_ ((Kept.refl [] w).alloc _)
  have hr := Rd.ofBlock rowC6 (l := l) (heap_alloc_new w (.cells (cellsV l).toArray 86)) rfl
  rw [hl] at hr
  exact hr
/-- A call whose contract is known. -/
theorem wp_fn {o : Oper} {A : Act} {w : World} {K : Act → World → Prop} {Q : Exit → Act → World → Prop} (f : FuncId) (ops : List Operand) (tys : Array TypeId) (ho : o.op = .call { callee := .value (.func f), args := ops.toArray, argTypes := tys })
    (hen : ∀ args w, (callFunc f args).run Tryz.prog w = .ok (.enter f args) w) (vs : List Value) (hv : ops.map A.eval = vs) {R : Value → World → Prop} (hc : Calls Tryz.prog f vs.toArray w fun e w' => ∃ v, e = .returned v ∧ R v w') (h : ∀ v w', R v w' → K (A.put o.dst v) w') : o.wp Tryz.prog A w K Q := by
  subst hv
  have hrun : (execOp A.eval o).run Tryz.prog w = .ok (.enter f (ops.map A.eval).toArray) w := by
    simp [execOp, ho, resolve, invoke, List.map_toArray, Act.eval, Deferred.ofValue, hen]
  unfold Oper.wp
  rw [hrun, Oper.upon_enter]
  refine hc.mono ?_
  rintro e w' ⟨v, rfl, hR⟩
  exact h v w' hR
theorem wp_fnK {o : Oper} {A : Act} {w : World} {K : Act → World → Prop} {Q : Exit → Act → World → Prop} (f : FuncId) (ops : List Operand) (tys : Array TypeId) (ho : o.op = .call { callee := .value (.func f), args := ops.toArray, argTypes := tys })
    (hen : ∀ args w, (callFunc f args).run Tryz.prog w = .ok (.enter f args) w) (vs : List Value) (hv : ops.map A.eval = vs) (x : Value) (hc : Calls Tryz.prog f vs.toArray w fun e w' => e = .returned x ∧ Kept [] w w') (h : ∀ w', Kept [] w w' → K (A.put o.dst x) w') : o.wp Tryz.prog A w K Q :=
  wp_fn f ops tys ho hen vs hv (R := fun v w' => v = x ∧ Kept [] w w') (hc.mono fun e w' he => ⟨x, he.1, rfl, he.2⟩) (fun v w' hR => by obtain ⟨rfl, hk⟩ := hR; exact h w' hk)
theorem wp_fnS {o : Oper} {A : Act} {w : World} {K : Act → World → Prop} {Q : Exit → Act → World → Prop} (f : FuncId) (ops : List Operand) (tys : Array TypeId) (ho : o.op = .call { callee := .value (.func f), args := ops.toArray, argTypes := tys })
    (hen : ∀ args w, (callFunc f args).run Tryz.prog w = .ok (.enter f args) w) (vs : List Value) (hv : ops.map A.eval = vs) (x : Value) (hc : Calls Tryz.prog f vs.toArray w fun e w' => e = .returned x ∧ w' = w) (h : K (A.put o.dst x) w) : o.wp Tryz.prog A w K Q :=
  wp_fn f ops tys ho hen vs hv (R := fun v w' => v = x ∧ w' = w) (hc.mono fun e w' he => ⟨x, he.1, rfl, he.2⟩) (fun v w' hR => by obtain ⟨rfl, rfl⟩ := hR; exact h)
theorem wp_fnL {o : Oper} {A : Act} {w : World} {K : Act → World → Prop} {Q : Exit → Act → World → Prop} (f : FuncId) (ops : List Operand) (tys : Array TypeId) (ho : o.op = .call { callee := .value (.func f), args := ops.toArray, argTypes := tys })
    (hen : ∀ args w, (callFunc f args).run Tryz.prog w = .ok (.enter f args) w) (vs : List Value) (hv : ops.map A.eval = vs) {l : List Cl} {s : Bool} (hc : Calls Tryz.prog f vs.toArray w (LinRet w l s)) (h : ∀ w' a n c, Own w' w.heap.size 86 a n c 16 (cellsV l) → Kept [] w w' → K (A.put o.dst (.agg #[.slice a n c, .bool s])) w') : o.wp Tryz.prog A w K Q :=
  wp_fn f ops tys ho hen vs hv (R := fun v w' => ∃ a n c, v = .agg #[.slice a n c, .bool s] ∧ Own w' w.heap.size 86 a n c 16 (cellsV l) ∧ Kept [] w w') (hc.mono fun e w' he => by obtain ⟨a, n, c, rfl, ho, _, _, hk⟩ := he; exact ⟨_, rfl, a, n, c, rfl, ho, hk⟩) (fun v w' hR => by obtain ⟨a, n, c, rfl, ho, hk⟩ := hR; exact h w' a n c ho hk)
theorem shareN2 {F : Nat → Nat → World → Prop} {G : Nat → Nat → World → Prop} {goal : Prop} (k : (∀ a b W, F a b W → G a b W) → goal) (h : ∀ a b W, F a b W → G a b W) : goal := k h
theorem shareN3 {F : Nat → Nat → Nat → World → Prop} {G : Nat → Nat → Nat → World → Prop} {goal : Prop} (k : (∀ a b c W, F a b c W → G a b c W) → goal) (h : ∀ a b c W, F a b c W → G a b c W) : goal := k h

end Go.Proofs.YtnkddhmhjnhgcaaGreatDoor
