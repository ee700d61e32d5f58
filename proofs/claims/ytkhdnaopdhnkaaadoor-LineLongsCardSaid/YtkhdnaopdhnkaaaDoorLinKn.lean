/- The examples of the chapter. -/
import Derived.Test.YtkhdnaopdhnkaaaDoorLinFn4
import Derived.Test.YtkhdnaopdhnkaaaDoorCelSt
import Derived.Shelf.Abstract
namespace Go.Proofs.YtkhdnaopdhnkaaaDoor
open Go.RowKit
set_option linter.unusedVariables false
set_option linter.unusedSimpArgs false

def nA : Cl := ⟨97, 0, 0, 0, 1, zeroP⟩
def nW : Cl := ⟨19968, 0, 0, 0, 2, zeroP⟩
def nR : Cl := ⟨0, 0, 0, 0, 1, ⟨zeroP.f, zeroP.b, 32⟩⟩
structure Kn6 (W : World) (b1 b2 b3 b4 b5 b6 b7 g7 : Nat) : Prop where
  c1 : CelIn W b1 nA
  c2 : CelIn W b2 nW
  c3 : CelIn W b3 zeroK
  c4 : CelIn W b4 eC
  c5 : CelIn W b5 nR
  l6 : LinIn W b6 none 0 0 false
  l7 : LinIn W b7 (some ⟨g7, 0, none⟩) 3 3 true
  r7 : Rd W (some ⟨g7, 0, none⟩) 3 16 (cellsV [nA, nW, zeroK])
theorem Kn6.kept {w w' : World} {b1 b2 b3 b4 b5 b6 b7 g7 : Nat} (k : Kn6 w b1 b2 b3 b4 b5 b6 b7 g7) (hk : Kept [] w w') : Kn6 w' b1 b2 b3 b4 b5 b6 b7 g7 :=
  ⟨k.c1.kept hk (by simp), k.c2.kept hk (by simp), k.c3.kept hk (by simp), k.c4.kept hk (by simp), k.c5.kept hk (by simp), k.l6.kept hk (by simp), k.l7.kept hk (by simp), k.r7.kept hk (by simp)⟩
structure On6 (W : World) (b8 g8 : Nat) : Prop where
  l8 : LinIn W b8 (some ⟨g8, 0, none⟩) 1 1 true
  r8 : Rd W (some ⟨g8, 0, none⟩) 1 16 (cellsV [nA])
theorem On6.kept {w w' : World} {b8 g8 : Nat} (k : On6 w b8 g8) (hk : Kept [] w w') : On6 w' b8 g8 := ⟨k.l8.kept hk (by simp), k.r8.kept hk (by simp)⟩
theorem LinIn.setSoft {w : World} {b : Nat} {a : Option Addr} {n c : Nat} {s : Bool} (h : LinIn w b a n c s) (s' : Bool) : LinIn (w.setCell ⟨b, 1, none⟩ (.bool s')) b a n c s' := by
  unfold LinIn at *
  have := heap_setAt w b 1 (.bool s') _ _ h
  simpa using this
theorem valid6_ask (l : List Cl) (v : Bool) (hv : validL l = v) (a : Option Addr) (n c : Nat) (s : Bool) (w : World) (ht : Tabs w) (hr : Rd w a n 16 (cellsV l)) (hn : n ≤ 2000) : Calls Tryd.prog 13 #[.agg #[.slice a n c, .bool s]] w fun e w' => e = .returned (.bool v) ∧ Kept [] w w' := by
  subst hv
  exact Valid6_any a n c l s w ht hr hn
theorem used6_ask (l : List Cl) (v : Int) (hv : (usedI l : Int) = v) (a : Option Addr) (n c : Nat) (s : Bool) (w : World) (hr : Rd w a n 16 (cellsV l)) (hn : n ≤ 2000) (h1 : n ≤ c) (h2 : c ≤ maxLen) : Calls Tryd.prog 20 #[.agg #[.slice a n c, .bool s]] w fun e w' => e = .returned (.int .i64 v) ∧ Kept [] w w' := by
  subst hv
  exact Used6_is a n c l s w hr hn h1 h2
theorem text6_ask (l : List Cl) (v : ByteArray) (hv : textsB (trimL l) = v) (a : Option Addr) (n c : Nat) (s : Bool) (w : World) (hr : Rd w a n 16 (cellsV l)) (hn : n ≤ 1000) (h1 : n ≤ c) (h2 : c ≤ maxLen) : Calls Tryd.prog 22 #[.agg #[.slice a n c, .bool s]] w fun e w' => e = .returned (.string v) ∧ Kept [] w w' := by
  subst hv
  exact Text6_any a n c l s w hr hn h1 h2
theorem equal6_ask (l : List Cl) (s : Bool) (l2 : List Cl) (s2 : Bool) (v : Bool) (hv : decide (s = s2 ∧ l = l2) = v) (a : Option Addr) (n c : Nat) (a2 : Option Addr) (n2 c2 : Nat) (w : World) (hr : Rd w a n 16 (cellsV l)) (hr2 : Rd w a2 n2 16 (cellsV l2)) (hn : n ≤ 2000) (hn2 : n2 ≤ 2000) : Calls Tryd.prog 24 #[.agg #[.slice a n c, .bool s], .agg #[.slice a2 n2 c2, .bool s2]] w fun e w' => e = .returned (.bool v) ∧ Kept [] w w' := by
  subst hv
  exact Equal6_any a n c l s a2 n2 c2 l2 s2 w hr hr2 hn hn2
theorem rsame6_ask (l : List Cl) (s : Bool) (l2 : List Cl) (s2 : Bool) (v : Bool) (hv : decide (s = s2 ∧ l = l2) = v) (a : Option Addr) (n c : Nat) (a2 : Option Addr) (n2 c2 : Nat) (w : World) (hr : Rd w a n 16 (cellsV l)) (hr2 : Rd w a2 n2 16 (cellsV l2)) (hn : n ≤ 1000000) : Calls Tryd.prog 25 #[.agg #[.slice a n c, .bool s], .agg #[.slice a2 n2 c2, .bool s2]] w fun e w' => e = .returned (.bool v) ∧ Kept [] w w' := by
  subst hv
  exact rSame6_any a n c s l a2 n2 c2 s2 l2 w hr hr2 hn
/-- A cell's value; a slice of cells that is made in place: its address and the world behind it are variables. -/
def kV (c : Cl) : Value := .agg #[.int .i32 c.r, .int .i32 c.m0, .int .i32 c.m1, .int .i32 c.m2, .int .i64 c.w, .int .i64 c.p.f.k, .int .u8 c.p.f.i, .int .u8 c.p.f.r, .int .u8 c.p.f.g, .int .u8 c.p.f.b, .int .i64 c.p.b.k, .int .u8 c.p.b.i, .int .u8 c.p.b.r, .int .u8 c.p.b.g, .int .u8 c.p.b.b, .int .u8 c.p.fl]
theorem wp_bsC {o : Oper} {A : Act} {w : World} {K : Act → World → Prop} {Q : Exit → Act → World → Prop} (len : Nat) (parts : Array (Nat × Operand)) (ho : o.op = .buildSlice 22 len parts)
    (l : List Cl) (hl : l.length = len) (hsmall : ¬ len * 16 > 2 ^ 24) (hpos : ¬ len * 16 = 0)
    (hf : Instr.fill (fun i => some (i * 16, 16)) ((Array.range (len * 16)).map ((Value.agg #[.int .i32 0, .int .i32 0, .int .i32 0, .int .i32 0, .int .i64 0, .int .i64 0, .int .u8 0, .int .u8 0, .int .u8 0, .int .u8 0, .int .i64 0, .int .u8 0, .int .u8 0, .int .u8 0, .int .u8 0, .int .u8 0]).cells[· % (Value.agg #[.int .i32 0, .int .i32 0, .int .i32 0, .int .i32 0, .int .i64 0, .int .i64 0, .int .u8 0, .int .u8 0, .int .u8 0, .int .u8 0, .int .i64 0, .int .u8 0, .int .u8 0, .int .u8 0, .int .u8 0, .int .u8 0]).cells.size]!)) (parts.map fun (i, x) => (i, A.eval x)).toList = some (cellsV l).toArray)
    (h : ∀ g w', Rd w' (some ⟨g, 0, none⟩) len 16 (cellsV l) → Kept [] w w' → K (A.put o.dst (.slice (some ⟨g, 0, none⟩) len len)) w') : o.wp Tryd.prog A w K Q := by
  obtain ⟨i, hi, hz0, hz1, hz2⟩ := info_parts elCell.info
  refine wp_buildSlice (P := Tryd.prog) 22 60 len parts ho (cellsV l).toArray i _ Tryd.underlying22 hi hz0 (by rw [hz1]; exact hsmall) (by rw [hz1]; exact hpos) (by rw [hz1]; exact hf) ?_
  refine h _ _ ?_ ((Kept.refl [] w).alloc _)
  have hr := Rd.ofBlock rowC6 (l := l) (heap_alloc_new w (.cells (cellsV l).toArray 60)) rfl
  rw [hl] at hr
  exact hr
/-- A call whose contract is known. -/
theorem wp_fn {o : Oper} {A : Act} {w : World} {K : Act → World → Prop} {Q : Exit → Act → World → Prop} (f : FuncId) (ops : List Operand) (tys : Array TypeId) (ho : o.op = .call { callee := .value (.func f), args := ops.toArray, argTypes := tys })
    (hen : ∀ args w, (callFunc f args).run Tryd.prog w = .ok (.enter f args) w) (vs : List Value) (hv : ops.map A.eval = vs) {R : Value → World → Prop} (hc : Calls Tryd.prog f vs.toArray w fun e w' => ∃ v, e = .returned v ∧ R v w') (h : ∀ v w', R v w' → K (A.put o.dst v) w') : o.wp Tryd.prog A w K Q := by
  subst hv
  have hrun : (execOp A.eval o).run Tryd.prog w = .ok (.enter f (ops.map A.eval).toArray) w := by
    simp [execOp, ho, resolve, invoke, List.map_toArray, Act.eval, Deferred.ofValue, hen]
  unfold Oper.wp
  rw [hrun, Oper.upon_enter]
  refine hc.mono ?_
  rintro e w' ⟨v, rfl, hR⟩
  exact h v w' hR
theorem wp_fnK {o : Oper} {A : Act} {w : World} {K : Act → World → Prop} {Q : Exit → Act → World → Prop} (f : FuncId) (ops : List Operand) (tys : Array TypeId) (ho : o.op = .call { callee := .value (.func f), args := ops.toArray, argTypes := tys })
    (hen : ∀ args w, (callFunc f args).run Tryd.prog w = .ok (.enter f args) w) (vs : List Value) (hv : ops.map A.eval = vs) (x : Value) (hc : Calls Tryd.prog f vs.toArray w fun e w' => e = .returned x ∧ Kept [] w w') (h : ∀ w', Kept [] w w' → K (A.put o.dst x) w') : o.wp Tryd.prog A w K Q :=
  wp_fn f ops tys ho hen vs hv (R := fun v w' => v = x ∧ Kept [] w w') (hc.mono fun e w' he => ⟨x, he.1, rfl, he.2⟩) (fun v w' hR => by obtain ⟨rfl, hk⟩ := hR; exact h w' hk)
theorem wp_fnS {o : Oper} {A : Act} {w : World} {K : Act → World → Prop} {Q : Exit → Act → World → Prop} (f : FuncId) (ops : List Operand) (tys : Array TypeId) (ho : o.op = .call { callee := .value (.func f), args := ops.toArray, argTypes := tys })
    (hen : ∀ args w, (callFunc f args).run Tryd.prog w = .ok (.enter f args) w) (vs : List Value) (hv : ops.map A.eval = vs) (x : Value) (hc : Calls Tryd.prog f vs.toArray w fun e w' => e = .returned x ∧ w' = w) (h : K (A.put o.dst x) w) : o.wp Tryd.prog A w K Q :=
  wp_fn f ops tys ho hen vs hv (R := fun v w' => v = x ∧ w' = w) (hc.mono fun e w' he => ⟨x, he.1, rfl, he.2⟩) (fun v w' hR => by obtain ⟨rfl, rfl⟩ := hR; exact h)
theorem wp_fnL {o : Oper} {A : Act} {w : World} {K : Act → World → Prop} {Q : Exit → Act → World → Prop} (f : FuncId) (ops : List Operand) (tys : Array TypeId) (ho : o.op = .call { callee := .value (.func f), args := ops.toArray, argTypes := tys })
    (hen : ∀ args w, (callFunc f args).run Tryd.prog w = .ok (.enter f args) w) (vs : List Value) (hv : ops.map A.eval = vs) {l : List Cl} {s : Bool} (hc : Calls Tryd.prog f vs.toArray w (LinRet w l s)) (h : ∀ w' a n c, Own w' w.heap.size 60 a n c 16 (cellsV l) → Kept [] w w' → K (A.put o.dst (.agg #[.slice a n c, .bool s])) w') : o.wp Tryd.prog A w K Q :=
  wp_fn f ops tys ho hen vs hv (R := fun v w' => ∃ a n c, v = .agg #[.slice a n c, .bool s] ∧ Own w' w.heap.size 60 a n c 16 (cellsV l) ∧ Kept [] w w') (hc.mono fun e w' he => by obtain ⟨a, n, c, rfl, ho, _, _, hk⟩ := he; exact ⟨_, rfl, a, n, c, rfl, ho, hk⟩) (fun v w' hR => by obtain ⟨a, n, c, rfl, ho, hk⟩ := hR; exact h w' a n c ho hk)
theorem shareN2 {F : Nat → Nat → World → Prop} {G : Nat → Nat → World → Prop} {goal : Prop} (k : (∀ a b W, F a b W → G a b W) → goal) (h : ∀ a b W, F a b W → G a b W) : goal := k h
theorem shareN3 {F : Nat → Nat → Nat → World → Prop} {G : Nat → Nat → Nat → World → Prop} {goal : Prop} (k : (∀ a b c W, F a b c W → G a b c W) → goal) (h : ∀ a b c W, F a b c W → G a b c W) : goal := k h

set_option maxHeartbeats 80000000 in
set_option maxRecDepth 100000 in
theorem known6_any : Known6Is := by
  intro w ht
  have ht0 := hide ht
  have hst := str6_neq ⟨#[32, 97]⟩
  clear ht
  go_enter Tryd.func9, Tryd.ntmps9
  obtain ⟨W1, hW1⟩ : ∃ z : World, z = (((w.alloc (.cells #[.int .i32 0, .int .i32 0, .int .i32 0, .int .i32 0, .int .i64 0, .int .i64 0, .int .u8 0, .int .u8 0, .int .u8 0, .int .u8 0, .int .i64 0, .int .u8 0, .int .u8 0, .int .u8 0, .int .u8 0, .int .u8 0] 60)).alloc (.cells #[.int .i32 0, .int .i32 0, .int .i32 0, .int .i32 0, .int .i64 0, .int .i64 0, .int .u8 0, .int .u8 0, .int .u8 0, .int .u8 0, .int .i64 0, .int .u8 0, .int .u8 0, .int .u8 0, .int .u8 0, .int .u8 0] 60)).alloc (.cells #[.int .i32 0, .int .i32 0, .int .i32 0, .int .i32 0, .int .i64 0, .int .i64 0, .int .u8 0, .int .u8 0, .int .u8 0, .int .u8 0, .int .i64 0, .int .u8 0, .int .u8 0, .int .u8 0, .int .u8 0, .int .u8 0] 60)).alloc (.cells #[.int .i32 0, .int .i32 0, .int .i32 0, .int .i32 0, .int .i64 0, .int .i64 0, .int .u8 0, .int .u8 0, .int .u8 0, .int .u8 0, .int .i64 0, .int .u8 0, .int .u8 0, .int .u8 0, .int .u8 0, .int .u8 0] 60) := ⟨_, rfl⟩
  have hk1 : Kept [] w W1 := by rw [hW1]; exact ((((Kept.refl [] w).alloc _).alloc _).alloc _).alloc _
  have z1 : CelIn W1 w.heap.size zeroK := by rw [hW1]; exact CelIn.kept (heap_alloc_new w _) ((((Kept.refl [] _).alloc _).alloc _).alloc _) (by simp)
  have z2 : CelIn W1 (w.heap.size + 1) zeroK := by rw [hW1]; exact CelIn.kept (heap_new_at (by simp)) (((Kept.refl [] _).alloc _).alloc _) (by simp)
  have z3 : CelIn W1 (w.heap.size + 1 + 1) zeroK := by rw [hW1]; exact CelIn.kept (heap_new_at (by simp)) ((Kept.refl [] _).alloc _) (by simp)
  have z4 : CelIn W1 (w.heap.size + 1 + 1 + 1) zeroK := by rw [hW1]; exact heap_new_at (by simp)
  go_upto_region 2 with (first
    | (refine wpList_store_cel rfl rfl rfl (w.heap.size + 1 + 1 + 1) rfl z4d eC rfl ?_; intro W5 h4 j5)
    | (refine wpList_store_cel rfl rfl rfl (w.heap.size + 1 + 1) rfl z3c zeroK rfl ?_; intro W4 h3 j4; have z4d := z4c.kept j4 (by simp <;> omega))
    | (refine wpList_store_cel rfl rfl rfl (w.heap.size + 1) rfl z2b nW rfl ?_; intro W3 h2 j3; have z3c := z3b.kept j3 (by simp <;> omega); have z4c := z4b.kept j3 (by simp <;> omega))
    | (rw [← hW1]; refine wpList_store_cel rfl rfl rfl w.heap.size rfl z1 nA rfl ?_; intro W2 h1 j2; have z2b := z2.kept j2 (by simp <;> omega); have z3b := z3.kept j2 (by simp <;> omega); have z4b := z4.kept j2 (by simp <;> omega)))
  have kk2 : Kept [] w W2 := hk1.trans j2 (by intro z hz; simp at hz; omega)
  have kk3 : Kept [] w W3 := kk2.trans j3 (by intro z hz; simp at hz; omega)
  have kk4 : Kept [] w W4 := kk3.trans j4 (by intro z hz; simp at hz; omega)
  have kk5 : Kept [] w W5 := kk4.trans j5 (by intro z hz; simp at hz; omega)
  have c1 := ((h1.kept j3 (by simp <;> omega)).kept j4 (by simp <;> omega)).kept j5 (by simp <;> omega)
  have c2 := (h2.kept j4 (by simp <;> omega)).kept j5 (by simp <;> omega)
  have c3 := h3.kept j5 (by simp <;> omega)
  have c4 := h4
  clear hW1 hk1 z1 z2 z3 z4 z2b z3b z4b z3c z4c z4d h1 h2 h3 h4 j2 j3 j4 j5 kk2 kk3 kk4
  generalize hb1 : w.heap.size = b1 at *
  generalize hb2 : b1 + 1 = b2 at *
  generalize hb3 : b2 + 1 = b3 at *
  generalize hb4 : b3 + 1 = b4 at *
  clear hb1 hb2 hb3 hb4
  have z5 := CelIn.new W5 zeroK
  go_upto_region 3 with (refine wpList_store_cel rfl rfl rfl W5.heap.size rfl z5 nR rfl ?_; intro W6 h5 j6)
  have hk6 : Kept [] W5 W6 := ((Kept.refl [] W5).alloc _).trans j6 (by intro z hz; simp at hz; omega)
  have c1 := c1.kept hk6 (by simp)
  have c2 := c2.kept hk6 (by simp)
  have c3 := c3.kept hk6 (by simp)
  have c4 := c4.kept hk6 (by simp)
  have kk6 := kk5.trans hk6 (by simp)
  clear z5 j6 hk6 kk5
  generalize W5.heap.size = b5 at *
  go_upto_region 4 with (refine wpList_store_lin rfl rfl rfl W6.heap.size rfl (LinIn.new W6 none 0 0 false) none 0 0 false rfl ?_; intro W7 h6 j7)
  have hk7 : Kept [] W6 W7 := ((Kept.refl [] W6).alloc _).trans j7 (by intro z hz; simp at hz; omega)
  have c1 := c1.kept hk7 (by simp)
  have c2 := c2.kept hk7 (by simp)
  have c3 := c3.kept hk7 (by simp)
  have c4 := c4.kept hk7 (by simp)
  have c5 := h5.kept hk7 (by simp)
  have kk7 := kk6.trans hk7 (by simp)
  clear j7 hk7 kk6 h5
  generalize W6.heap.size = b6 at *
  have r1 := c1.range
  have r2 := c2.range
  have r3 := c3.range
  go_upto_region 5 with (first
    | (refine wpList_load_cel rfl rfl b1 0 rfl r1 ?_)
    | (refine wpList_load_cel rfl rfl b2 0 rfl r2 ?_)
    | (refine wpList_load_cel rfl rfl b3 0 rfl r3 ?_))
  have hr7 : Rd (W7.alloc (.cells #[.int .i32 nA.r, .int .i32 nA.m0, .int .i32 nA.m1, .int .i32 nA.m2, .int .i64 nA.w, .int .i64 nA.p.f.k, .int .u8 nA.p.f.i, .int .u8 nA.p.f.r, .int .u8 nA.p.f.g, .int .u8 nA.p.f.b, .int .i64 nA.p.b.k, .int .u8 nA.p.b.i, .int .u8 nA.p.b.r, .int .u8 nA.p.b.g, .int .u8 nA.p.b.b, .int .u8 nA.p.fl, .int .i32 nW.r, .int .i32 nW.m0, .int .i32 nW.m1, .int .i32 nW.m2, .int .i64 nW.w, .int .i64 nW.p.f.k, .int .u8 nW.p.f.i, .int .u8 nW.p.f.r, .int .u8 nW.p.f.g, .int .u8 nW.p.f.b, .int .i64 nW.p.b.k, .int .u8 nW.p.b.i, .int .u8 nW.p.b.r, .int .u8 nW.p.b.g, .int .u8 nW.p.b.b, .int .u8 nW.p.fl, .int .i32 zeroK.r, .int .i32 zeroK.m0, .int .i32 zeroK.m1, .int .i32 zeroK.m2, .int .i64 zeroK.w, .int .i64 zeroK.p.f.k, .int .u8 zeroK.p.f.i, .int .u8 zeroK.p.f.r, .int .u8 zeroK.p.f.g, .int .u8 zeroK.p.f.b, .int .i64 zeroK.p.b.k, .int .u8 zeroK.p.b.i, .int .u8 zeroK.p.b.r, .int .u8 zeroK.p.b.g, .int .u8 zeroK.p.b.b, .int .u8 zeroK.p.fl] 60)) (some ⟨W7.heap.size, 0, none⟩) 3 16 (cellsV [nA, nW, zeroK]) := Rd.blockC (heap_new_at (w := W7) (by simp)) rfl
  have hk8 : Kept [] W7 (W7.alloc (.cells #[.int .i32 nA.r, .int .i32 nA.m0, .int .i32 nA.m1, .int .i32 nA.m2, .int .i64 nA.w, .int .i64 nA.p.f.k, .int .u8 nA.p.f.i, .int .u8 nA.p.f.r, .int .u8 nA.p.f.g, .int .u8 nA.p.f.b, .int .i64 nA.p.b.k, .int .u8 nA.p.b.i, .int .u8 nA.p.b.r, .int .u8 nA.p.b.g, .int .u8 nA.p.b.b, .int .u8 nA.p.fl, .int .i32 nW.r, .int .i32 nW.m0, .int .i32 nW.m1, .int .i32 nW.m2, .int .i64 nW.w, .int .i64 nW.p.f.k, .int .u8 nW.p.f.i, .int .u8 nW.p.f.r, .int .u8 nW.p.f.g, .int .u8 nW.p.f.b, .int .i64 nW.p.b.k, .int .u8 nW.p.b.i, .int .u8 nW.p.b.r, .int .u8 nW.p.b.g, .int .u8 nW.p.b.b, .int .u8 nW.p.fl, .int .i32 zeroK.r, .int .i32 zeroK.m0, .int .i32 zeroK.m1, .int .i32 zeroK.m2, .int .i64 zeroK.w, .int .i64 zeroK.p.f.k, .int .u8 zeroK.p.f.i, .int .u8 zeroK.p.f.r, .int .u8 zeroK.p.f.g, .int .u8 zeroK.p.f.b, .int .i64 zeroK.p.b.k, .int .u8 zeroK.p.b.i, .int .u8 zeroK.p.b.r, .int .u8 zeroK.p.b.g, .int .u8 zeroK.p.b.b, .int .u8 zeroK.p.fl] 60)) := (Kept.refl [] W7).alloc _
  refine (hard_any _ _ _ _).mono ?_
  rintro e W9 ⟨rfl, hj9⟩
  have hk9 := hk8.trans hj9 (by simp)
  have hr9 := hr7.kept hj9 (by simp)
  clear hk8 hj9 hr7 r1 r2 r3
  generalize W7.heap.size = g7 at *
  go_upto_region 5 with (refine wpList_store_lin rfl rfl rfl W9.heap.size rfl (LinIn.new W9 none 0 0 false) (some ⟨g7, 0, none⟩) 3 3 false rfl ?_; intro W10 h7 j10)
  have hk10 : Kept [] W9 W10 := ((Kept.refl [] W9).alloc _).trans j10 (by intro z hz; simp at hz; omega)
  have hk710 := hk9.trans hk10 (by simp)
  obtain ⟨q0, q1⟩ := h7.at
  obtain ⟨f0, f1⟩ := h7.froz
  have hlt7 : W7.heap.size ≤ W9.heap.size := hk9.size
  go_upto_region 6 with fail
  have h8 := h7.setSoft true
  have hk12 : Kept [] W7 (W10.setCell ⟨W9.heap.size, 1, none⟩ (.bool true)) := hk710.setCell (.inr hlt7) _
  have hk912 : Kept [] W9 (W10.setCell ⟨W9.heap.size, 1, none⟩ (.bool true)) := hk10.setCell (.inr (Nat.le_refl _)) _
  have hN12 := hide (Kn6.mk (c1.kept hk12 (by simp)) (c2.kept hk12 (by simp)) (c3.kept hk12 (by simp)) (c4.kept hk12 (by simp)) (c5.kept hk12 (by simp)) (h6.kept hk12 (by simp)) h8 (hr9.kept hk912 (by simp)))
  have hK12 := hide (kk7.trans hk12 (by simp))
  clear q0 q1 f0 f1 hk9 hk10 hk710 hlt7 h7 h8 hk12 hk912 j10 c1 c2 c3 c4 c5 h6 hr9 kk7
  generalize W10.setCell ⟨W9.heap.size, 1, none⟩ (.bool true) = W12 at *
  generalize W9.heap.size = b7 at *
  refine wp_region_held_drew (S := (fun w' => (Kn6 w' b1 b2 b3 b4 b5 b6 b7 g7))) (by as_aux_lemma => kernel_rfl) ?_ (fun hHeld => ?_)
  · (try dsimp only); (exact hN12.out.kept (Kept.refl [] _).drew)
  refine wpAnyH_take (i := 0) (v := kV eC) rfl (by as_aux_lemma => kernel_rfl) (by as_aux_lemma => kernel_rfl) (by as_aux_lemma => kernel_rfl) (fun _ _ _ h => h) (yieldsIf_load_mid (by rfl) 60 _ rfl b4 0 rfl (kcL eC) _ (fun _ h => h.c4.range) Tryd.underlying60 rfl (by as_aux_lemma => kernel_rfl)) (by assumption) ?_
  try simp only [Act.put, List.getElem_toArray, List.getElem_cons_succ, List.getElem_cons_zero, List.setIfInBounds_toArray, List.set_cons_zero, List.set_cons_succ]
  refine wpAnyH_take (i := 1) (v := kV eC) rfl (by as_aux_lemma => kernel_rfl) (by as_aux_lemma => kernel_rfl) (by as_aux_lemma => kernel_rfl) (fun _ _ _ h => h) (yieldsIf_load_mid (by rfl) 60 _ rfl b4 0 rfl (kcL eC) _ (fun _ h => h.c4.range) Tryd.underlying60 rfl (by as_aux_lemma => kernel_rfl)) (by assumption) ?_
  try simp only [Act.put, List.getElem_toArray, List.getElem_cons_succ, List.getElem_cons_zero, List.setIfInBounds_toArray, List.set_cons_zero, List.set_cons_succ]
  refine wpAnyH_ready (rs := [2]) (by as_aux_lemma => kernel_rfl) (by simp) ?_
  refine AllReadyH.cons rfl (fun K hK => ?_) AllReadyH.nil
  rw [if_pos (by rfl)]
  refine wp_bsC 2 _ rfl [eC, eC] rfl (by decide) (by decide) (by as_aux_lemma => kernel_rfl) ?_
  intro g101 V101 rr101 jj101
  refine hK.out _ _ ?_ (fun hHeld => ?_)
  · (try dsimp only); (exact hHeld.kept jj101)
  clear hK K
  try simp only [Act.put, List.getElem_toArray, List.getElem_cons_succ, List.getElem_cons_zero, List.setIfInBounds_toArray, List.set_cons_zero, List.set_cons_succ]
  have s2_101 := hide rr101
  have hK101 := hide ((hK12.out.drew).trans jj101 (by simp))
  refine wpAnyH_ready (rs := [3]) (by as_aux_lemma => kernel_rfl) (by simp) ?_
  refine AllReadyH.cons rfl (fun K hK => ?_) AllReadyH.nil
  rw [if_pos (by rfl)]
  refine wp_fnK _ _ _ rfl (enters_of Tryd.func37 (by as_aux_lemma => kernel_rfl) rfl) _ rfl _ (hard_any _ _ _ _) ?_
  intro V102 hj102
  refine hK.out _ _ ?_ (fun hHeld => ?_)
  · (try dsimp only); (exact hHeld.kept hj102)
  clear hK K
  try simp only [Act.put, List.getElem_toArray, List.getElem_cons_succ, List.getElem_cons_zero, List.setIfInBounds_toArray, List.set_cons_zero, List.set_cons_succ]
  have hK102 := hide ((hK101.out).trans hj102 (by simp))
  have s2_102 := hide (Rd.kept (s2_101.out) hj102 (by simp))
  refine wpAnyH_ready (rs := [4]) (by as_aux_lemma => kernel_rfl) (by simp) ?_
  refine AllReadyH.cons rfl (fun K hK => ?_) AllReadyH.nil
  rw [if_pos (by rfl)]
  refine wp_fnK _ _ _ rfl (enters_of Tryd.func11 (by as_aux_lemma => kernel_rfl) rfl) _ rfl _ (news_ask New6_any 2 _ 2 2 false [eC, eC] 0 true _ (s2_102.out) (by decide +kernel)) ?_
  intro V103 hj103
  refine hK.out _ _ ?_ (fun hHeld => ?_)
  · (try dsimp only); (exact hHeld.kept hj103)
  clear hK K
  try simp only [Act.put, List.getElem_toArray, List.getElem_cons_succ, List.getElem_cons_zero, List.setIfInBounds_toArray, List.set_cons_zero, List.set_cons_succ]
  have hK103 := hide ((hK102.out).trans hj103 (by simp))
  refine wpAnyH_take (i := 5) (v := ?_) rfl (by as_aux_lemma => kernel_rfl) (by as_aux_lemma => kernel_rfl) (by as_aux_lemma => kernel_rfl) (fun _ _ _ h => h) (Or.inl ⟨by rfl, ?_⟩) (by assumption) ?_
  rotate_left
  · (intro wq hSw; (try dsimp only at hSw); go_simp; try with_reducible rfl)
  try simp only [Act.put, List.getElem_toArray, List.getElem_cons_succ, List.getElem_cons_zero, List.setIfInBounds_toArray, List.set_cons_zero, List.set_cons_succ]
  refine wpAnyH_take (i := 6) (v := ?_) rfl (by as_aux_lemma => kernel_rfl) (by as_aux_lemma => kernel_rfl) (by as_aux_lemma => kernel_rfl) (fun _ _ _ h => h) (Or.inl ⟨by rfl, ?_⟩) (by assumption) ?_
  rotate_left
  · (intro wq hSw; (try dsimp only at hSw); go_simp; try with_reducible rfl)
  try simp only [Act.put, List.getElem_toArray, List.getElem_cons_succ, List.getElem_cons_zero, List.setIfInBounds_toArray, List.set_cons_zero, List.set_cons_succ]
  refine wpAnyH_take (i := 7) (v := .agg #[.slice none 0 0, .bool false]) rfl (by as_aux_lemma => kernel_rfl) (by as_aux_lemma => kernel_rfl) (by as_aux_lemma => kernel_rfl) (fun _ _ _ h => h) (yieldsIf_load_mid (by rfl) 27 _ rfl b6 0 rfl (linL none 0 0 false) _ (fun _ h => h.l6.range) Tryd.underlying27 rfl (by as_aux_lemma => kernel_rfl)) (by assumption) ?_
  try simp only [Act.put, List.getElem_toArray, List.getElem_cons_succ, List.getElem_cons_zero, List.setIfInBounds_toArray, List.set_cons_zero, List.set_cons_succ]
  refine wpAnyH_ready (rs := [8]) (by as_aux_lemma => kernel_rfl) (by simp) ?_
  refine AllReadyH.cons rfl (fun K hK => ?_) AllReadyH.nil
  rw [if_pos (by rfl)]
  refine wp_fnK _ _ _ rfl (enters_of Tryd.func11 (by as_aux_lemma => kernel_rfl) rfl) _ rfl _ (news_ask New6_any 1001 _ 0 0 false [] 2 true _ (Rd.nil _ _ _) (by decide +kernel)) ?_
  intro V104 hj104
  refine hK.out _ _ ?_ (fun hHeld => ?_)
  · (try dsimp only); (exact hHeld.kept hj104)
  clear hK K
  try simp only [Act.put, List.getElem_toArray, List.getElem_cons_succ, List.getElem_cons_zero, List.setIfInBounds_toArray, List.set_cons_zero, List.set_cons_succ]
  have hK104 := hide ((hK103.out).trans hj104 (by simp))
  refine wpAnyH_take (i := 9) (v := ?_) rfl (by as_aux_lemma => kernel_rfl) (by as_aux_lemma => kernel_rfl) (by as_aux_lemma => kernel_rfl) (fun _ _ _ h => h) (Or.inl ⟨by rfl, ?_⟩) (by assumption) ?_
  rotate_left
  · (intro wq hSw; (try dsimp only at hSw); go_simp; try with_reducible rfl)
  try simp only [Act.put, List.getElem_toArray, List.getElem_cons_succ, List.getElem_cons_zero, List.setIfInBounds_toArray, List.set_cons_zero, List.set_cons_succ]
  refine wpAnyH_take (i := 10) (v := ?_) rfl (by as_aux_lemma => kernel_rfl) (by as_aux_lemma => kernel_rfl) (by as_aux_lemma => kernel_rfl) (fun _ _ _ h => h) (Or.inl ⟨by rfl, ?_⟩) (by assumption) ?_
  rotate_left
  · (intro wq hSw; (try dsimp only at hSw); go_simp; try with_reducible rfl)
  try simp only [Act.put, List.getElem_toArray, List.getElem_cons_succ, List.getElem_cons_zero, List.setIfInBounds_toArray, List.set_cons_zero, List.set_cons_succ]
  refine wpAnyH_take (i := 11) (v := ?_) rfl (by as_aux_lemma => kernel_rfl) (by as_aux_lemma => kernel_rfl) (by as_aux_lemma => kernel_rfl) (fun _ _ _ h => h) (Or.inl ⟨by rfl, ?_⟩) (by assumption) ?_
  rotate_left
  · (intro wq hSw; (try dsimp only at hSw); go_simp; try with_reducible rfl)
  try simp only [Act.put, List.getElem_toArray, List.getElem_cons_succ, List.getElem_cons_zero, List.setIfInBounds_toArray, List.set_cons_zero, List.set_cons_succ]
  refine wpAnyH_take (i := 12) (v := kV nA) rfl (by as_aux_lemma => kernel_rfl) (by as_aux_lemma => kernel_rfl) (by as_aux_lemma => kernel_rfl) (fun _ _ _ h => h) (yieldsIf_load_mid (by rfl) 60 _ rfl b1 0 rfl (kcL nA) _ (fun _ h => h.c1.range) Tryd.underlying60 rfl (by as_aux_lemma => kernel_rfl)) (by assumption) ?_
  try simp only [Act.put, List.getElem_toArray, List.getElem_cons_succ, List.getElem_cons_zero, List.setIfInBounds_toArray, List.set_cons_zero, List.set_cons_succ]
  refine wpAnyH_take (i := 13) (v := kV nW) rfl (by as_aux_lemma => kernel_rfl) (by as_aux_lemma => kernel_rfl) (by as_aux_lemma => kernel_rfl) (fun _ _ _ h => h) (yieldsIf_load_mid (by rfl) 60 _ rfl b2 0 rfl (kcL nW) _ (fun _ h => h.c2.range) Tryd.underlying60 rfl (by as_aux_lemma => kernel_rfl)) (by assumption) ?_
  try simp only [Act.put, List.getElem_toArray, List.getElem_cons_succ, List.getElem_cons_zero, List.setIfInBounds_toArray, List.set_cons_zero, List.set_cons_succ]
  refine wpAnyH_take (i := 14) (v := kV zeroK) rfl (by as_aux_lemma => kernel_rfl) (by as_aux_lemma => kernel_rfl) (by as_aux_lemma => kernel_rfl) (fun _ _ _ h => h) (yieldsIf_load_mid (by rfl) 60 _ rfl b3 0 rfl (kcL zeroK) _ (fun _ h => h.c3.range) Tryd.underlying60 rfl (by as_aux_lemma => kernel_rfl)) (by assumption) ?_
  try simp only [Act.put, List.getElem_toArray, List.getElem_cons_succ, List.getElem_cons_zero, List.setIfInBounds_toArray, List.set_cons_zero, List.set_cons_succ]
  refine wpAnyH_take (i := 17) (v := .agg #[.slice (some ⟨g7, 0, none⟩) 3 3, .bool true]) rfl (by as_aux_lemma => kernel_rfl) (by as_aux_lemma => kernel_rfl) (by as_aux_lemma => kernel_rfl) (fun _ _ _ h => h) (yieldsIf_load_mid (by rfl) 27 _ rfl b7 0 rfl (linL (some ⟨g7, 0, none⟩) 3 3 true) _ (fun _ h => h.l7.range) Tryd.underlying27 rfl (by as_aux_lemma => kernel_rfl)) (by assumption) ?_
  try simp only [Act.put, List.getElem_toArray, List.getElem_cons_succ, List.getElem_cons_zero, List.setIfInBounds_toArray, List.set_cons_zero, List.set_cons_succ]
  refine wpAnyH_ready (rs := [15]) (by as_aux_lemma => kernel_rfl) (by simp) ?_
  refine AllReadyH.cons rfl (fun K hK => ?_) AllReadyH.nil
  rw [if_pos (by rfl)]
  refine wp_bsC 3 _ rfl [nA, nW, zeroK] rfl (by decide) (by decide) (by as_aux_lemma => kernel_rfl) ?_
  intro g105 V105 rr105 jj105
  refine hK.out _ _ ?_ (fun hHeld => ?_)
  · (try dsimp only); (exact hHeld.kept jj105)
  clear hK K
  try simp only [Act.put, List.getElem_toArray, List.getElem_cons_succ, List.getElem_cons_zero, List.setIfInBounds_toArray, List.set_cons_zero, List.set_cons_succ]
  have s15_105 := hide rr105
  have hK105 := hide ((hK104.out).trans jj105 (by simp))
  refine wpAnyH_ready (rs := [16]) (by as_aux_lemma => kernel_rfl) (by simp) ?_
  refine AllReadyH.cons rfl (fun K hK => ?_) AllReadyH.nil
  rw [if_pos (by rfl)]
  refine wp_fnS _ _ _ rfl (enters_of Tryd.func38 (by as_aux_lemma => kernel_rfl) rfl) _ rfl _ (list6_any _ _ _ _) ?_
  refine hK.out _ _ ?_ (fun hHeld => ?_)
  · (try dsimp only); (exact hHeld)
  clear hK K
  try simp only [Act.put, List.getElem_toArray, List.getElem_cons_succ, List.getElem_cons_zero, List.setIfInBounds_toArray, List.set_cons_zero, List.set_cons_succ]
  refine wpAnyH_ready (rs := [18]) (by as_aux_lemma => kernel_rfl) (by simp) ?_
  refine AllReadyH.cons rfl (fun K hK => ?_) AllReadyH.nil
  rw [if_pos (by rfl)]
  refine wp_fnK _ _ _ rfl (enters_of Tryd.func15 (by as_aux_lemma => kernel_rfl) rfl) _ rfl _ (of6_ask Of6_any _ 3 3 [nA, nW, zeroK] true _ 3 3 true [nA, nW, zeroK] 0 true _ (ht0.out.kept (hK105.out)) (s15_105.out) (by decide) (Nat.le_refl _) (by decide) (hHeld.r7) (by decide +kernel)) ?_
  intro V106 hj106
  refine hK.out _ _ ?_ (fun hHeld => ?_)
  · (try dsimp only); (exact hHeld.kept hj106)
  clear hK K
  try simp only [Act.put, List.getElem_toArray, List.getElem_cons_succ, List.getElem_cons_zero, List.setIfInBounds_toArray, List.set_cons_zero, List.set_cons_succ]
  have hK106 := hide ((hK105.out).trans hj106 (by simp))
  refine wpAnyH_take (i := 19) (v := ?_) rfl (by as_aux_lemma => kernel_rfl) (by as_aux_lemma => kernel_rfl) (by as_aux_lemma => kernel_rfl) (fun _ _ _ h => h) (Or.inl ⟨by rfl, ?_⟩) (by assumption) ?_
  rotate_left
  · (intro wq hSw; (try dsimp only at hSw); go_simp; try with_reducible rfl)
  try simp only [Act.put, List.getElem_toArray, List.getElem_cons_succ, List.getElem_cons_zero, List.setIfInBounds_toArray, List.set_cons_zero, List.set_cons_succ]
  refine wpAnyH_take (i := 20) (v := ?_) rfl (by as_aux_lemma => kernel_rfl) (by as_aux_lemma => kernel_rfl) (by as_aux_lemma => kernel_rfl) (fun _ _ _ h => h) (Or.inl ⟨by rfl, ?_⟩) (by assumption) ?_
  rotate_left
  · (intro wq hSw; (try dsimp only at hSw); go_simp; try with_reducible rfl)
  try simp only [Act.put, List.getElem_toArray, List.getElem_cons_succ, List.getElem_cons_zero, List.setIfInBounds_toArray, List.set_cons_zero, List.set_cons_succ]
  refine wpAnyH_take (i := 21) (v := ?_) rfl (by as_aux_lemma => kernel_rfl) (by as_aux_lemma => kernel_rfl) (by as_aux_lemma => kernel_rfl) (fun _ _ _ h => h) (Or.inl ⟨by rfl, ?_⟩) (by assumption) ?_
  rotate_left
  · (intro wq hSw; (try dsimp only at hSw); go_simp; try with_reducible rfl)
  try simp only [Act.put, List.getElem_toArray, List.getElem_cons_succ, List.getElem_cons_zero, List.setIfInBounds_toArray, List.set_cons_zero, List.set_cons_succ]
  refine wpAnyH_take (i := 22) (v := kV nA) rfl (by as_aux_lemma => kernel_rfl) (by as_aux_lemma => kernel_rfl) (by as_aux_lemma => kernel_rfl) (fun _ _ _ h => h) (yieldsIf_load_mid (by rfl) 60 _ rfl b1 0 rfl (kcL nA) _ (fun _ h => h.c1.range) Tryd.underlying60 rfl (by as_aux_lemma => kernel_rfl)) (by assumption) ?_
  try simp only [Act.put, List.getElem_toArray, List.getElem_cons_succ, List.getElem_cons_zero, List.setIfInBounds_toArray, List.set_cons_zero, List.set_cons_succ]
  refine wpAnyH_take (i := 23) (v := kV nW) rfl (by as_aux_lemma => kernel_rfl) (by as_aux_lemma => kernel_rfl) (by as_aux_lemma => kernel_rfl) (fun _ _ _ h => h) (yieldsIf_load_mid (by rfl) 60 _ rfl b2 0 rfl (kcL nW) _ (fun _ h => h.c2.range) Tryd.underlying60 rfl (by as_aux_lemma => kernel_rfl)) (by assumption) ?_
  try simp only [Act.put, List.getElem_toArray, List.getElem_cons_succ, List.getElem_cons_zero, List.setIfInBounds_toArray, List.set_cons_zero, List.set_cons_succ]
  refine wpAnyH_take (i := 26) (v := .agg #[.slice none 0 0, .bool false]) rfl (by as_aux_lemma => kernel_rfl) (by as_aux_lemma => kernel_rfl) (by as_aux_lemma => kernel_rfl) (fun _ _ _ h => h) (yieldsIf_load_mid (by rfl) 27 _ rfl b6 0 rfl (linL none 0 0 false) _ (fun _ h => h.l6.range) Tryd.underlying27 rfl (by as_aux_lemma => kernel_rfl)) (by assumption) ?_
  try simp only [Act.put, List.getElem_toArray, List.getElem_cons_succ, List.getElem_cons_zero, List.setIfInBounds_toArray, List.set_cons_zero, List.set_cons_succ]
  refine wpAnyH_ready (rs := [24]) (by as_aux_lemma => kernel_rfl) (by simp) ?_
  refine AllReadyH.cons rfl (fun K hK => ?_) AllReadyH.nil
  rw [if_pos (by rfl)]
  refine wp_bsC 2 _ rfl [nA, nW] rfl (by decide) (by decide) (by as_aux_lemma => kernel_rfl) ?_
  intro g107 V107 rr107 jj107
  refine hK.out _ _ ?_ (fun hHeld => ?_)
  · (try dsimp only); (exact hHeld.kept jj107)
  clear hK K
  try simp only [Act.put, List.getElem_toArray, List.getElem_cons_succ, List.getElem_cons_zero, List.setIfInBounds_toArray, List.set_cons_zero, List.set_cons_succ]
  have s24_107 := hide rr107
  have hK107 := hide ((hK106.out).trans jj107 (by simp))
  refine wpAnyH_ready (rs := [25]) (by as_aux_lemma => kernel_rfl) (by simp) ?_
  refine AllReadyH.cons rfl (fun K hK => ?_) AllReadyH.nil
  rw [if_pos (by rfl)]
  refine wp_fnS _ _ _ rfl (enters_of Tryd.func38 (by as_aux_lemma => kernel_rfl) rfl) _ rfl _ (list6_any _ _ _ _) ?_
  refine hK.out _ _ ?_ (fun hHeld => ?_)
  · (try dsimp only); (exact hHeld)
  clear hK K
  try simp only [Act.put, List.getElem_toArray, List.getElem_cons_succ, List.getElem_cons_zero, List.setIfInBounds_toArray, List.set_cons_zero, List.set_cons_succ]
  refine wpAnyH_ready (rs := [27]) (by as_aux_lemma => kernel_rfl) (by simp) ?_
  refine AllReadyH.cons rfl (fun K hK => ?_) AllReadyH.nil
  rw [if_pos (by rfl)]
  refine wp_fnK _ _ _ rfl (enters_of Tryd.func15 (by as_aux_lemma => kernel_rfl) rfl) _ rfl _ (of6_ask Of6_any _ 2 2 [nA, nW] false _ 0 0 false [] 2 true _ (ht0.out.kept (hK107.out)) (s24_107.out) (by decide) (Nat.le_refl _) (by decide) (Rd.nil _ _ _) (by decide +kernel)) ?_
  intro V108 hj108
  refine hK.out _ _ ?_ (fun hHeld => ?_)
  · (try dsimp only); (exact hHeld.kept hj108)
  clear hK K
  try simp only [Act.put, List.getElem_toArray, List.getElem_cons_succ, List.getElem_cons_zero, List.setIfInBounds_toArray, List.set_cons_zero, List.set_cons_succ]
  have hK108 := hide ((hK107.out).trans hj108 (by simp))
  refine wpAnyH_take (i := 28) (v := ?_) rfl (by as_aux_lemma => kernel_rfl) (by as_aux_lemma => kernel_rfl) (by as_aux_lemma => kernel_rfl) (fun _ _ _ h => h) (Or.inl ⟨by rfl, ?_⟩) (by assumption) ?_
  rotate_left
  · (intro wq hSw; (try dsimp only at hSw); go_simp; try with_reducible rfl)
  try simp only [Act.put, List.getElem_toArray, List.getElem_cons_succ, List.getElem_cons_zero, List.setIfInBounds_toArray, List.set_cons_zero, List.set_cons_succ]
  refine wpAnyH_take (i := 29) (v := ?_) rfl (by as_aux_lemma => kernel_rfl) (by as_aux_lemma => kernel_rfl) (by as_aux_lemma => kernel_rfl) (fun _ _ _ h => h) (Or.inl ⟨by rfl, ?_⟩) (by assumption) ?_
  rotate_left
  · (intro wq hSw; (try dsimp only at hSw); go_simp; try with_reducible rfl)
  try simp only [Act.put, List.getElem_toArray, List.getElem_cons_succ, List.getElem_cons_zero, List.setIfInBounds_toArray, List.set_cons_zero, List.set_cons_succ]
  refine wpAnyH_take (i := 30) (v := ?_) rfl (by as_aux_lemma => kernel_rfl) (by as_aux_lemma => kernel_rfl) (by as_aux_lemma => kernel_rfl) (fun _ _ _ h => h) (Or.inl ⟨by rfl, ?_⟩) (by assumption) ?_
  rotate_left
  · (intro wq hSw; (try dsimp only at hSw); go_simp; try with_reducible rfl)
  try simp only [Act.put, List.getElem_toArray, List.getElem_cons_succ, List.getElem_cons_zero, List.setIfInBounds_toArray, List.set_cons_zero, List.set_cons_succ]
  refine wpAnyH_take (i := 31) (v := kV nW) rfl (by as_aux_lemma => kernel_rfl) (by as_aux_lemma => kernel_rfl) (by as_aux_lemma => kernel_rfl) (fun _ _ _ h => h) (yieldsIf_load_mid (by rfl) 60 _ rfl b2 0 rfl (kcL nW) _ (fun _ h => h.c2.range) Tryd.underlying60 rfl (by as_aux_lemma => kernel_rfl)) (by assumption) ?_
  try simp only [Act.put, List.getElem_toArray, List.getElem_cons_succ, List.getElem_cons_zero, List.setIfInBounds_toArray, List.set_cons_zero, List.set_cons_succ]
  refine wpAnyH_take (i := 32) (v := kV zeroK) rfl (by as_aux_lemma => kernel_rfl) (by as_aux_lemma => kernel_rfl) (by as_aux_lemma => kernel_rfl) (fun _ _ _ h => h) (yieldsIf_load_mid (by rfl) 60 _ rfl b3 0 rfl (kcL zeroK) _ (fun _ h => h.c3.range) Tryd.underlying60 rfl (by as_aux_lemma => kernel_rfl)) (by assumption) ?_
  try simp only [Act.put, List.getElem_toArray, List.getElem_cons_succ, List.getElem_cons_zero, List.setIfInBounds_toArray, List.set_cons_zero, List.set_cons_succ]
  refine wpAnyH_take (i := 33) (v := kV eC) rfl (by as_aux_lemma => kernel_rfl) (by as_aux_lemma => kernel_rfl) (by as_aux_lemma => kernel_rfl) (fun _ _ _ h => h) (yieldsIf_load_mid (by rfl) 60 _ rfl b4 0 rfl (kcL eC) _ (fun _ h => h.c4.range) Tryd.underlying60 rfl (by as_aux_lemma => kernel_rfl)) (by assumption) ?_
  try simp only [Act.put, List.getElem_toArray, List.getElem_cons_succ, List.getElem_cons_zero, List.setIfInBounds_toArray, List.set_cons_zero, List.set_cons_succ]
  refine wpAnyH_ready (rs := [34]) (by as_aux_lemma => kernel_rfl) (by simp) ?_
  refine AllReadyH.cons rfl (fun K hK => ?_) AllReadyH.nil
  rw [if_pos (by rfl)]
  refine wp_bsC 3 _ rfl [nW, zeroK, eC] rfl (by decide) (by decide) (by as_aux_lemma => kernel_rfl) ?_
  intro g109 V109 rr109 jj109
  refine hK.out _ _ ?_ (fun hHeld => ?_)
  · (try dsimp only); (exact hHeld.kept jj109)
  clear hK K
  try simp only [Act.put, List.getElem_toArray, List.getElem_cons_succ, List.getElem_cons_zero, List.setIfInBounds_toArray, List.set_cons_zero, List.set_cons_succ]
  have s34_109 := hide rr109
  have hK109 := hide ((hK108.out).trans jj109 (by simp))
  refine wpAnyH_ready (rs := [35]) (by as_aux_lemma => kernel_rfl) (by simp) ?_
  refine AllReadyH.cons rfl (fun K hK => ?_) AllReadyH.nil
  rw [if_pos (by rfl)]
  refine wp_fnK _ _ _ rfl (enters_of Tryd.func37 (by as_aux_lemma => kernel_rfl) rfl) _ rfl _ (hard_any _ _ _ _) ?_
  intro V110 hj110
  refine hK.out _ _ ?_ (fun hHeld => ?_)
  · (try dsimp only); (exact hHeld.kept hj110)
  clear hK K
  try simp only [Act.put, List.getElem_toArray, List.getElem_cons_succ, List.getElem_cons_zero, List.setIfInBounds_toArray, List.set_cons_zero, List.set_cons_succ]
  have hK110 := hide ((hK109.out).trans hj110 (by simp))
  have s34_110 := hide (Rd.kept (s34_109.out) hj110 (by simp))
  refine wpAnyH_ready (rs := [36]) (by as_aux_lemma => kernel_rfl) (by simp) ?_
  refine AllReadyH.cons rfl (fun K hK => ?_) AllReadyH.nil
  rw [if_pos (by rfl)]
  refine wp_fnK _ _ _ rfl (enters_of Tryd.func13 (by as_aux_lemma => kernel_rfl) rfl) _ rfl _ (valid6_ask [nW, zeroK, eC] true (by decide +kernel) _ 3 3 false _ (ht0.out.kept (hK110.out)) (s34_110.out) (by decide)) ?_
  intro V111 hj111
  refine hK.out _ _ ?_ (fun hHeld => ?_)
  · (try dsimp only); (exact hHeld.kept hj111)
  clear hK K
  try simp only [Act.put, List.getElem_toArray, List.getElem_cons_succ, List.getElem_cons_zero, List.setIfInBounds_toArray, List.set_cons_zero, List.set_cons_succ]
  have hK111 := hide ((hK110.out).trans hj111 (by simp))
  refine wpAnyH_take (i := 37) (v := ?_) rfl (by as_aux_lemma => kernel_rfl) (by as_aux_lemma => kernel_rfl) (by as_aux_lemma => kernel_rfl) (fun _ _ _ h => h) (Or.inl ⟨by rfl, ?_⟩) (by assumption) ?_
  rotate_left
  · (intro wq hSw; (try dsimp only at hSw); go_simp; try with_reducible rfl)
  try simp only [Act.put, List.getElem_toArray, List.getElem_cons_succ, List.getElem_cons_zero, List.setIfInBounds_toArray, List.set_cons_zero, List.set_cons_succ]
  refine wpAnyH_take (i := 38) (v := ?_) rfl (by as_aux_lemma => kernel_rfl) (by as_aux_lemma => kernel_rfl) (by as_aux_lemma => kernel_rfl) (fun _ _ _ h => h) (Or.inl ⟨by rfl, ?_⟩) (by assumption) ?_
  rotate_left
  · (intro wq hSw; (try dsimp only at hSw); go_simp; try with_reducible rfl)
  try simp only [Act.put, List.getElem_toArray, List.getElem_cons_succ, List.getElem_cons_zero, List.setIfInBounds_toArray, List.set_cons_zero, List.set_cons_succ]
  refine wpAnyH_done (by as_aux_lemma => kernel_rfl) ?_ _
  go_upto_region 8 with fail
  simp only [List.append_eq, List.cons_append, List.nil_append]
  have hN20 := hide hHeld
  have hK20 := hide (hK111.out)
  clear hHeld
  refine wp_region_held_drew (S := (fun w' => (Kn6 w' b1 b2 b3 b4 b5 b6 b7 g7))) (by as_aux_lemma => kernel_rfl) ?_ (fun hHeld => ?_)
  · (try dsimp only); (exact hN20.out.kept (Kept.refl [] _).drew)
  refine wpAnyH_take (i := 0) (v := kV nA) rfl (by as_aux_lemma => kernel_rfl) (by as_aux_lemma => kernel_rfl) (by as_aux_lemma => kernel_rfl) (fun _ _ _ h => h) (yieldsIf_load_mid (by rfl) 60 _ rfl b1 0 rfl (kcL nA) _ (fun _ h => h.c1.range) Tryd.underlying60 rfl (by as_aux_lemma => kernel_rfl)) (by assumption) ?_
  try simp only [Act.put, List.getElem_toArray, List.getElem_cons_succ, List.getElem_cons_zero, List.setIfInBounds_toArray, List.set_cons_zero, List.set_cons_succ]
  refine wpAnyH_take (i := 1) (v := kV eC) rfl (by as_aux_lemma => kernel_rfl) (by as_aux_lemma => kernel_rfl) (by as_aux_lemma => kernel_rfl) (fun _ _ _ h => h) (yieldsIf_load_mid (by rfl) 60 _ rfl b4 0 rfl (kcL eC) _ (fun _ h => h.c4.range) Tryd.underlying60 rfl (by as_aux_lemma => kernel_rfl)) (by assumption) ?_
  try simp only [Act.put, List.getElem_toArray, List.getElem_cons_succ, List.getElem_cons_zero, List.setIfInBounds_toArray, List.set_cons_zero, List.set_cons_succ]
  refine wpAnyH_take (i := 2) (v := kV nR) rfl (by as_aux_lemma => kernel_rfl) (by as_aux_lemma => kernel_rfl) (by as_aux_lemma => kernel_rfl) (fun _ _ _ h => h) (yieldsIf_load_mid (by rfl) 60 _ rfl b5 0 rfl (kcL nR) _ (fun _ h => h.c5.range) Tryd.underlying60 rfl (by as_aux_lemma => kernel_rfl)) (by assumption) ?_
  try simp only [Act.put, List.getElem_toArray, List.getElem_cons_succ, List.getElem_cons_zero, List.setIfInBounds_toArray, List.set_cons_zero, List.set_cons_succ]
  refine wpAnyH_take (i := 3) (v := kV eC) rfl (by as_aux_lemma => kernel_rfl) (by as_aux_lemma => kernel_rfl) (by as_aux_lemma => kernel_rfl) (fun _ _ _ h => h) (yieldsIf_load_mid (by rfl) 60 _ rfl b4 0 rfl (kcL eC) _ (fun _ h => h.c4.range) Tryd.underlying60 rfl (by as_aux_lemma => kernel_rfl)) (by assumption) ?_
  try simp only [Act.put, List.getElem_toArray, List.getElem_cons_succ, List.getElem_cons_zero, List.setIfInBounds_toArray, List.set_cons_zero, List.set_cons_succ]
  refine wpAnyH_ready (rs := [4]) (by as_aux_lemma => kernel_rfl) (by simp) ?_
  refine AllReadyH.cons rfl (fun K hK => ?_) AllReadyH.nil
  rw [if_pos (by rfl)]
  refine wp_bsC 4 _ rfl [nA, eC, nR, eC] rfl (by decide) (by decide) (by as_aux_lemma => kernel_rfl) ?_
  intro g112 V112 rr112 jj112
  refine hK.out _ _ ?_ (fun hHeld => ?_)
  · (try dsimp only); (exact hHeld.kept jj112)
  clear hK K
  try simp only [Act.put, List.getElem_toArray, List.getElem_cons_succ, List.getElem_cons_zero, List.setIfInBounds_toArray, List.set_cons_zero, List.set_cons_succ]
  have s4_112 := hide rr112
  have hK112 := hide ((hK20.out.drew).trans jj112 (by simp))
  refine wpAnyH_ready (rs := [5]) (by as_aux_lemma => kernel_rfl) (by simp) ?_
  refine AllReadyH.cons rfl (fun K hK => ?_) AllReadyH.nil
  rw [if_pos (by rfl)]
  refine wp_fnK _ _ _ rfl (enters_of Tryd.func37 (by as_aux_lemma => kernel_rfl) rfl) _ rfl _ (hard_any _ _ _ _) ?_
  intro V113 hj113
  refine hK.out _ _ ?_ (fun hHeld => ?_)
  · (try dsimp only); (exact hHeld.kept hj113)
  clear hK K
  try simp only [Act.put, List.getElem_toArray, List.getElem_cons_succ, List.getElem_cons_zero, List.setIfInBounds_toArray, List.set_cons_zero, List.set_cons_succ]
  have hK113 := hide ((hK112.out).trans hj113 (by simp))
  have s4_113 := hide (Rd.kept (s4_112.out) hj113 (by simp))
  refine wpAnyH_ready (rs := [6]) (by as_aux_lemma => kernel_rfl) (by simp) ?_
  refine AllReadyH.cons rfl (fun K hK => ?_) AllReadyH.nil
  rw [if_pos (by rfl)]
  refine wp_fnK _ _ _ rfl (enters_of Tryd.func20 (by as_aux_lemma => kernel_rfl) rfl) _ rfl _ (used6_ask [nA, eC, nR, eC] 3 (by decide +kernel) _ 4 4 false _ (s4_113.out) (by decide) (Nat.le_refl _) (by decide)) ?_
  intro V114 hj114
  refine hK.out _ _ ?_ (fun hHeld => ?_)
  · (try dsimp only); (exact hHeld.kept hj114)
  clear hK K
  try simp only [Act.put, List.getElem_toArray, List.getElem_cons_succ, List.getElem_cons_zero, List.setIfInBounds_toArray, List.set_cons_zero, List.set_cons_succ]
  have hK114 := hide ((hK113.out).trans hj114 (by simp))
  refine wpAnyH_take (i := 7) (v := ?_) rfl (by as_aux_lemma => kernel_rfl) (by as_aux_lemma => kernel_rfl) (by as_aux_lemma => kernel_rfl) (fun _ _ _ h => h) (Or.inl ⟨by rfl, ?_⟩) (by assumption) ?_
  rotate_left
  · (intro wq hSw; (try dsimp only at hSw); go_simp; try with_reducible rfl)
  try simp only [Act.put, List.getElem_toArray, List.getElem_cons_succ, List.getElem_cons_zero, List.setIfInBounds_toArray, List.set_cons_zero, List.set_cons_succ]
  refine wpAnyH_take (i := 8) (v := ?_) rfl (by as_aux_lemma => kernel_rfl) (by as_aux_lemma => kernel_rfl) (by as_aux_lemma => kernel_rfl) (fun _ _ _ h => h) (Or.inl ⟨by rfl, ?_⟩) (by assumption) ?_
  rotate_left
  · (intro wq hSw; (try dsimp only at hSw); go_simp; try with_reducible rfl)
  try simp only [Act.put, List.getElem_toArray, List.getElem_cons_succ, List.getElem_cons_zero, List.setIfInBounds_toArray, List.set_cons_zero, List.set_cons_succ]
  refine wpAnyH_take (i := 9) (v := kV nA) rfl (by as_aux_lemma => kernel_rfl) (by as_aux_lemma => kernel_rfl) (by as_aux_lemma => kernel_rfl) (fun _ _ _ h => h) (yieldsIf_load_mid (by rfl) 60 _ rfl b1 0 rfl (kcL nA) _ (fun _ h => h.c1.range) Tryd.underlying60 rfl (by as_aux_lemma => kernel_rfl)) (by assumption) ?_
  try simp only [Act.put, List.getElem_toArray, List.getElem_cons_succ, List.getElem_cons_zero, List.setIfInBounds_toArray, List.set_cons_zero, List.set_cons_succ]
  refine wpAnyH_take (i := 10) (v := kV eC) rfl (by as_aux_lemma => kernel_rfl) (by as_aux_lemma => kernel_rfl) (by as_aux_lemma => kernel_rfl) (fun _ _ _ h => h) (yieldsIf_load_mid (by rfl) 60 _ rfl b4 0 rfl (kcL eC) _ (fun _ h => h.c4.range) Tryd.underlying60 rfl (by as_aux_lemma => kernel_rfl)) (by assumption) ?_
  try simp only [Act.put, List.getElem_toArray, List.getElem_cons_succ, List.getElem_cons_zero, List.setIfInBounds_toArray, List.set_cons_zero, List.set_cons_succ]
  refine wpAnyH_take (i := 11) (v := kV eC) rfl (by as_aux_lemma => kernel_rfl) (by as_aux_lemma => kernel_rfl) (by as_aux_lemma => kernel_rfl) (fun _ _ _ h => h) (yieldsIf_load_mid (by rfl) 60 _ rfl b4 0 rfl (kcL eC) _ (fun _ h => h.c4.range) Tryd.underlying60 rfl (by as_aux_lemma => kernel_rfl)) (by assumption) ?_
  try simp only [Act.put, List.getElem_toArray, List.getElem_cons_succ, List.getElem_cons_zero, List.setIfInBounds_toArray, List.set_cons_zero, List.set_cons_succ]
  refine wpAnyH_take (i := 14) (v := kV nA) rfl (by as_aux_lemma => kernel_rfl) (by as_aux_lemma => kernel_rfl) (by as_aux_lemma => kernel_rfl) (fun _ _ _ h => h) (yieldsIf_load_mid (by rfl) 60 _ rfl b1 0 rfl (kcL nA) _ (fun _ h => h.c1.range) Tryd.underlying60 rfl (by as_aux_lemma => kernel_rfl)) (by assumption) ?_
  try simp only [Act.put, List.getElem_toArray, List.getElem_cons_succ, List.getElem_cons_zero, List.setIfInBounds_toArray, List.set_cons_zero, List.set_cons_succ]
  refine' shareN2 (F := (fun v0 v1 W => (Kn6 W b1 b2 b3 b4 b5 b6 b7 g7) ∧ Kept [] w W ∧ Rd W (some ⟨v0, 0, none⟩) 3 16 (cellsV [nA, eC, eC]) ∧ Rd W (some ⟨v1, 0, none⟩) 1 16 (cellsV [nA]))) (fun H => ?kk1) ?hh1
  case kk1 =>
    refine wpAnyH_ready (rs := [12, 15]) (by as_aux_lemma => kernel_rfl) (by simp) ?_
    refine AllReadyH.cons rfl (fun K hK => ?_) (AllReadyH.cons rfl (fun K hK => ?_) AllReadyH.nil)
    · rw [if_pos (by rfl)]
      refine wp_bsC 3 _ rfl [nA, eC, eC] rfl (by decide) (by decide) (by as_aux_lemma => kernel_rfl) ?_
      intro g115 V115 rr115 jj115
      refine hK.out _ _ ?_ (fun hHeld => ?_)
      · (try dsimp only); (exact hHeld.kept jj115)
      clear hK K
      try simp only [Act.put, List.getElem_toArray, List.getElem_cons_succ, List.getElem_cons_zero, List.setIfInBounds_toArray, List.set_cons_zero, List.set_cons_succ]
      have s12_115 := hide rr115
      have hK115 := hide ((hK114.out).trans jj115 (by simp))
      refine wpAnyH_ready (rs := [13, 15]) (by as_aux_lemma => kernel_rfl) (by simp) ?_
      refine AllReadyH.cons rfl (fun K hK => ?_) (AllReadyH.cons rfl (fun K hK => ?_) AllReadyH.nil)
      · rw [if_pos (by rfl)]
        refine wp_fnK _ _ _ rfl (enters_of Tryd.func37 (by as_aux_lemma => kernel_rfl) rfl) _ rfl _ (hard_any _ _ _ _) ?_
        intro V116 hj116
        refine hK.out _ _ ?_ (fun hHeld => ?_)
        · (try dsimp only); (exact hHeld.kept hj116)
        clear hK K
        try simp only [Act.put, List.getElem_toArray, List.getElem_cons_succ, List.getElem_cons_zero, List.setIfInBounds_toArray, List.set_cons_zero, List.set_cons_succ]
        have hK116 := hide ((hK115.out).trans hj116 (by simp))
        have s12_116 := hide (Rd.kept (s12_115.out) hj116 (by simp))
        refine wpAnyH_ready (rs := [15]) (by as_aux_lemma => kernel_rfl) (by simp) ?_
        refine AllReadyH.cons rfl (fun K hK => ?_) AllReadyH.nil
        rw [if_pos (by rfl)]
        refine wp_bsC 1 _ rfl [nA] rfl (by decide) (by decide) (by as_aux_lemma => kernel_rfl) ?_
        intro g117 V117 rr117 jj117
        refine hK.out _ _ ?_ (fun hHeld => ?_)
        · (try dsimp only); (exact hHeld.kept jj117)
        clear hK K
        try simp only [Act.put, List.getElem_toArray, List.getElem_cons_succ, List.getElem_cons_zero, List.setIfInBounds_toArray, List.set_cons_zero, List.set_cons_succ]
        have s15_117 := hide rr117
        have hK117 := hide ((hK116.out).trans jj117 (by simp))
        have s12_117 := hide (Rd.kept (s12_116.out) jj117 (by simp))
        have F1 := hHeld
        have F2 := (hK117.out)
        have F3 := (s12_117.out)
        have F4 := (s15_117.out)
        exact H g115 g117 _ ⟨F1, F2, F3, F4⟩
      · rw [if_pos (by rfl)]
        refine wp_bsC 1 _ rfl [nA] rfl (by decide) (by decide) (by as_aux_lemma => kernel_rfl) ?_
        intro g118 V118 rr118 jj118
        refine hK.out _ _ ?_ (fun hHeld => ?_)
        · (try dsimp only); (exact hHeld.kept jj118)
        clear hK K
        try simp only [Act.put, List.getElem_toArray, List.getElem_cons_succ, List.getElem_cons_zero, List.setIfInBounds_toArray, List.set_cons_zero, List.set_cons_succ]
        have s15_118 := hide rr118
        have hK118 := hide ((hK115.out).trans jj118 (by simp))
        have s12_118 := hide (Rd.kept (s12_115.out) jj118 (by simp))
        refine wpAnyH_ready (rs := [13]) (by as_aux_lemma => kernel_rfl) (by simp) ?_
        refine AllReadyH.cons rfl (fun K hK => ?_) AllReadyH.nil
        rw [if_pos (by rfl)]
        refine wp_fnK _ _ _ rfl (enters_of Tryd.func37 (by as_aux_lemma => kernel_rfl) rfl) _ rfl _ (hard_any _ _ _ _) ?_
        intro V119 hj119
        refine hK.out _ _ ?_ (fun hHeld => ?_)
        · (try dsimp only); (exact hHeld.kept hj119)
        clear hK K
        try simp only [Act.put, List.getElem_toArray, List.getElem_cons_succ, List.getElem_cons_zero, List.setIfInBounds_toArray, List.set_cons_zero, List.set_cons_succ]
        have hK119 := hide ((hK118.out).trans hj119 (by simp))
        have s12_119 := hide (Rd.kept (s12_118.out) hj119 (by simp))
        have s15_119 := hide (Rd.kept (s15_118.out) hj119 (by simp))
        have F1 := hHeld
        have F2 := (hK119.out)
        have F3 := (s12_119.out)
        have F4 := (s15_119.out)
        exact H g115 g118 _ ⟨F1, F2, F3, F4⟩
    · rw [if_pos (by rfl)]
      refine wp_bsC 1 _ rfl [nA] rfl (by decide) (by decide) (by as_aux_lemma => kernel_rfl) ?_
      intro g120 V120 rr120 jj120
      refine hK.out _ _ ?_ (fun hHeld => ?_)
      · (try dsimp only); (exact hHeld.kept jj120)
      clear hK K
      try simp only [Act.put, List.getElem_toArray, List.getElem_cons_succ, List.getElem_cons_zero, List.setIfInBounds_toArray, List.set_cons_zero, List.set_cons_succ]
      have s15_120 := hide rr120
      have hK120 := hide ((hK114.out).trans jj120 (by simp))
      refine wpAnyH_ready (rs := [12]) (by as_aux_lemma => kernel_rfl) (by simp) ?_
      refine AllReadyH.cons rfl (fun K hK => ?_) AllReadyH.nil
      rw [if_pos (by rfl)]
      refine wp_bsC 3 _ rfl [nA, eC, eC] rfl (by decide) (by decide) (by as_aux_lemma => kernel_rfl) ?_
      intro g121 V121 rr121 jj121
      refine hK.out _ _ ?_ (fun hHeld => ?_)
      · (try dsimp only); (exact hHeld.kept jj121)
      clear hK K
      try simp only [Act.put, List.getElem_toArray, List.getElem_cons_succ, List.getElem_cons_zero, List.setIfInBounds_toArray, List.set_cons_zero, List.set_cons_succ]
      have s12_121 := hide rr121
      have hK121 := hide ((hK120.out).trans jj121 (by simp))
      have s15_121 := hide (Rd.kept (s15_120.out) jj121 (by simp))
      refine wpAnyH_ready (rs := [13]) (by as_aux_lemma => kernel_rfl) (by simp) ?_
      refine AllReadyH.cons rfl (fun K hK => ?_) AllReadyH.nil
      rw [if_pos (by rfl)]
      refine wp_fnK _ _ _ rfl (enters_of Tryd.func37 (by as_aux_lemma => kernel_rfl) rfl) _ rfl _ (hard_any _ _ _ _) ?_
      intro V122 hj122
      refine hK.out _ _ ?_ (fun hHeld => ?_)
      · (try dsimp only); (exact hHeld.kept hj122)
      clear hK K
      try simp only [Act.put, List.getElem_toArray, List.getElem_cons_succ, List.getElem_cons_zero, List.setIfInBounds_toArray, List.set_cons_zero, List.set_cons_succ]
      have hK122 := hide ((hK121.out).trans hj122 (by simp))
      have s15_122 := hide (Rd.kept (s15_121.out) hj122 (by simp))
      have s12_122 := hide (Rd.kept (s12_121.out) hj122 (by simp))
      have F1 := hHeld
      have F2 := (hK122.out)
      have F3 := (s12_122.out)
      have F4 := (s15_122.out)
      exact H g121 g120 _ ⟨F1, F2, F3, F4⟩
  case' hh1 => intro gs1_12 gs1_15 Vs1 hF
  have hHeld := hF.1
  have hKs1 := hide hF.2.1
  have qs1_12 := hide (hF.2.2.1)
  have qs1_15 := hide (hF.2.2.2)
  clear hF
  refine wpAnyH_ready (rs := [16]) (by as_aux_lemma => kernel_rfl) (by simp) ?_
  refine AllReadyH.cons rfl (fun K hK => ?_) AllReadyH.nil
  rw [if_pos (by rfl)]
  refine wp_fnK _ _ _ rfl (enters_of Tryd.func37 (by as_aux_lemma => kernel_rfl) rfl) _ rfl _ (hard_any _ _ _ _) ?_
  intro V123 hj123
  refine hK.out _ _ ?_ (fun hHeld => ?_)
  · (try dsimp only); (exact hHeld.kept hj123)
  clear hK K
  try simp only [Act.put, List.getElem_toArray, List.getElem_cons_succ, List.getElem_cons_zero, List.setIfInBounds_toArray, List.set_cons_zero, List.set_cons_succ]
  have hK123 := hide ((hKs1.out).trans hj123 (by simp))
  have s12_123 := hide (Rd.kept (qs1_12.out) hj123 (by simp))
  have s15_123 := hide (Rd.kept (qs1_15.out) hj123 (by simp))
  refine wpAnyH_ready (rs := [17]) (by as_aux_lemma => kernel_rfl) (by simp) ?_
  refine AllReadyH.cons rfl (fun K hK => ?_) AllReadyH.nil
  rw [if_pos (by rfl)]
  refine wp_fnK _ _ _ rfl (enters_of Tryd.func28 (by as_aux_lemma => kernel_rfl) rfl) _ rfl _ (trims_ask Trim6_any _ 3 3 [nA, eC, eC] false _ 1 1 false [nA] 0 true _ (ht0.out.kept (hK123.out)) (s12_123.out) (by decide) (Nat.le_refl _) (by decide) (s15_123.out) (by decide +kernel)) ?_
  intro V124 hj124
  refine hK.out _ _ ?_ (fun hHeld => ?_)
  · (try dsimp only); (exact hHeld.kept hj124)
  clear hK K
  try simp only [Act.put, List.getElem_toArray, List.getElem_cons_succ, List.getElem_cons_zero, List.setIfInBounds_toArray, List.set_cons_zero, List.set_cons_succ]
  have hK124 := hide ((hK123.out).trans hj124 (by simp))
  refine wpAnyH_take (i := 18) (v := ?_) rfl (by as_aux_lemma => kernel_rfl) (by as_aux_lemma => kernel_rfl) (by as_aux_lemma => kernel_rfl) (fun _ _ _ h => h) (Or.inl ⟨by rfl, ?_⟩) (by assumption) ?_
  rotate_left
  · (intro wq hSw; (try dsimp only at hSw); go_simp; try with_reducible rfl)
  try simp only [Act.put, List.getElem_toArray, List.getElem_cons_succ, List.getElem_cons_zero, List.setIfInBounds_toArray, List.set_cons_zero, List.set_cons_succ]
  refine wpAnyH_take (i := 19) (v := ?_) rfl (by as_aux_lemma => kernel_rfl) (by as_aux_lemma => kernel_rfl) (by as_aux_lemma => kernel_rfl) (fun _ _ _ h => h) (Or.inl ⟨by rfl, ?_⟩) (by assumption) ?_
  rotate_left
  · (intro wq hSw; (try dsimp only at hSw); go_simp; try with_reducible rfl)
  try simp only [Act.put, List.getElem_toArray, List.getElem_cons_succ, List.getElem_cons_zero, List.setIfInBounds_toArray, List.set_cons_zero, List.set_cons_succ]
  refine wpAnyH_take (i := 20) (v := ?_) rfl (by as_aux_lemma => kernel_rfl) (by as_aux_lemma => kernel_rfl) (by as_aux_lemma => kernel_rfl) (fun _ _ _ h => h) (Or.inl ⟨by rfl, ?_⟩) (by assumption) ?_
  rotate_left
  · (intro wq hSw; (try dsimp only at hSw); go_simp; try with_reducible rfl)
  try simp only [Act.put, List.getElem_toArray, List.getElem_cons_succ, List.getElem_cons_zero, List.setIfInBounds_toArray, List.set_cons_zero, List.set_cons_succ]
  refine wpAnyH_take (i := 21) (v := kV eC) rfl (by as_aux_lemma => kernel_rfl) (by as_aux_lemma => kernel_rfl) (by as_aux_lemma => kernel_rfl) (fun _ _ _ h => h) (yieldsIf_load_mid (by rfl) 60 _ rfl b4 0 rfl (kcL eC) _ (fun _ h => h.c4.range) Tryd.underlying60 rfl (by as_aux_lemma => kernel_rfl)) (by assumption) ?_
  try simp only [Act.put, List.getElem_toArray, List.getElem_cons_succ, List.getElem_cons_zero, List.setIfInBounds_toArray, List.set_cons_zero, List.set_cons_succ]
  refine wpAnyH_take (i := 22) (v := kV eC) rfl (by as_aux_lemma => kernel_rfl) (by as_aux_lemma => kernel_rfl) (by as_aux_lemma => kernel_rfl) (fun _ _ _ h => h) (yieldsIf_load_mid (by rfl) 60 _ rfl b4 0 rfl (kcL eC) _ (fun _ h => h.c4.range) Tryd.underlying60 rfl (by as_aux_lemma => kernel_rfl)) (by assumption) ?_
  try simp only [Act.put, List.getElem_toArray, List.getElem_cons_succ, List.getElem_cons_zero, List.setIfInBounds_toArray, List.set_cons_zero, List.set_cons_succ]
  refine wpAnyH_ready (rs := [23]) (by as_aux_lemma => kernel_rfl) (by simp) ?_
  refine AllReadyH.cons rfl (fun K hK => ?_) AllReadyH.nil
  rw [if_pos (by rfl)]
  refine wp_bsC 2 _ rfl [eC, eC] rfl (by decide) (by decide) (by as_aux_lemma => kernel_rfl) ?_
  intro g125 V125 rr125 jj125
  refine hK.out _ _ ?_ (fun hHeld => ?_)
  · (try dsimp only); (exact hHeld.kept jj125)
  clear hK K
  try simp only [Act.put, List.getElem_toArray, List.getElem_cons_succ, List.getElem_cons_zero, List.setIfInBounds_toArray, List.set_cons_zero, List.set_cons_succ]
  have s23_125 := hide rr125
  have hK125 := hide ((hK124.out).trans jj125 (by simp))
  refine wpAnyH_ready (rs := [24]) (by as_aux_lemma => kernel_rfl) (by simp) ?_
  refine AllReadyH.cons rfl (fun K hK => ?_) AllReadyH.nil
  rw [if_pos (by rfl)]
  refine wp_fnK _ _ _ rfl (enters_of Tryd.func37 (by as_aux_lemma => kernel_rfl) rfl) _ rfl _ (hard_any _ _ _ _) ?_
  intro V126 hj126
  refine hK.out _ _ ?_ (fun hHeld => ?_)
  · (try dsimp only); (exact hHeld.kept hj126)
  clear hK K
  try simp only [Act.put, List.getElem_toArray, List.getElem_cons_succ, List.getElem_cons_zero, List.setIfInBounds_toArray, List.set_cons_zero, List.set_cons_succ]
  have hK126 := hide ((hK125.out).trans hj126 (by simp))
  have s23_126 := hide (Rd.kept (s23_125.out) hj126 (by simp))
  refine wpAnyH_ready (rs := [25]) (by as_aux_lemma => kernel_rfl) (by simp) ?_
  refine AllReadyH.cons rfl (fun K hK => ?_) AllReadyH.nil
  rw [if_pos (by rfl)]
  refine wp_fnK _ _ _ rfl (enters_of Tryd.func37 (by as_aux_lemma => kernel_rfl) rfl) _ rfl _ (hard_any _ _ _ _) ?_
  intro V127 hj127
  refine hK.out _ _ ?_ (fun hHeld => ?_)
  · (try dsimp only); (exact hHeld.kept hj127)
  clear hK K
  try simp only [Act.put, List.getElem_toArray, List.getElem_cons_succ, List.getElem_cons_zero, List.setIfInBounds_toArray, List.set_cons_zero, List.set_cons_succ]
  have hK127 := hide ((hK126.out).trans hj127 (by simp))
  have s23_127 := hide (Rd.kept (s23_126.out) hj127 (by simp))
  refine wpAnyH_ready (rs := [26]) (by as_aux_lemma => kernel_rfl) (by simp) ?_
  refine AllReadyH.cons rfl (fun K hK => ?_) AllReadyH.nil
  rw [if_pos (by rfl)]
  refine wp_fnK _ _ _ rfl (enters_of Tryd.func28 (by as_aux_lemma => kernel_rfl) rfl) _ rfl _ (trims_ask Trim6_any _ 2 2 [eC, eC] false _ 0 0 false [] 0 true _ (ht0.out.kept (hK127.out)) (s23_127.out) (by decide) (Nat.le_refl _) (by decide) (Rd.nil _ _ _) (by decide +kernel)) ?_
  intro V128 hj128
  refine hK.out _ _ ?_ (fun hHeld => ?_)
  · (try dsimp only); (exact hHeld.kept hj128)
  clear hK K
  try simp only [Act.put, List.getElem_toArray, List.getElem_cons_succ, List.getElem_cons_zero, List.setIfInBounds_toArray, List.set_cons_zero, List.set_cons_succ]
  have hK128 := hide ((hK127.out).trans hj128 (by simp))
  refine wpAnyH_take (i := 27) (v := ?_) rfl (by as_aux_lemma => kernel_rfl) (by as_aux_lemma => kernel_rfl) (by as_aux_lemma => kernel_rfl) (fun _ _ _ h => h) (Or.inl ⟨by rfl, ?_⟩) (by assumption) ?_
  rotate_left
  · (intro wq hSw; (try dsimp only at hSw); go_simp; try with_reducible rfl)
  try simp only [Act.put, List.getElem_toArray, List.getElem_cons_succ, List.getElem_cons_zero, List.setIfInBounds_toArray, List.set_cons_zero, List.set_cons_succ]
  refine wpAnyH_take (i := 28) (v := ?_) rfl (by as_aux_lemma => kernel_rfl) (by as_aux_lemma => kernel_rfl) (by as_aux_lemma => kernel_rfl) (fun _ _ _ h => h) (Or.inl ⟨by rfl, ?_⟩) (by assumption) ?_
  rotate_left
  · (intro wq hSw; (try dsimp only at hSw); go_simp; try with_reducible rfl)
  try simp only [Act.put, List.getElem_toArray, List.getElem_cons_succ, List.getElem_cons_zero, List.setIfInBounds_toArray, List.set_cons_zero, List.set_cons_succ]
  refine wpAnyH_take (i := 29) (v := ?_) rfl (by as_aux_lemma => kernel_rfl) (by as_aux_lemma => kernel_rfl) (by as_aux_lemma => kernel_rfl) (fun _ _ _ h => h) (Or.inl ⟨by rfl, ?_⟩) (by assumption) ?_
  rotate_left
  · (intro wq hSw; (try dsimp only at hSw); go_simp; try with_reducible rfl)
  try simp only [Act.put, List.getElem_toArray, List.getElem_cons_succ, List.getElem_cons_zero, List.setIfInBounds_toArray, List.set_cons_zero, List.set_cons_succ]
  refine wpAnyH_take (i := 30) (v := kV nA) rfl (by as_aux_lemma => kernel_rfl) (by as_aux_lemma => kernel_rfl) (by as_aux_lemma => kernel_rfl) (fun _ _ _ h => h) (yieldsIf_load_mid (by rfl) 60 _ rfl b1 0 rfl (kcL nA) _ (fun _ h => h.c1.range) Tryd.underlying60 rfl (by as_aux_lemma => kernel_rfl)) (by assumption) ?_
  try simp only [Act.put, List.getElem_toArray, List.getElem_cons_succ, List.getElem_cons_zero, List.setIfInBounds_toArray, List.set_cons_zero, List.set_cons_succ]
  refine wpAnyH_take (i := 31) (v := kV nW) rfl (by as_aux_lemma => kernel_rfl) (by as_aux_lemma => kernel_rfl) (by as_aux_lemma => kernel_rfl) (fun _ _ _ h => h) (yieldsIf_load_mid (by rfl) 60 _ rfl b2 0 rfl (kcL nW) _ (fun _ h => h.c2.range) Tryd.underlying60 rfl (by as_aux_lemma => kernel_rfl)) (by assumption) ?_
  try simp only [Act.put, List.getElem_toArray, List.getElem_cons_succ, List.getElem_cons_zero, List.setIfInBounds_toArray, List.set_cons_zero, List.set_cons_succ]
  refine wpAnyH_take (i := 32) (v := kV zeroK) rfl (by as_aux_lemma => kernel_rfl) (by as_aux_lemma => kernel_rfl) (by as_aux_lemma => kernel_rfl) (fun _ _ _ h => h) (yieldsIf_load_mid (by rfl) 60 _ rfl b3 0 rfl (kcL zeroK) _ (fun _ h => h.c3.range) Tryd.underlying60 rfl (by as_aux_lemma => kernel_rfl)) (by assumption) ?_
  try simp only [Act.put, List.getElem_toArray, List.getElem_cons_succ, List.getElem_cons_zero, List.setIfInBounds_toArray, List.set_cons_zero, List.set_cons_succ]
  refine wpAnyH_take (i := 35) (v := kV nA) rfl (by as_aux_lemma => kernel_rfl) (by as_aux_lemma => kernel_rfl) (by as_aux_lemma => kernel_rfl) (fun _ _ _ h => h) (yieldsIf_load_mid (by rfl) 60 _ rfl b1 0 rfl (kcL nA) _ (fun _ h => h.c1.range) Tryd.underlying60 rfl (by as_aux_lemma => kernel_rfl)) (by assumption) ?_
  try simp only [Act.put, List.getElem_toArray, List.getElem_cons_succ, List.getElem_cons_zero, List.setIfInBounds_toArray, List.set_cons_zero, List.set_cons_succ]
  refine wpAnyH_take (i := 36) (v := kV eC) rfl (by as_aux_lemma => kernel_rfl) (by as_aux_lemma => kernel_rfl) (by as_aux_lemma => kernel_rfl) (fun _ _ _ h => h) (yieldsIf_load_mid (by rfl) 60 _ rfl b4 0 rfl (kcL eC) _ (fun _ h => h.c4.range) Tryd.underlying60 rfl (by as_aux_lemma => kernel_rfl)) (by assumption) ?_
  try simp only [Act.put, List.getElem_toArray, List.getElem_cons_succ, List.getElem_cons_zero, List.setIfInBounds_toArray, List.set_cons_zero, List.set_cons_succ]
  refine' shareN2 (F := (fun v0 v1 W => (Kn6 W b1 b2 b3 b4 b5 b6 b7 g7) ∧ Kept [] w W ∧ Rd W (some ⟨v0, 0, none⟩) 3 16 (cellsV [nA, nW, zeroK]) ∧ Rd W (some ⟨v1, 0, none⟩) 2 16 (cellsV [nA, eC]))) (fun H => ?kk2) ?hh2
  case kk2 =>
    refine wpAnyH_ready (rs := [33, 37]) (by as_aux_lemma => kernel_rfl) (by simp) ?_
    refine AllReadyH.cons rfl (fun K hK => ?_) (AllReadyH.cons rfl (fun K hK => ?_) AllReadyH.nil)
    · rw [if_pos (by rfl)]
      refine wp_bsC 3 _ rfl [nA, nW, zeroK] rfl (by decide) (by decide) (by as_aux_lemma => kernel_rfl) ?_
      intro g129 V129 rr129 jj129
      refine hK.out _ _ ?_ (fun hHeld => ?_)
      · (try dsimp only); (exact hHeld.kept jj129)
      clear hK K
      try simp only [Act.put, List.getElem_toArray, List.getElem_cons_succ, List.getElem_cons_zero, List.setIfInBounds_toArray, List.set_cons_zero, List.set_cons_succ]
      have s33_129 := hide rr129
      have hK129 := hide ((hK128.out).trans jj129 (by simp))
      refine wpAnyH_ready (rs := [34, 37]) (by as_aux_lemma => kernel_rfl) (by simp) ?_
      refine AllReadyH.cons rfl (fun K hK => ?_) (AllReadyH.cons rfl (fun K hK => ?_) AllReadyH.nil)
      · rw [if_pos (by rfl)]
        refine wp_fnK _ _ _ rfl (enters_of Tryd.func37 (by as_aux_lemma => kernel_rfl) rfl) _ rfl _ (hard_any _ _ _ _) ?_
        intro V130 hj130
        refine hK.out _ _ ?_ (fun hHeld => ?_)
        · (try dsimp only); (exact hHeld.kept hj130)
        clear hK K
        try simp only [Act.put, List.getElem_toArray, List.getElem_cons_succ, List.getElem_cons_zero, List.setIfInBounds_toArray, List.set_cons_zero, List.set_cons_succ]
        have hK130 := hide ((hK129.out).trans hj130 (by simp))
        have s33_130 := hide (Rd.kept (s33_129.out) hj130 (by simp))
        refine wpAnyH_ready (rs := [37]) (by as_aux_lemma => kernel_rfl) (by simp) ?_
        refine AllReadyH.cons rfl (fun K hK => ?_) AllReadyH.nil
        rw [if_pos (by rfl)]
        refine wp_bsC 2 _ rfl [nA, eC] rfl (by decide) (by decide) (by as_aux_lemma => kernel_rfl) ?_
        intro g131 V131 rr131 jj131
        refine hK.out _ _ ?_ (fun hHeld => ?_)
        · (try dsimp only); (exact hHeld.kept jj131)
        clear hK K
        try simp only [Act.put, List.getElem_toArray, List.getElem_cons_succ, List.getElem_cons_zero, List.setIfInBounds_toArray, List.set_cons_zero, List.set_cons_succ]
        have s37_131 := hide rr131
        have hK131 := hide ((hK130.out).trans jj131 (by simp))
        have s33_131 := hide (Rd.kept (s33_130.out) jj131 (by simp))
        have F1 := hHeld
        have F2 := (hK131.out)
        have F3 := (s33_131.out)
        have F4 := (s37_131.out)
        exact H g129 g131 _ ⟨F1, F2, F3, F4⟩
      · rw [if_pos (by rfl)]
        refine wp_bsC 2 _ rfl [nA, eC] rfl (by decide) (by decide) (by as_aux_lemma => kernel_rfl) ?_
        intro g132 V132 rr132 jj132
        refine hK.out _ _ ?_ (fun hHeld => ?_)
        · (try dsimp only); (exact hHeld.kept jj132)
        clear hK K
        try simp only [Act.put, List.getElem_toArray, List.getElem_cons_succ, List.getElem_cons_zero, List.setIfInBounds_toArray, List.set_cons_zero, List.set_cons_succ]
        have s37_132 := hide rr132
        have hK132 := hide ((hK129.out).trans jj132 (by simp))
        have s33_132 := hide (Rd.kept (s33_129.out) jj132 (by simp))
        refine wpAnyH_ready (rs := [34]) (by as_aux_lemma => kernel_rfl) (by simp) ?_
        refine AllReadyH.cons rfl (fun K hK => ?_) AllReadyH.nil
        rw [if_pos (by rfl)]
        refine wp_fnK _ _ _ rfl (enters_of Tryd.func37 (by as_aux_lemma => kernel_rfl) rfl) _ rfl _ (hard_any _ _ _ _) ?_
        intro V133 hj133
        refine hK.out _ _ ?_ (fun hHeld => ?_)
        · (try dsimp only); (exact hHeld.kept hj133)
        clear hK K
        try simp only [Act.put, List.getElem_toArray, List.getElem_cons_succ, List.getElem_cons_zero, List.setIfInBounds_toArray, List.set_cons_zero, List.set_cons_succ]
        have hK133 := hide ((hK132.out).trans hj133 (by simp))
        have s33_133 := hide (Rd.kept (s33_132.out) hj133 (by simp))
        have s37_133 := hide (Rd.kept (s37_132.out) hj133 (by simp))
        have F1 := hHeld
        have F2 := (hK133.out)
        have F3 := (s33_133.out)
        have F4 := (s37_133.out)
        exact H g129 g132 _ ⟨F1, F2, F3, F4⟩
    · rw [if_pos (by rfl)]
      refine wp_bsC 2 _ rfl [nA, eC] rfl (by decide) (by decide) (by as_aux_lemma => kernel_rfl) ?_
      intro g134 V134 rr134 jj134
      refine hK.out _ _ ?_ (fun hHeld => ?_)
      · (try dsimp only); (exact hHeld.kept jj134)
      clear hK K
      try simp only [Act.put, List.getElem_toArray, List.getElem_cons_succ, List.getElem_cons_zero, List.setIfInBounds_toArray, List.set_cons_zero, List.set_cons_succ]
      have s37_134 := hide rr134
      have hK134 := hide ((hK128.out).trans jj134 (by simp))
      refine wpAnyH_ready (rs := [33]) (by as_aux_lemma => kernel_rfl) (by simp) ?_
      refine AllReadyH.cons rfl (fun K hK => ?_) AllReadyH.nil
      rw [if_pos (by rfl)]
      refine wp_bsC 3 _ rfl [nA, nW, zeroK] rfl (by decide) (by decide) (by as_aux_lemma => kernel_rfl) ?_
      intro g135 V135 rr135 jj135
      refine hK.out _ _ ?_ (fun hHeld => ?_)
      · (try dsimp only); (exact hHeld.kept jj135)
      clear hK K
      try simp only [Act.put, List.getElem_toArray, List.getElem_cons_succ, List.getElem_cons_zero, List.setIfInBounds_toArray, List.set_cons_zero, List.set_cons_succ]
      have s33_135 := hide rr135
      have hK135 := hide ((hK134.out).trans jj135 (by simp))
      have s37_135 := hide (Rd.kept (s37_134.out) jj135 (by simp))
      refine wpAnyH_ready (rs := [34]) (by as_aux_lemma => kernel_rfl) (by simp) ?_
      refine AllReadyH.cons rfl (fun K hK => ?_) AllReadyH.nil
      rw [if_pos (by rfl)]
      refine wp_fnK _ _ _ rfl (enters_of Tryd.func37 (by as_aux_lemma => kernel_rfl) rfl) _ rfl _ (hard_any _ _ _ _) ?_
      intro V136 hj136
      refine hK.out _ _ ?_ (fun hHeld => ?_)
      · (try dsimp only); (exact hHeld.kept hj136)
      clear hK K
      try simp only [Act.put, List.getElem_toArray, List.getElem_cons_succ, List.getElem_cons_zero, List.setIfInBounds_toArray, List.set_cons_zero, List.set_cons_succ]
      have hK136 := hide ((hK135.out).trans hj136 (by simp))
      have s37_136 := hide (Rd.kept (s37_135.out) hj136 (by simp))
      have s33_136 := hide (Rd.kept (s33_135.out) hj136 (by simp))
      have F1 := hHeld
      have F2 := (hK136.out)
      have F3 := (s33_136.out)
      have F4 := (s37_136.out)
      exact H g135 g134 _ ⟨F1, F2, F3, F4⟩
  case' hh2 => intro gs2_33 gs2_37 Vs2 hF
  have hHeld := hF.1
  have hKs2 := hide hF.2.1
  have qs2_33 := hide (hF.2.2.1)
  have qs2_37 := hide (hF.2.2.2)
  clear hF
  refine wpAnyH_ready (rs := [38]) (by as_aux_lemma => kernel_rfl) (by simp) ?_
  refine AllReadyH.cons rfl (fun K hK => ?_) AllReadyH.nil
  rw [if_pos (by rfl)]
  refine wp_fnK _ _ _ rfl (enters_of Tryd.func37 (by as_aux_lemma => kernel_rfl) rfl) _ rfl _ (hard_any _ _ _ _) ?_
  intro V137 hj137
  refine hK.out _ _ ?_ (fun hHeld => ?_)
  · (try dsimp only); (exact hHeld.kept hj137)
  clear hK K
  try simp only [Act.put, List.getElem_toArray, List.getElem_cons_succ, List.getElem_cons_zero, List.setIfInBounds_toArray, List.set_cons_zero, List.set_cons_succ]
  have hK137 := hide ((hKs2.out).trans hj137 (by simp))
  have s33_137 := hide (Rd.kept (qs2_33.out) hj137 (by simp))
  have s37_137 := hide (Rd.kept (qs2_37.out) hj137 (by simp))
  refine wpAnyH_ready (rs := [39]) (by as_aux_lemma => kernel_rfl) (by simp) ?_
  refine AllReadyH.cons rfl (fun K hK => ?_) AllReadyH.nil
  rw [if_pos (by rfl)]
  refine wp_fnK _ _ _ rfl (enters_of Tryd.func29 (by as_aux_lemma => kernel_rfl) rfl) _ rfl _ (fits_ask Fit6_any _ 3 3 [nA, nW, zeroK] false (2) _ 2 2 false [nA, eC] 0 true _ (ht0.out.kept (hK137.out)) (s33_137.out) (by decide) (Nat.le_refl _) (by decide) (s37_137.out) (by decide +kernel)) ?_
  intro V138 hj138
  refine hK.out _ _ ?_ (fun hHeld => ?_)
  · (try dsimp only); (exact hHeld.kept hj138)
  clear hK K
  try simp only [Act.put, List.getElem_toArray, List.getElem_cons_succ, List.getElem_cons_zero, List.setIfInBounds_toArray, List.set_cons_zero, List.set_cons_succ]
  have hK138 := hide ((hK137.out).trans hj138 (by simp))
  refine wpAnyH_take (i := 40) (v := ?_) rfl (by as_aux_lemma => kernel_rfl) (by as_aux_lemma => kernel_rfl) (by as_aux_lemma => kernel_rfl) (fun _ _ _ h => h) (Or.inl ⟨by rfl, ?_⟩) (by assumption) ?_
  rotate_left
  · (intro wq hSw; (try dsimp only at hSw); go_simp; try with_reducible rfl)
  try simp only [Act.put, List.getElem_toArray, List.getElem_cons_succ, List.getElem_cons_zero, List.setIfInBounds_toArray, List.set_cons_zero, List.set_cons_succ]
  refine wpAnyH_take (i := 41) (v := ?_) rfl (by as_aux_lemma => kernel_rfl) (by as_aux_lemma => kernel_rfl) (by as_aux_lemma => kernel_rfl) (fun _ _ _ h => h) (Or.inl ⟨by rfl, ?_⟩) (by assumption) ?_
  rotate_left
  · (intro wq hSw; (try dsimp only at hSw); go_simp; try with_reducible rfl)
  try simp only [Act.put, List.getElem_toArray, List.getElem_cons_succ, List.getElem_cons_zero, List.setIfInBounds_toArray, List.set_cons_zero, List.set_cons_succ]
  refine wpAnyH_take (i := 42) (v := ?_) rfl (by as_aux_lemma => kernel_rfl) (by as_aux_lemma => kernel_rfl) (by as_aux_lemma => kernel_rfl) (fun _ _ _ h => h) (Or.inl ⟨by rfl, ?_⟩) (by assumption) ?_
  rotate_left
  · (intro wq hSw; (try dsimp only at hSw); go_simp; try with_reducible rfl)
  try simp only [Act.put, List.getElem_toArray, List.getElem_cons_succ, List.getElem_cons_zero, List.setIfInBounds_toArray, List.set_cons_zero, List.set_cons_succ]
  refine wpAnyH_take (i := 43) (v := kV nA) rfl (by as_aux_lemma => kernel_rfl) (by as_aux_lemma => kernel_rfl) (by as_aux_lemma => kernel_rfl) (fun _ _ _ h => h) (yieldsIf_load_mid (by rfl) 60 _ rfl b1 0 rfl (kcL nA) _ (fun _ h => h.c1.range) Tryd.underlying60 rfl (by as_aux_lemma => kernel_rfl)) (by assumption) ?_
  try simp only [Act.put, List.getElem_toArray, List.getElem_cons_succ, List.getElem_cons_zero, List.setIfInBounds_toArray, List.set_cons_zero, List.set_cons_succ]
  refine wpAnyH_take (i := 44) (v := kV nW) rfl (by as_aux_lemma => kernel_rfl) (by as_aux_lemma => kernel_rfl) (by as_aux_lemma => kernel_rfl) (fun _ _ _ h => h) (yieldsIf_load_mid (by rfl) 60 _ rfl b2 0 rfl (kcL nW) _ (fun _ h => h.c2.range) Tryd.underlying60 rfl (by as_aux_lemma => kernel_rfl)) (by assumption) ?_
  try simp only [Act.put, List.getElem_toArray, List.getElem_cons_succ, List.getElem_cons_zero, List.setIfInBounds_toArray, List.set_cons_zero, List.set_cons_succ]
  refine wpAnyH_take (i := 45) (v := kV zeroK) rfl (by as_aux_lemma => kernel_rfl) (by as_aux_lemma => kernel_rfl) (by as_aux_lemma => kernel_rfl) (fun _ _ _ h => h) (yieldsIf_load_mid (by rfl) 60 _ rfl b3 0 rfl (kcL zeroK) _ (fun _ h => h.c3.range) Tryd.underlying60 rfl (by as_aux_lemma => kernel_rfl)) (by assumption) ?_
  try simp only [Act.put, List.getElem_toArray, List.getElem_cons_succ, List.getElem_cons_zero, List.setIfInBounds_toArray, List.set_cons_zero, List.set_cons_succ]
  refine wpAnyH_take (i := 48) (v := kV nA) rfl (by as_aux_lemma => kernel_rfl) (by as_aux_lemma => kernel_rfl) (by as_aux_lemma => kernel_rfl) (fun _ _ _ h => h) (yieldsIf_load_mid (by rfl) 60 _ rfl b1 0 rfl (kcL nA) _ (fun _ h => h.c1.range) Tryd.underlying60 rfl (by as_aux_lemma => kernel_rfl)) (by assumption) ?_
  try simp only [Act.put, List.getElem_toArray, List.getElem_cons_succ, List.getElem_cons_zero, List.setIfInBounds_toArray, List.set_cons_zero, List.set_cons_succ]
  refine wpAnyH_take (i := 49) (v := kV nW) rfl (by as_aux_lemma => kernel_rfl) (by as_aux_lemma => kernel_rfl) (by as_aux_lemma => kernel_rfl) (fun _ _ _ h => h) (yieldsIf_load_mid (by rfl) 60 _ rfl b2 0 rfl (kcL nW) _ (fun _ h => h.c2.range) Tryd.underlying60 rfl (by as_aux_lemma => kernel_rfl)) (by assumption) ?_
  try simp only [Act.put, List.getElem_toArray, List.getElem_cons_succ, List.getElem_cons_zero, List.setIfInBounds_toArray, List.set_cons_zero, List.set_cons_succ]
  refine wpAnyH_take (i := 50) (v := kV zeroK) rfl (by as_aux_lemma => kernel_rfl) (by as_aux_lemma => kernel_rfl) (by as_aux_lemma => kernel_rfl) (fun _ _ _ h => h) (yieldsIf_load_mid (by rfl) 60 _ rfl b3 0 rfl (kcL zeroK) _ (fun _ h => h.c3.range) Tryd.underlying60 rfl (by as_aux_lemma => kernel_rfl)) (by assumption) ?_
  try simp only [Act.put, List.getElem_toArray, List.getElem_cons_succ, List.getElem_cons_zero, List.setIfInBounds_toArray, List.set_cons_zero, List.set_cons_succ]
  refine wpAnyH_take (i := 51) (v := kV eC) rfl (by as_aux_lemma => kernel_rfl) (by as_aux_lemma => kernel_rfl) (by as_aux_lemma => kernel_rfl) (fun _ _ _ h => h) (yieldsIf_load_mid (by rfl) 60 _ rfl b4 0 rfl (kcL eC) _ (fun _ h => h.c4.range) Tryd.underlying60 rfl (by as_aux_lemma => kernel_rfl)) (by assumption) ?_
  try simp only [Act.put, List.getElem_toArray, List.getElem_cons_succ, List.getElem_cons_zero, List.setIfInBounds_toArray, List.set_cons_zero, List.set_cons_succ]
  refine wpAnyH_take (i := 52) (v := kV eC) rfl (by as_aux_lemma => kernel_rfl) (by as_aux_lemma => kernel_rfl) (by as_aux_lemma => kernel_rfl) (fun _ _ _ h => h) (yieldsIf_load_mid (by rfl) 60 _ rfl b4 0 rfl (kcL eC) _ (fun _ h => h.c4.range) Tryd.underlying60 rfl (by as_aux_lemma => kernel_rfl)) (by assumption) ?_
  try simp only [Act.put, List.getElem_toArray, List.getElem_cons_succ, List.getElem_cons_zero, List.setIfInBounds_toArray, List.set_cons_zero, List.set_cons_succ]
  refine' shareN2 (F := (fun v0 v1 W => (Kn6 W b1 b2 b3 b4 b5 b6 b7 g7) ∧ Kept [] w W ∧ Rd W (some ⟨v0, 0, none⟩) 3 16 (cellsV [nA, nW, zeroK]) ∧ Rd W (some ⟨v1, 0, none⟩) 5 16 (cellsV [nA, nW, zeroK, eC, eC]))) (fun H => ?kk3) ?hh3
  case kk3 =>
    refine wpAnyH_ready (rs := [46, 53]) (by as_aux_lemma => kernel_rfl) (by simp) ?_
    refine AllReadyH.cons rfl (fun K hK => ?_) (AllReadyH.cons rfl (fun K hK => ?_) AllReadyH.nil)
    · rw [if_pos (by rfl)]
      refine wp_bsC 3 _ rfl [nA, nW, zeroK] rfl (by decide) (by decide) (by as_aux_lemma => kernel_rfl) ?_
      intro g139 V139 rr139 jj139
      refine hK.out _ _ ?_ (fun hHeld => ?_)
      · (try dsimp only); (exact hHeld.kept jj139)
      clear hK K
      try simp only [Act.put, List.getElem_toArray, List.getElem_cons_succ, List.getElem_cons_zero, List.setIfInBounds_toArray, List.set_cons_zero, List.set_cons_succ]
      have s46_139 := hide rr139
      have hK139 := hide ((hK138.out).trans jj139 (by simp))
      refine wpAnyH_ready (rs := [47, 53]) (by as_aux_lemma => kernel_rfl) (by simp) ?_
      refine AllReadyH.cons rfl (fun K hK => ?_) (AllReadyH.cons rfl (fun K hK => ?_) AllReadyH.nil)
      · rw [if_pos (by rfl)]
        refine wp_fnK _ _ _ rfl (enters_of Tryd.func37 (by as_aux_lemma => kernel_rfl) rfl) _ rfl _ (hard_any _ _ _ _) ?_
        intro V140 hj140
        refine hK.out _ _ ?_ (fun hHeld => ?_)
        · (try dsimp only); (exact hHeld.kept hj140)
        clear hK K
        try simp only [Act.put, List.getElem_toArray, List.getElem_cons_succ, List.getElem_cons_zero, List.setIfInBounds_toArray, List.set_cons_zero, List.set_cons_succ]
        have hK140 := hide ((hK139.out).trans hj140 (by simp))
        have s46_140 := hide (Rd.kept (s46_139.out) hj140 (by simp))
        refine wpAnyH_ready (rs := [53]) (by as_aux_lemma => kernel_rfl) (by simp) ?_
        refine AllReadyH.cons rfl (fun K hK => ?_) AllReadyH.nil
        rw [if_pos (by rfl)]
        refine wp_bsC 5 _ rfl [nA, nW, zeroK, eC, eC] rfl (by decide) (by decide) (by as_aux_lemma => kernel_rfl) ?_
        intro g141 V141 rr141 jj141
        refine hK.out _ _ ?_ (fun hHeld => ?_)
        · (try dsimp only); (exact hHeld.kept jj141)
        clear hK K
        try simp only [Act.put, List.getElem_toArray, List.getElem_cons_succ, List.getElem_cons_zero, List.setIfInBounds_toArray, List.set_cons_zero, List.set_cons_succ]
        have s53_141 := hide rr141
        have hK141 := hide ((hK140.out).trans jj141 (by simp))
        have s46_141 := hide (Rd.kept (s46_140.out) jj141 (by simp))
        have F1 := hHeld
        have F2 := (hK141.out)
        have F3 := (s46_141.out)
        have F4 := (s53_141.out)
        exact H g139 g141 _ ⟨F1, F2, F3, F4⟩
      · rw [if_pos (by rfl)]
        refine wp_bsC 5 _ rfl [nA, nW, zeroK, eC, eC] rfl (by decide) (by decide) (by as_aux_lemma => kernel_rfl) ?_
        intro g142 V142 rr142 jj142
        refine hK.out _ _ ?_ (fun hHeld => ?_)
        · (try dsimp only); (exact hHeld.kept jj142)
        clear hK K
        try simp only [Act.put, List.getElem_toArray, List.getElem_cons_succ, List.getElem_cons_zero, List.setIfInBounds_toArray, List.set_cons_zero, List.set_cons_succ]
        have s53_142 := hide rr142
        have hK142 := hide ((hK139.out).trans jj142 (by simp))
        have s46_142 := hide (Rd.kept (s46_139.out) jj142 (by simp))
        refine wpAnyH_ready (rs := [47]) (by as_aux_lemma => kernel_rfl) (by simp) ?_
        refine AllReadyH.cons rfl (fun K hK => ?_) AllReadyH.nil
        rw [if_pos (by rfl)]
        refine wp_fnK _ _ _ rfl (enters_of Tryd.func37 (by as_aux_lemma => kernel_rfl) rfl) _ rfl _ (hard_any _ _ _ _) ?_
        intro V143 hj143
        refine hK.out _ _ ?_ (fun hHeld => ?_)
        · (try dsimp only); (exact hHeld.kept hj143)
        clear hK K
        try simp only [Act.put, List.getElem_toArray, List.getElem_cons_succ, List.getElem_cons_zero, List.setIfInBounds_toArray, List.set_cons_zero, List.set_cons_succ]
        have hK143 := hide ((hK142.out).trans hj143 (by simp))
        have s46_143 := hide (Rd.kept (s46_142.out) hj143 (by simp))
        have s53_143 := hide (Rd.kept (s53_142.out) hj143 (by simp))
        have F1 := hHeld
        have F2 := (hK143.out)
        have F3 := (s46_143.out)
        have F4 := (s53_143.out)
        exact H g139 g142 _ ⟨F1, F2, F3, F4⟩
    · rw [if_pos (by rfl)]
      refine wp_bsC 5 _ rfl [nA, nW, zeroK, eC, eC] rfl (by decide) (by decide) (by as_aux_lemma => kernel_rfl) ?_
      intro g144 V144 rr144 jj144
      refine hK.out _ _ ?_ (fun hHeld => ?_)
      · (try dsimp only); (exact hHeld.kept jj144)
      clear hK K
      try simp only [Act.put, List.getElem_toArray, List.getElem_cons_succ, List.getElem_cons_zero, List.setIfInBounds_toArray, List.set_cons_zero, List.set_cons_succ]
      have s53_144 := hide rr144
      have hK144 := hide ((hK138.out).trans jj144 (by simp))
      refine wpAnyH_ready (rs := [46]) (by as_aux_lemma => kernel_rfl) (by simp) ?_
      refine AllReadyH.cons rfl (fun K hK => ?_) AllReadyH.nil
      rw [if_pos (by rfl)]
      refine wp_bsC 3 _ rfl [nA, nW, zeroK] rfl (by decide) (by decide) (by as_aux_lemma => kernel_rfl) ?_
      intro g145 V145 rr145 jj145
      refine hK.out _ _ ?_ (fun hHeld => ?_)
      · (try dsimp only); (exact hHeld.kept jj145)
      clear hK K
      try simp only [Act.put, List.getElem_toArray, List.getElem_cons_succ, List.getElem_cons_zero, List.setIfInBounds_toArray, List.set_cons_zero, List.set_cons_succ]
      have s46_145 := hide rr145
      have hK145 := hide ((hK144.out).trans jj145 (by simp))
      have s53_145 := hide (Rd.kept (s53_144.out) jj145 (by simp))
      refine wpAnyH_ready (rs := [47]) (by as_aux_lemma => kernel_rfl) (by simp) ?_
      refine AllReadyH.cons rfl (fun K hK => ?_) AllReadyH.nil
      rw [if_pos (by rfl)]
      refine wp_fnK _ _ _ rfl (enters_of Tryd.func37 (by as_aux_lemma => kernel_rfl) rfl) _ rfl _ (hard_any _ _ _ _) ?_
      intro V146 hj146
      refine hK.out _ _ ?_ (fun hHeld => ?_)
      · (try dsimp only); (exact hHeld.kept hj146)
      clear hK K
      try simp only [Act.put, List.getElem_toArray, List.getElem_cons_succ, List.getElem_cons_zero, List.setIfInBounds_toArray, List.set_cons_zero, List.set_cons_succ]
      have hK146 := hide ((hK145.out).trans hj146 (by simp))
      have s53_146 := hide (Rd.kept (s53_145.out) hj146 (by simp))
      have s46_146 := hide (Rd.kept (s46_145.out) hj146 (by simp))
      have F1 := hHeld
      have F2 := (hK146.out)
      have F3 := (s46_146.out)
      have F4 := (s53_146.out)
      exact H g145 g144 _ ⟨F1, F2, F3, F4⟩
  case' hh3 => intro gs3_46 gs3_53 Vs3 hF
  have hHeld := hF.1
  have hKs3 := hide hF.2.1
  have qs3_46 := hide (hF.2.2.1)
  have qs3_53 := hide (hF.2.2.2)
  clear hF
  refine wpAnyH_ready (rs := [54]) (by as_aux_lemma => kernel_rfl) (by simp) ?_
  refine AllReadyH.cons rfl (fun K hK => ?_) AllReadyH.nil
  rw [if_pos (by rfl)]
  refine wp_fnK _ _ _ rfl (enters_of Tryd.func37 (by as_aux_lemma => kernel_rfl) rfl) _ rfl _ (hard_any _ _ _ _) ?_
  intro V147 hj147
  refine hK.out _ _ ?_ (fun hHeld => ?_)
  · (try dsimp only); (exact hHeld.kept hj147)
  clear hK K
  try simp only [Act.put, List.getElem_toArray, List.getElem_cons_succ, List.getElem_cons_zero, List.setIfInBounds_toArray, List.set_cons_zero, List.set_cons_succ]
  have hK147 := hide ((hKs3.out).trans hj147 (by simp))
  have s46_147 := hide (Rd.kept (qs3_46.out) hj147 (by simp))
  have s53_147 := hide (Rd.kept (qs3_53.out) hj147 (by simp))
  refine wpAnyH_ready (rs := [55]) (by as_aux_lemma => kernel_rfl) (by simp) ?_
  refine AllReadyH.cons rfl (fun K hK => ?_) AllReadyH.nil
  rw [if_pos (by rfl)]
  refine wp_fnK _ _ _ rfl (enters_of Tryd.func29 (by as_aux_lemma => kernel_rfl) rfl) _ rfl _ (fits_ask Fit6_any _ 3 3 [nA, nW, zeroK] false (5) _ 5 5 false [nA, nW, zeroK, eC, eC] 0 true _ (ht0.out.kept (hK147.out)) (s46_147.out) (by decide) (Nat.le_refl _) (by decide) (s53_147.out) (by decide +kernel)) ?_
  intro V148 hj148
  refine hK.out _ _ ?_ (fun hHeld => ?_)
  · (try dsimp only); (exact hHeld.kept hj148)
  clear hK K
  try simp only [Act.put, List.getElem_toArray, List.getElem_cons_succ, List.getElem_cons_zero, List.setIfInBounds_toArray, List.set_cons_zero, List.set_cons_succ]
  have hK148 := hide ((hK147.out).trans hj148 (by simp))
  refine wpAnyH_take (i := 56) (v := ?_) rfl (by as_aux_lemma => kernel_rfl) (by as_aux_lemma => kernel_rfl) (by as_aux_lemma => kernel_rfl) (fun _ _ _ h => h) (Or.inl ⟨by rfl, ?_⟩) (by assumption) ?_
  rotate_left
  · (intro wq hSw; (try dsimp only at hSw); go_simp; try with_reducible rfl)
  try simp only [Act.put, List.getElem_toArray, List.getElem_cons_succ, List.getElem_cons_zero, List.setIfInBounds_toArray, List.set_cons_zero, List.set_cons_succ]
  refine wpAnyH_take (i := 57) (v := ?_) rfl (by as_aux_lemma => kernel_rfl) (by as_aux_lemma => kernel_rfl) (by as_aux_lemma => kernel_rfl) (fun _ _ _ h => h) (Or.inl ⟨by rfl, ?_⟩) (by assumption) ?_
  rotate_left
  · (intro wq hSw; (try dsimp only at hSw); go_simp; try with_reducible rfl)
  try simp only [Act.put, List.getElem_toArray, List.getElem_cons_succ, List.getElem_cons_zero, List.setIfInBounds_toArray, List.set_cons_zero, List.set_cons_succ]
  refine wpAnyH_take (i := 58) (v := ?_) rfl (by as_aux_lemma => kernel_rfl) (by as_aux_lemma => kernel_rfl) (by as_aux_lemma => kernel_rfl) (fun _ _ _ h => h) (Or.inl ⟨by rfl, ?_⟩) (by assumption) ?_
  rotate_left
  · (intro wq hSw; (try dsimp only at hSw); go_simp; try with_reducible rfl)
  try simp only [Act.put, List.getElem_toArray, List.getElem_cons_succ, List.getElem_cons_zero, List.setIfInBounds_toArray, List.set_cons_zero, List.set_cons_succ]
  refine wpAnyH_take (i := 59) (v := kV nA) rfl (by as_aux_lemma => kernel_rfl) (by as_aux_lemma => kernel_rfl) (by as_aux_lemma => kernel_rfl) (fun _ _ _ h => h) (yieldsIf_load_mid (by rfl) 60 _ rfl b1 0 rfl (kcL nA) _ (fun _ h => h.c1.range) Tryd.underlying60 rfl (by as_aux_lemma => kernel_rfl)) (by assumption) ?_
  try simp only [Act.put, List.getElem_toArray, List.getElem_cons_succ, List.getElem_cons_zero, List.setIfInBounds_toArray, List.set_cons_zero, List.set_cons_succ]
  refine wpAnyH_take (i := 60) (v := kV nW) rfl (by as_aux_lemma => kernel_rfl) (by as_aux_lemma => kernel_rfl) (by as_aux_lemma => kernel_rfl) (fun _ _ _ h => h) (yieldsIf_load_mid (by rfl) 60 _ rfl b2 0 rfl (kcL nW) _ (fun _ h => h.c2.range) Tryd.underlying60 rfl (by as_aux_lemma => kernel_rfl)) (by assumption) ?_
  try simp only [Act.put, List.getElem_toArray, List.getElem_cons_succ, List.getElem_cons_zero, List.setIfInBounds_toArray, List.set_cons_zero, List.set_cons_succ]
  refine wpAnyH_take (i := 61) (v := kV zeroK) rfl (by as_aux_lemma => kernel_rfl) (by as_aux_lemma => kernel_rfl) (by as_aux_lemma => kernel_rfl) (fun _ _ _ h => h) (yieldsIf_load_mid (by rfl) 60 _ rfl b3 0 rfl (kcL zeroK) _ (fun _ h => h.c3.range) Tryd.underlying60 rfl (by as_aux_lemma => kernel_rfl)) (by assumption) ?_
  try simp only [Act.put, List.getElem_toArray, List.getElem_cons_succ, List.getElem_cons_zero, List.setIfInBounds_toArray, List.set_cons_zero, List.set_cons_succ]
  refine wpAnyH_take (i := 64) (v := .agg #[.slice none 0 0, .bool false]) rfl (by as_aux_lemma => kernel_rfl) (by as_aux_lemma => kernel_rfl) (by as_aux_lemma => kernel_rfl) (fun _ _ _ h => h) (yieldsIf_load_mid (by rfl) 27 _ rfl b6 0 rfl (linL none 0 0 false) _ (fun _ h => h.l6.range) Tryd.underlying27 rfl (by as_aux_lemma => kernel_rfl)) (by assumption) ?_
  try simp only [Act.put, List.getElem_toArray, List.getElem_cons_succ, List.getElem_cons_zero, List.setIfInBounds_toArray, List.set_cons_zero, List.set_cons_succ]
  refine wpAnyH_ready (rs := [62]) (by as_aux_lemma => kernel_rfl) (by simp) ?_
  refine AllReadyH.cons rfl (fun K hK => ?_) AllReadyH.nil
  rw [if_pos (by rfl)]
  refine wp_bsC 3 _ rfl [nA, nW, zeroK] rfl (by decide) (by decide) (by as_aux_lemma => kernel_rfl) ?_
  intro g149 V149 rr149 jj149
  refine hK.out _ _ ?_ (fun hHeld => ?_)
  · (try dsimp only); (exact hHeld.kept jj149)
  clear hK K
  try simp only [Act.put, List.getElem_toArray, List.getElem_cons_succ, List.getElem_cons_zero, List.setIfInBounds_toArray, List.set_cons_zero, List.set_cons_succ]
  have s62_149 := hide rr149
  have hK149 := hide ((hK148.out).trans jj149 (by simp))
  refine wpAnyH_ready (rs := [63]) (by as_aux_lemma => kernel_rfl) (by simp) ?_
  refine AllReadyH.cons rfl (fun K hK => ?_) AllReadyH.nil
  rw [if_pos (by rfl)]
  refine wp_fnK _ _ _ rfl (enters_of Tryd.func37 (by as_aux_lemma => kernel_rfl) rfl) _ rfl _ (hard_any _ _ _ _) ?_
  intro V150 hj150
  refine hK.out _ _ ?_ (fun hHeld => ?_)
  · (try dsimp only); (exact hHeld.kept hj150)
  clear hK K
  try simp only [Act.put, List.getElem_toArray, List.getElem_cons_succ, List.getElem_cons_zero, List.setIfInBounds_toArray, List.set_cons_zero, List.set_cons_succ]
  have hK150 := hide ((hK149.out).trans hj150 (by simp))
  have s62_150 := hide (Rd.kept (s62_149.out) hj150 (by simp))
  refine wpAnyH_ready (rs := [65]) (by as_aux_lemma => kernel_rfl) (by simp) ?_
  refine AllReadyH.cons rfl (fun K hK => ?_) AllReadyH.nil
  rw [if_pos (by rfl)]
  refine wp_fnK _ _ _ rfl (enters_of Tryd.func29 (by as_aux_lemma => kernel_rfl) rfl) _ rfl _ (fits_ask Fit6_any _ 3 3 [nA, nW, zeroK] false (-1) _ 0 0 false [] 2 true _ (ht0.out.kept (hK150.out)) (s62_150.out) (by decide) (Nat.le_refl _) (by decide) (Rd.nil _ _ _) (by decide +kernel)) ?_
  intro V151 hj151
  refine hK.out _ _ ?_ (fun hHeld => ?_)
  · (try dsimp only); (exact hHeld.kept hj151)
  clear hK K
  try simp only [Act.put, List.getElem_toArray, List.getElem_cons_succ, List.getElem_cons_zero, List.setIfInBounds_toArray, List.set_cons_zero, List.set_cons_succ]
  have hK151 := hide ((hK150.out).trans hj151 (by simp))
  refine wpAnyH_take (i := 66) (v := ?_) rfl (by as_aux_lemma => kernel_rfl) (by as_aux_lemma => kernel_rfl) (by as_aux_lemma => kernel_rfl) (fun _ _ _ h => h) (Or.inl ⟨by rfl, ?_⟩) (by assumption) ?_
  rotate_left
  · (intro wq hSw; (try dsimp only at hSw); go_simp; try with_reducible rfl)
  try simp only [Act.put, List.getElem_toArray, List.getElem_cons_succ, List.getElem_cons_zero, List.setIfInBounds_toArray, List.set_cons_zero, List.set_cons_succ]
  refine wpAnyH_take (i := 67) (v := ?_) rfl (by as_aux_lemma => kernel_rfl) (by as_aux_lemma => kernel_rfl) (by as_aux_lemma => kernel_rfl) (fun _ _ _ h => h) (Or.inl ⟨by rfl, ?_⟩) (by assumption) ?_
  rotate_left
  · (intro wq hSw; (try dsimp only at hSw); go_simp; try with_reducible rfl)
  try simp only [Act.put, List.getElem_toArray, List.getElem_cons_succ, List.getElem_cons_zero, List.setIfInBounds_toArray, List.set_cons_zero, List.set_cons_succ]
  refine wpAnyH_take (i := 68) (v := ?_) rfl (by as_aux_lemma => kernel_rfl) (by as_aux_lemma => kernel_rfl) (by as_aux_lemma => kernel_rfl) (fun _ _ _ h => h) (Or.inl ⟨by rfl, ?_⟩) (by assumption) ?_
  rotate_left
  · (intro wq hSw; (try dsimp only at hSw); go_simp; try with_reducible rfl)
  try simp only [Act.put, List.getElem_toArray, List.getElem_cons_succ, List.getElem_cons_zero, List.setIfInBounds_toArray, List.set_cons_zero, List.set_cons_succ]
  refine wpAnyH_take (i := 69) (v := kV eC) rfl (by as_aux_lemma => kernel_rfl) (by as_aux_lemma => kernel_rfl) (by as_aux_lemma => kernel_rfl) (fun _ _ _ h => h) (yieldsIf_load_mid (by rfl) 60 _ rfl b4 0 rfl (kcL eC) _ (fun _ h => h.c4.range) Tryd.underlying60 rfl (by as_aux_lemma => kernel_rfl)) (by assumption) ?_
  try simp only [Act.put, List.getElem_toArray, List.getElem_cons_succ, List.getElem_cons_zero, List.setIfInBounds_toArray, List.set_cons_zero, List.set_cons_succ]
  refine wpAnyH_take (i := 70) (v := kV nA) rfl (by as_aux_lemma => kernel_rfl) (by as_aux_lemma => kernel_rfl) (by as_aux_lemma => kernel_rfl) (fun _ _ _ h => h) (yieldsIf_load_mid (by rfl) 60 _ rfl b1 0 rfl (kcL nA) _ (fun _ h => h.c1.range) Tryd.underlying60 rfl (by as_aux_lemma => kernel_rfl)) (by assumption) ?_
  try simp only [Act.put, List.getElem_toArray, List.getElem_cons_succ, List.getElem_cons_zero, List.setIfInBounds_toArray, List.set_cons_zero, List.set_cons_succ]
  refine wpAnyH_take (i := 71) (v := kV eC) rfl (by as_aux_lemma => kernel_rfl) (by as_aux_lemma => kernel_rfl) (by as_aux_lemma => kernel_rfl) (fun _ _ _ h => h) (yieldsIf_load_mid (by rfl) 60 _ rfl b4 0 rfl (kcL eC) _ (fun _ h => h.c4.range) Tryd.underlying60 rfl (by as_aux_lemma => kernel_rfl)) (by assumption) ?_
  try simp only [Act.put, List.getElem_toArray, List.getElem_cons_succ, List.getElem_cons_zero, List.setIfInBounds_toArray, List.set_cons_zero, List.set_cons_succ]
  refine wpAnyH_take (i := 72) (v := kV eC) rfl (by as_aux_lemma => kernel_rfl) (by as_aux_lemma => kernel_rfl) (by as_aux_lemma => kernel_rfl) (fun _ _ _ h => h) (yieldsIf_load_mid (by rfl) 60 _ rfl b4 0 rfl (kcL eC) _ (fun _ h => h.c4.range) Tryd.underlying60 rfl (by as_aux_lemma => kernel_rfl)) (by assumption) ?_
  try simp only [Act.put, List.getElem_toArray, List.getElem_cons_succ, List.getElem_cons_zero, List.setIfInBounds_toArray, List.set_cons_zero, List.set_cons_succ]
  refine wpAnyH_ready (rs := [73]) (by as_aux_lemma => kernel_rfl) (by simp) ?_
  refine AllReadyH.cons rfl (fun K hK => ?_) AllReadyH.nil
  rw [if_pos (by rfl)]
  refine wp_bsC 4 _ rfl [eC, nA, eC, eC] rfl (by decide) (by decide) (by as_aux_lemma => kernel_rfl) ?_
  intro g152 V152 rr152 jj152
  refine hK.out _ _ ?_ (fun hHeld => ?_)
  · (try dsimp only); (exact hHeld.kept jj152)
  clear hK K
  try simp only [Act.put, List.getElem_toArray, List.getElem_cons_succ, List.getElem_cons_zero, List.setIfInBounds_toArray, List.set_cons_zero, List.set_cons_succ]
  have s73_152 := hide rr152
  have hK152 := hide ((hK151.out).trans jj152 (by simp))
  refine wpAnyH_ready (rs := [74]) (by as_aux_lemma => kernel_rfl) (by simp) ?_
  refine AllReadyH.cons rfl (fun K hK => ?_) AllReadyH.nil
  rw [if_pos (by rfl)]
  refine wp_fnK _ _ _ rfl (enters_of Tryd.func37 (by as_aux_lemma => kernel_rfl) rfl) _ rfl _ (hard_any _ _ _ _) ?_
  intro V153 hj153
  refine hK.out _ _ ?_ (fun hHeld => ?_)
  · (try dsimp only); (exact hHeld.kept hj153)
  clear hK K
  try simp only [Act.put, List.getElem_toArray, List.getElem_cons_succ, List.getElem_cons_zero, List.setIfInBounds_toArray, List.set_cons_zero, List.set_cons_succ]
  have hK153 := hide ((hK152.out).trans hj153 (by simp))
  have s73_153 := hide (Rd.kept (s73_152.out) hj153 (by simp))
  refine wpAnyH_ready (rs := [75]) (by as_aux_lemma => kernel_rfl) (by simp) ?_
  refine AllReadyH.cons rfl (fun K hK => ?_) AllReadyH.nil
  rw [if_pos (by rfl)]
  refine wp_fnK _ _ _ rfl (enters_of Tryd.func22 (by as_aux_lemma => kernel_rfl) rfl) _ rfl _ (text6_ask [eC, nA, eC, eC] ⟨#[32, 97]⟩ (by as_aux_lemma => kernel_rfl) _ 4 4 false _ (s73_153.out) (by decide) (Nat.le_refl _) (by decide)) ?_
  intro V154 hj154
  refine hK.out _ _ ?_ (fun hHeld => ?_)
  · (try dsimp only); (exact hHeld.kept hj154)
  clear hK K
  try simp only [Act.put, List.getElem_toArray, List.getElem_cons_succ, List.getElem_cons_zero, List.setIfInBounds_toArray, List.set_cons_zero, List.set_cons_succ]
  have hK154 := hide ((hK153.out).trans hj154 (by simp))
  refine wpAnyH_take (i := 76) (v := ?_) rfl (by as_aux_lemma => kernel_rfl) (by as_aux_lemma => kernel_rfl) (by as_aux_lemma => kernel_rfl) (fun _ _ _ h => h) (Or.inl ⟨by rfl, ?_⟩) (by assumption) ?_
  rotate_left
  · (intro wq hSw; (try dsimp only at hSw); go_simp; try with_reducible rfl)
  try simp only [Act.put, List.getElem_toArray, List.getElem_cons_succ, List.getElem_cons_zero, List.setIfInBounds_toArray, List.set_cons_zero, List.set_cons_succ]
  refine wpAnyH_take (i := 77) (v := ?_) rfl (by as_aux_lemma => kernel_rfl) (by as_aux_lemma => kernel_rfl) (by as_aux_lemma => kernel_rfl) (fun _ _ _ h => h) (Or.inl ⟨by rfl, ?_⟩) (by assumption) ?_
  rotate_left
  · (intro wq hSw; (try dsimp only at hSw); go_simp; try with_reducible rfl)
  try simp only [Act.put, List.getElem_toArray, List.getElem_cons_succ, List.getElem_cons_zero, List.setIfInBounds_toArray, List.set_cons_zero, List.set_cons_succ]
  refine wpAnyH_done (by as_aux_lemma => kernel_rfl) ?_ _
  go_upto_region 10 with fail
  simp only [List.append_eq, List.cons_append, List.nil_append]
  have hN21 := hide hHeld
  have hK21 := hide (hK154.out)
  clear hHeld
  refine wp_region_held_drew (S := (fun w' => (Kn6 w' b1 b2 b3 b4 b5 b6 b7 g7))) (by as_aux_lemma => kernel_rfl) ?_ (fun hHeld => ?_)
  · (try dsimp only); (exact hN21.out.kept (Kept.refl [] _).drew)
  refine wpAnyH_take (i := 0) (v := kV nA) rfl (by as_aux_lemma => kernel_rfl) (by as_aux_lemma => kernel_rfl) (by as_aux_lemma => kernel_rfl) (fun _ _ _ h => h) (yieldsIf_load_mid (by rfl) 60 _ rfl b1 0 rfl (kcL nA) _ (fun _ h => h.c1.range) Tryd.underlying60 rfl (by as_aux_lemma => kernel_rfl)) (by assumption) ?_
  try simp only [Act.put, List.getElem_toArray, List.getElem_cons_succ, List.getElem_cons_zero, List.setIfInBounds_toArray, List.set_cons_zero, List.set_cons_succ]
  refine wpAnyH_take (i := 1) (v := kV nW) rfl (by as_aux_lemma => kernel_rfl) (by as_aux_lemma => kernel_rfl) (by as_aux_lemma => kernel_rfl) (fun _ _ _ h => h) (yieldsIf_load_mid (by rfl) 60 _ rfl b2 0 rfl (kcL nW) _ (fun _ h => h.c2.range) Tryd.underlying60 rfl (by as_aux_lemma => kernel_rfl)) (by assumption) ?_
  try simp only [Act.put, List.getElem_toArray, List.getElem_cons_succ, List.getElem_cons_zero, List.setIfInBounds_toArray, List.set_cons_zero, List.set_cons_succ]
  refine wpAnyH_take (i := 2) (v := kV zeroK) rfl (by as_aux_lemma => kernel_rfl) (by as_aux_lemma => kernel_rfl) (by as_aux_lemma => kernel_rfl) (fun _ _ _ h => h) (yieldsIf_load_mid (by rfl) 60 _ rfl b3 0 rfl (kcL zeroK) _ (fun _ h => h.c3.range) Tryd.underlying60 rfl (by as_aux_lemma => kernel_rfl)) (by assumption) ?_
  try simp only [Act.put, List.getElem_toArray, List.getElem_cons_succ, List.getElem_cons_zero, List.setIfInBounds_toArray, List.set_cons_zero, List.set_cons_succ]
  refine wpAnyH_take (i := 3) (v := kV eC) rfl (by as_aux_lemma => kernel_rfl) (by as_aux_lemma => kernel_rfl) (by as_aux_lemma => kernel_rfl) (fun _ _ _ h => h) (yieldsIf_load_mid (by rfl) 60 _ rfl b4 0 rfl (kcL eC) _ (fun _ h => h.c4.range) Tryd.underlying60 rfl (by as_aux_lemma => kernel_rfl)) (by assumption) ?_
  try simp only [Act.put, List.getElem_toArray, List.getElem_cons_succ, List.getElem_cons_zero, List.setIfInBounds_toArray, List.set_cons_zero, List.set_cons_succ]
  refine wpAnyH_take (i := 6) (v := kV nA) rfl (by as_aux_lemma => kernel_rfl) (by as_aux_lemma => kernel_rfl) (by as_aux_lemma => kernel_rfl) (fun _ _ _ h => h) (yieldsIf_load_mid (by rfl) 60 _ rfl b1 0 rfl (kcL nA) _ (fun _ h => h.c1.range) Tryd.underlying60 rfl (by as_aux_lemma => kernel_rfl)) (by assumption) ?_
  try simp only [Act.put, List.getElem_toArray, List.getElem_cons_succ, List.getElem_cons_zero, List.setIfInBounds_toArray, List.set_cons_zero, List.set_cons_succ]
  refine wpAnyH_take (i := 9) (v := kV nA) rfl (by as_aux_lemma => kernel_rfl) (by as_aux_lemma => kernel_rfl) (by as_aux_lemma => kernel_rfl) (fun _ _ _ h => h) (yieldsIf_load_mid (by rfl) 60 _ rfl b1 0 rfl (kcL nA) _ (fun _ h => h.c1.range) Tryd.underlying60 rfl (by as_aux_lemma => kernel_rfl)) (by assumption) ?_
  try simp only [Act.put, List.getElem_toArray, List.getElem_cons_succ, List.getElem_cons_zero, List.setIfInBounds_toArray, List.set_cons_zero, List.set_cons_succ]
  refine wpAnyH_take (i := 10) (v := kV eC) rfl (by as_aux_lemma => kernel_rfl) (by as_aux_lemma => kernel_rfl) (by as_aux_lemma => kernel_rfl) (fun _ _ _ h => h) (yieldsIf_load_mid (by rfl) 60 _ rfl b4 0 rfl (kcL eC) _ (fun _ h => h.c4.range) Tryd.underlying60 rfl (by as_aux_lemma => kernel_rfl)) (by assumption) ?_
  try simp only [Act.put, List.getElem_toArray, List.getElem_cons_succ, List.getElem_cons_zero, List.setIfInBounds_toArray, List.set_cons_zero, List.set_cons_succ]
  refine wpAnyH_take (i := 11) (v := kV nA) rfl (by as_aux_lemma => kernel_rfl) (by as_aux_lemma => kernel_rfl) (by as_aux_lemma => kernel_rfl) (fun _ _ _ h => h) (yieldsIf_load_mid (by rfl) 60 _ rfl b1 0 rfl (kcL nA) _ (fun _ h => h.c1.range) Tryd.underlying60 rfl (by as_aux_lemma => kernel_rfl)) (by assumption) ?_
  try simp only [Act.put, List.getElem_toArray, List.getElem_cons_succ, List.getElem_cons_zero, List.setIfInBounds_toArray, List.set_cons_zero, List.set_cons_succ]
  refine wpAnyH_take (i := 12) (v := kV eC) rfl (by as_aux_lemma => kernel_rfl) (by as_aux_lemma => kernel_rfl) (by as_aux_lemma => kernel_rfl) (fun _ _ _ h => h) (yieldsIf_load_mid (by rfl) 60 _ rfl b4 0 rfl (kcL eC) _ (fun _ h => h.c4.range) Tryd.underlying60 rfl (by as_aux_lemma => kernel_rfl)) (by assumption) ?_
  try simp only [Act.put, List.getElem_toArray, List.getElem_cons_succ, List.getElem_cons_zero, List.setIfInBounds_toArray, List.set_cons_zero, List.set_cons_succ]
  refine' shareN3 (F := (fun v0 v1 v2 W => (Kn6 W b1 b2 b3 b4 b5 b6 b7 g7) ∧ Kept [] w W ∧ Rd W (some ⟨v0, 0, none⟩) 4 16 (cellsV [nA, nW, zeroK, eC]) ∧ Rd W (some ⟨v1, 0, none⟩) 1 16 (cellsV [nA]) ∧ Rd W (some ⟨v2, 0, none⟩) 4 16 (cellsV [nA, eC, nA, eC]))) (fun H => ?kk4) ?hh4
  case kk4 =>
    refine wpAnyH_ready (rs := [4, 7, 13]) (by as_aux_lemma => kernel_rfl) (by simp) ?_
    refine AllReadyH.cons rfl (fun K hK => ?_) (AllReadyH.cons rfl (fun K hK => ?_) (AllReadyH.cons rfl (fun K hK => ?_) AllReadyH.nil))
    · rw [if_pos (by rfl)]
      refine wp_bsC 4 _ rfl [nA, nW, zeroK, eC] rfl (by decide) (by decide) (by as_aux_lemma => kernel_rfl) ?_
      intro g155 V155 rr155 jj155
      refine hK.out _ _ ?_ (fun hHeld => ?_)
      · (try dsimp only); (exact hHeld.kept jj155)
      clear hK K
      try simp only [Act.put, List.getElem_toArray, List.getElem_cons_succ, List.getElem_cons_zero, List.setIfInBounds_toArray, List.set_cons_zero, List.set_cons_succ]
      have s4_155 := hide rr155
      have hK155 := hide ((hK21.out.drew).trans jj155 (by simp))
      refine wpAnyH_ready (rs := [5, 7, 13]) (by as_aux_lemma => kernel_rfl) (by simp) ?_
      refine AllReadyH.cons rfl (fun K hK => ?_) (AllReadyH.cons rfl (fun K hK => ?_) (AllReadyH.cons rfl (fun K hK => ?_) AllReadyH.nil))
      · rw [if_pos (by rfl)]
        refine wp_fnK _ _ _ rfl (enters_of Tryd.func37 (by as_aux_lemma => kernel_rfl) rfl) _ rfl _ (hard_any _ _ _ _) ?_
        intro V156 hj156
        refine hK.out _ _ ?_ (fun hHeld => ?_)
        · (try dsimp only); (exact hHeld.kept hj156)
        clear hK K
        try simp only [Act.put, List.getElem_toArray, List.getElem_cons_succ, List.getElem_cons_zero, List.setIfInBounds_toArray, List.set_cons_zero, List.set_cons_succ]
        have hK156 := hide ((hK155.out).trans hj156 (by simp))
        have s4_156 := hide (Rd.kept (s4_155.out) hj156 (by simp))
        refine wpAnyH_ready (rs := [7, 13]) (by as_aux_lemma => kernel_rfl) (by simp) ?_
        refine AllReadyH.cons rfl (fun K hK => ?_) (AllReadyH.cons rfl (fun K hK => ?_) AllReadyH.nil)
        · rw [if_pos (by rfl)]
          refine wp_bsC 1 _ rfl [nA] rfl (by decide) (by decide) (by as_aux_lemma => kernel_rfl) ?_
          intro g157 V157 rr157 jj157
          refine hK.out _ _ ?_ (fun hHeld => ?_)
          · (try dsimp only); (exact hHeld.kept jj157)
          clear hK K
          try simp only [Act.put, List.getElem_toArray, List.getElem_cons_succ, List.getElem_cons_zero, List.setIfInBounds_toArray, List.set_cons_zero, List.set_cons_succ]
          have s7_157 := hide rr157
          have hK157 := hide ((hK156.out).trans jj157 (by simp))
          have s4_157 := hide (Rd.kept (s4_156.out) jj157 (by simp))
          refine wpAnyH_ready (rs := [8, 13]) (by as_aux_lemma => kernel_rfl) (by simp) ?_
          refine AllReadyH.cons rfl (fun K hK => ?_) (AllReadyH.cons rfl (fun K hK => ?_) AllReadyH.nil)
          · rw [if_pos (by rfl)]
            refine wp_fnS _ _ _ rfl (enters_of Tryd.func38 (by as_aux_lemma => kernel_rfl) rfl) _ rfl _ (list6_any _ _ _ _) ?_
            refine hK.out _ _ ?_ (fun hHeld => ?_)
            · (try dsimp only); (exact hHeld)
            clear hK K
            try simp only [Act.put, List.getElem_toArray, List.getElem_cons_succ, List.getElem_cons_zero, List.setIfInBounds_toArray, List.set_cons_zero, List.set_cons_succ]
            refine wpAnyH_ready (rs := [13]) (by as_aux_lemma => kernel_rfl) (by simp) ?_
            refine AllReadyH.cons rfl (fun K hK => ?_) AllReadyH.nil
            rw [if_pos (by rfl)]
            refine wp_bsC 4 _ rfl [nA, eC, nA, eC] rfl (by decide) (by decide) (by as_aux_lemma => kernel_rfl) ?_
            intro g158 V158 rr158 jj158
            refine hK.out _ _ ?_ (fun hHeld => ?_)
            · (try dsimp only); (exact hHeld.kept jj158)
            clear hK K
            try simp only [Act.put, List.getElem_toArray, List.getElem_cons_succ, List.getElem_cons_zero, List.setIfInBounds_toArray, List.set_cons_zero, List.set_cons_succ]
            have s13_158 := hide rr158
            have hK158 := hide ((hK157.out).trans jj158 (by simp))
            have s4_158 := hide (Rd.kept (s4_157.out) jj158 (by simp))
            have s7_158 := hide (Rd.kept (s7_157.out) jj158 (by simp))
            have F1 := hHeld
            have F2 := (hK158.out)
            have F3 := (s4_158.out)
            have F4 := (s7_158.out)
            have F5 := (s13_158.out)
            exact H g155 g157 g158 _ ⟨F1, F2, F3, F4, F5⟩
          · rw [if_pos (by rfl)]
            refine wp_bsC 4 _ rfl [nA, eC, nA, eC] rfl (by decide) (by decide) (by as_aux_lemma => kernel_rfl) ?_
            intro g159 V159 rr159 jj159
            refine hK.out _ _ ?_ (fun hHeld => ?_)
            · (try dsimp only); (exact hHeld.kept jj159)
            clear hK K
            try simp only [Act.put, List.getElem_toArray, List.getElem_cons_succ, List.getElem_cons_zero, List.setIfInBounds_toArray, List.set_cons_zero, List.set_cons_succ]
            have s13_159 := hide rr159
            have hK159 := hide ((hK157.out).trans jj159 (by simp))
            have s4_159 := hide (Rd.kept (s4_157.out) jj159 (by simp))
            have s7_159 := hide (Rd.kept (s7_157.out) jj159 (by simp))
            refine wpAnyH_ready (rs := [8]) (by as_aux_lemma => kernel_rfl) (by simp) ?_
            refine AllReadyH.cons rfl (fun K hK => ?_) AllReadyH.nil
            rw [if_pos (by rfl)]
            refine wp_fnS _ _ _ rfl (enters_of Tryd.func38 (by as_aux_lemma => kernel_rfl) rfl) _ rfl _ (list6_any _ _ _ _) ?_
            refine hK.out _ _ ?_ (fun hHeld => ?_)
            · (try dsimp only); (exact hHeld)
            clear hK K
            try simp only [Act.put, List.getElem_toArray, List.getElem_cons_succ, List.getElem_cons_zero, List.setIfInBounds_toArray, List.set_cons_zero, List.set_cons_succ]
            have F1 := hHeld
            have F2 := (hK159.out)
            have F3 := (s4_159.out)
            have F4 := (s7_159.out)
            have F5 := (s13_159.out)
            exact H g155 g157 g159 _ ⟨F1, F2, F3, F4, F5⟩
        · rw [if_pos (by rfl)]
          refine wp_bsC 4 _ rfl [nA, eC, nA, eC] rfl (by decide) (by decide) (by as_aux_lemma => kernel_rfl) ?_
          intro g160 V160 rr160 jj160
          refine hK.out _ _ ?_ (fun hHeld => ?_)
          · (try dsimp only); (exact hHeld.kept jj160)
          clear hK K
          try simp only [Act.put, List.getElem_toArray, List.getElem_cons_succ, List.getElem_cons_zero, List.setIfInBounds_toArray, List.set_cons_zero, List.set_cons_succ]
          have s13_160 := hide rr160
          have hK160 := hide ((hK156.out).trans jj160 (by simp))
          have s4_160 := hide (Rd.kept (s4_156.out) jj160 (by simp))
          refine wpAnyH_ready (rs := [7]) (by as_aux_lemma => kernel_rfl) (by simp) ?_
          refine AllReadyH.cons rfl (fun K hK => ?_) AllReadyH.nil
          rw [if_pos (by rfl)]
          refine wp_bsC 1 _ rfl [nA] rfl (by decide) (by decide) (by as_aux_lemma => kernel_rfl) ?_
          intro g161 V161 rr161 jj161
          refine hK.out _ _ ?_ (fun hHeld => ?_)
          · (try dsimp only); (exact hHeld.kept jj161)
          clear hK K
          try simp only [Act.put, List.getElem_toArray, List.getElem_cons_succ, List.getElem_cons_zero, List.setIfInBounds_toArray, List.set_cons_zero, List.set_cons_succ]
          have s7_161 := hide rr161
          have hK161 := hide ((hK160.out).trans jj161 (by simp))
          have s4_161 := hide (Rd.kept (s4_160.out) jj161 (by simp))
          have s13_161 := hide (Rd.kept (s13_160.out) jj161 (by simp))
          refine wpAnyH_ready (rs := [8]) (by as_aux_lemma => kernel_rfl) (by simp) ?_
          refine AllReadyH.cons rfl (fun K hK => ?_) AllReadyH.nil
          rw [if_pos (by rfl)]
          refine wp_fnS _ _ _ rfl (enters_of Tryd.func38 (by as_aux_lemma => kernel_rfl) rfl) _ rfl _ (list6_any _ _ _ _) ?_
          refine hK.out _ _ ?_ (fun hHeld => ?_)
          · (try dsimp only); (exact hHeld)
          clear hK K
          try simp only [Act.put, List.getElem_toArray, List.getElem_cons_succ, List.getElem_cons_zero, List.setIfInBounds_toArray, List.set_cons_zero, List.set_cons_succ]
          have F1 := hHeld
          have F2 := (hK161.out)
          have F3 := (s4_161.out)
          have F4 := (s7_161.out)
          have F5 := (s13_161.out)
          exact H g155 g161 g160 _ ⟨F1, F2, F3, F4, F5⟩
      · rw [if_pos (by rfl)]
        refine wp_bsC 1 _ rfl [nA] rfl (by decide) (by decide) (by as_aux_lemma => kernel_rfl) ?_
        intro g162 V162 rr162 jj162
        refine hK.out _ _ ?_ (fun hHeld => ?_)
        · (try dsimp only); (exact hHeld.kept jj162)
        clear hK K
        try simp only [Act.put, List.getElem_toArray, List.getElem_cons_succ, List.getElem_cons_zero, List.setIfInBounds_toArray, List.set_cons_zero, List.set_cons_succ]
        have s7_162 := hide rr162
        have hK162 := hide ((hK155.out).trans jj162 (by simp))
        have s4_162 := hide (Rd.kept (s4_155.out) jj162 (by simp))
        refine wpAnyH_ready (rs := [5, 13]) (by as_aux_lemma => kernel_rfl) (by simp) ?_
        refine AllReadyH.cons rfl (fun K hK => ?_) (AllReadyH.cons rfl (fun K hK => ?_) AllReadyH.nil)
        · rw [if_pos (by rfl)]
          refine wp_fnK _ _ _ rfl (enters_of Tryd.func37 (by as_aux_lemma => kernel_rfl) rfl) _ rfl _ (hard_any _ _ _ _) ?_
          intro V163 hj163
          refine hK.out _ _ ?_ (fun hHeld => ?_)
          · (try dsimp only); (exact hHeld.kept hj163)
          clear hK K
          try simp only [Act.put, List.getElem_toArray, List.getElem_cons_succ, List.getElem_cons_zero, List.setIfInBounds_toArray, List.set_cons_zero, List.set_cons_succ]
          have hK163 := hide ((hK162.out).trans hj163 (by simp))
          have s4_163 := hide (Rd.kept (s4_162.out) hj163 (by simp))
          have s7_163 := hide (Rd.kept (s7_162.out) hj163 (by simp))
          refine wpAnyH_ready (rs := [8, 13]) (by as_aux_lemma => kernel_rfl) (by simp) ?_
          refine AllReadyH.cons rfl (fun K hK => ?_) (AllReadyH.cons rfl (fun K hK => ?_) AllReadyH.nil)
          · rw [if_pos (by rfl)]
            refine wp_fnS _ _ _ rfl (enters_of Tryd.func38 (by as_aux_lemma => kernel_rfl) rfl) _ rfl _ (list6_any _ _ _ _) ?_
            refine hK.out _ _ ?_ (fun hHeld => ?_)
            · (try dsimp only); (exact hHeld)
            clear hK K
            try simp only [Act.put, List.getElem_toArray, List.getElem_cons_succ, List.getElem_cons_zero, List.setIfInBounds_toArray, List.set_cons_zero, List.set_cons_succ]
            refine wpAnyH_ready (rs := [13]) (by as_aux_lemma => kernel_rfl) (by simp) ?_
            refine AllReadyH.cons rfl (fun K hK => ?_) AllReadyH.nil
            rw [if_pos (by rfl)]
            refine wp_bsC 4 _ rfl [nA, eC, nA, eC] rfl (by decide) (by decide) (by as_aux_lemma => kernel_rfl) ?_
            intro g164 V164 rr164 jj164
            refine hK.out _ _ ?_ (fun hHeld => ?_)
            · (try dsimp only); (exact hHeld.kept jj164)
            clear hK K
            try simp only [Act.put, List.getElem_toArray, List.getElem_cons_succ, List.getElem_cons_zero, List.setIfInBounds_toArray, List.set_cons_zero, List.set_cons_succ]
            have s13_164 := hide rr164
            have hK164 := hide ((hK163.out).trans jj164 (by simp))
            have s4_164 := hide (Rd.kept (s4_163.out) jj164 (by simp))
            have s7_164 := hide (Rd.kept (s7_163.out) jj164 (by simp))
            have F1 := hHeld
            have F2 := (hK164.out)
            have F3 := (s4_164.out)
            have F4 := (s7_164.out)
            have F5 := (s13_164.out)
            exact H g155 g162 g164 _ ⟨F1, F2, F3, F4, F5⟩
          · rw [if_pos (by rfl)]
            refine wp_bsC 4 _ rfl [nA, eC, nA, eC] rfl (by decide) (by decide) (by as_aux_lemma => kernel_rfl) ?_
            intro g165 V165 rr165 jj165
            refine hK.out _ _ ?_ (fun hHeld => ?_)
            · (try dsimp only); (exact hHeld.kept jj165)
            clear hK K
            try simp only [Act.put, List.getElem_toArray, List.getElem_cons_succ, List.getElem_cons_zero, List.setIfInBounds_toArray, List.set_cons_zero, List.set_cons_succ]
            have s13_165 := hide rr165
            have hK165 := hide ((hK163.out).trans jj165 (by simp))
            have s4_165 := hide (Rd.kept (s4_163.out) jj165 (by simp))
            have s7_165 := hide (Rd.kept (s7_163.out) jj165 (by simp))
            refine wpAnyH_ready (rs := [8]) (by as_aux_lemma => kernel_rfl) (by simp) ?_
            refine AllReadyH.cons rfl (fun K hK => ?_) AllReadyH.nil
            rw [if_pos (by rfl)]
            refine wp_fnS _ _ _ rfl (enters_of Tryd.func38 (by as_aux_lemma => kernel_rfl) rfl) _ rfl _ (list6_any _ _ _ _) ?_
            refine hK.out _ _ ?_ (fun hHeld => ?_)
            · (try dsimp only); (exact hHeld)
            clear hK K
            try simp only [Act.put, List.getElem_toArray, List.getElem_cons_succ, List.getElem_cons_zero, List.setIfInBounds_toArray, List.set_cons_zero, List.set_cons_succ]
            have F1 := hHeld
            have F2 := (hK165.out)
            have F3 := (s4_165.out)
            have F4 := (s7_165.out)
            have F5 := (s13_165.out)
            exact H g155 g162 g165 _ ⟨F1, F2, F3, F4, F5⟩
        · rw [if_pos (by rfl)]
          refine wp_bsC 4 _ rfl [nA, eC, nA, eC] rfl (by decide) (by decide) (by as_aux_lemma => kernel_rfl) ?_
          intro g166 V166 rr166 jj166
          refine hK.out _ _ ?_ (fun hHeld => ?_)
          · (try dsimp only); (exact hHeld.kept jj166)
          clear hK K
          try simp only [Act.put, List.getElem_toArray, List.getElem_cons_succ, List.getElem_cons_zero, List.setIfInBounds_toArray, List.set_cons_zero, List.set_cons_succ]
          have s13_166 := hide rr166
          have hK166 := hide ((hK162.out).trans jj166 (by simp))
          have s4_166 := hide (Rd.kept (s4_162.out) jj166 (by simp))
          have s7_166 := hide (Rd.kept (s7_162.out) jj166 (by simp))
          refine wpAnyH_ready (rs := [5]) (by as_aux_lemma => kernel_rfl) (by simp) ?_
          refine AllReadyH.cons rfl (fun K hK => ?_) AllReadyH.nil
          rw [if_pos (by rfl)]
          refine wp_fnK _ _ _ rfl (enters_of Tryd.func37 (by as_aux_lemma => kernel_rfl) rfl) _ rfl _ (hard_any _ _ _ _) ?_
          intro V167 hj167
          refine hK.out _ _ ?_ (fun hHeld => ?_)
          · (try dsimp only); (exact hHeld.kept hj167)
          clear hK K
          try simp only [Act.put, List.getElem_toArray, List.getElem_cons_succ, List.getElem_cons_zero, List.setIfInBounds_toArray, List.set_cons_zero, List.set_cons_succ]
          have hK167 := hide ((hK166.out).trans hj167 (by simp))
          have s4_167 := hide (Rd.kept (s4_166.out) hj167 (by simp))
          have s7_167 := hide (Rd.kept (s7_166.out) hj167 (by simp))
          have s13_167 := hide (Rd.kept (s13_166.out) hj167 (by simp))
          refine wpAnyH_ready (rs := [8]) (by as_aux_lemma => kernel_rfl) (by simp) ?_
          refine AllReadyH.cons rfl (fun K hK => ?_) AllReadyH.nil
          rw [if_pos (by rfl)]
          refine wp_fnS _ _ _ rfl (enters_of Tryd.func38 (by as_aux_lemma => kernel_rfl) rfl) _ rfl _ (list6_any _ _ _ _) ?_
          refine hK.out _ _ ?_ (fun hHeld => ?_)
          · (try dsimp only); (exact hHeld)
          clear hK K
          try simp only [Act.put, List.getElem_toArray, List.getElem_cons_succ, List.getElem_cons_zero, List.setIfInBounds_toArray, List.set_cons_zero, List.set_cons_succ]
          have F1 := hHeld
          have F2 := (hK167.out)
          have F3 := (s4_167.out)
          have F4 := (s7_167.out)
          have F5 := (s13_167.out)
          exact H g155 g162 g166 _ ⟨F1, F2, F3, F4, F5⟩
      · rw [if_pos (by rfl)]
        refine wp_bsC 4 _ rfl [nA, eC, nA, eC] rfl (by decide) (by decide) (by as_aux_lemma => kernel_rfl) ?_
        intro g168 V168 rr168 jj168
        refine hK.out _ _ ?_ (fun hHeld => ?_)
        · (try dsimp only); (exact hHeld.kept jj168)
        clear hK K
        try simp only [Act.put, List.getElem_toArray, List.getElem_cons_succ, List.getElem_cons_zero, List.setIfInBounds_toArray, List.set_cons_zero, List.set_cons_succ]
        have s13_168 := hide rr168
        have hK168 := hide ((hK155.out).trans jj168 (by simp))
        have s4_168 := hide (Rd.kept (s4_155.out) jj168 (by simp))
        refine wpAnyH_ready (rs := [5, 7]) (by as_aux_lemma => kernel_rfl) (by simp) ?_
        refine AllReadyH.cons rfl (fun K hK => ?_) (AllReadyH.cons rfl (fun K hK => ?_) AllReadyH.nil)
        · rw [if_pos (by rfl)]
          refine wp_fnK _ _ _ rfl (enters_of Tryd.func37 (by as_aux_lemma => kernel_rfl) rfl) _ rfl _ (hard_any _ _ _ _) ?_
          intro V169 hj169
          refine hK.out _ _ ?_ (fun hHeld => ?_)
          · (try dsimp only); (exact hHeld.kept hj169)
          clear hK K
          try simp only [Act.put, List.getElem_toArray, List.getElem_cons_succ, List.getElem_cons_zero, List.setIfInBounds_toArray, List.set_cons_zero, List.set_cons_succ]
          have hK169 := hide ((hK168.out).trans hj169 (by simp))
          have s4_169 := hide (Rd.kept (s4_168.out) hj169 (by simp))
          have s13_169 := hide (Rd.kept (s13_168.out) hj169 (by simp))
          refine wpAnyH_ready (rs := [7]) (by as_aux_lemma => kernel_rfl) (by simp) ?_
          refine AllReadyH.cons rfl (fun K hK => ?_) AllReadyH.nil
          rw [if_pos (by rfl)]
          refine wp_bsC 1 _ rfl [nA] rfl (by decide) (by decide) (by as_aux_lemma => kernel_rfl) ?_
          intro g170 V170 rr170 jj170
          refine hK.out _ _ ?_ (fun hHeld => ?_)
          · (try dsimp only); (exact hHeld.kept jj170)
          clear hK K
          try simp only [Act.put, List.getElem_toArray, List.getElem_cons_succ, List.getElem_cons_zero, List.setIfInBounds_toArray, List.set_cons_zero, List.set_cons_succ]
          have s7_170 := hide rr170
          have hK170 := hide ((hK169.out).trans jj170 (by simp))
          have s4_170 := hide (Rd.kept (s4_169.out) jj170 (by simp))
          have s13_170 := hide (Rd.kept (s13_169.out) jj170 (by simp))
          refine wpAnyH_ready (rs := [8]) (by as_aux_lemma => kernel_rfl) (by simp) ?_
          refine AllReadyH.cons rfl (fun K hK => ?_) AllReadyH.nil
          rw [if_pos (by rfl)]
          refine wp_fnS _ _ _ rfl (enters_of Tryd.func38 (by as_aux_lemma => kernel_rfl) rfl) _ rfl _ (list6_any _ _ _ _) ?_
          refine hK.out _ _ ?_ (fun hHeld => ?_)
          · (try dsimp only); (exact hHeld)
          clear hK K
          try simp only [Act.put, List.getElem_toArray, List.getElem_cons_succ, List.getElem_cons_zero, List.setIfInBounds_toArray, List.set_cons_zero, List.set_cons_succ]
          have F1 := hHeld
          have F2 := (hK170.out)
          have F3 := (s4_170.out)
          have F4 := (s7_170.out)
          have F5 := (s13_170.out)
          exact H g155 g170 g168 _ ⟨F1, F2, F3, F4, F5⟩
        · rw [if_pos (by rfl)]
          refine wp_bsC 1 _ rfl [nA] rfl (by decide) (by decide) (by as_aux_lemma => kernel_rfl) ?_
          intro g171 V171 rr171 jj171
          refine hK.out _ _ ?_ (fun hHeld => ?_)
          · (try dsimp only); (exact hHeld.kept jj171)
          clear hK K
          try simp only [Act.put, List.getElem_toArray, List.getElem_cons_succ, List.getElem_cons_zero, List.setIfInBounds_toArray, List.set_cons_zero, List.set_cons_succ]
          have s7_171 := hide rr171
          have hK171 := hide ((hK168.out).trans jj171 (by simp))
          have s4_171 := hide (Rd.kept (s4_168.out) jj171 (by simp))
          have s13_171 := hide (Rd.kept (s13_168.out) jj171 (by simp))
          refine wpAnyH_ready (rs := [5]) (by as_aux_lemma => kernel_rfl) (by simp) ?_
          refine AllReadyH.cons rfl (fun K hK => ?_) AllReadyH.nil
          rw [if_pos (by rfl)]
          refine wp_fnK _ _ _ rfl (enters_of Tryd.func37 (by as_aux_lemma => kernel_rfl) rfl) _ rfl _ (hard_any _ _ _ _) ?_
          intro V172 hj172
          refine hK.out _ _ ?_ (fun hHeld => ?_)
          · (try dsimp only); (exact hHeld.kept hj172)
          clear hK K
          try simp only [Act.put, List.getElem_toArray, List.getElem_cons_succ, List.getElem_cons_zero, List.setIfInBounds_toArray, List.set_cons_zero, List.set_cons_succ]
          have hK172 := hide ((hK171.out).trans hj172 (by simp))
          have s4_172 := hide (Rd.kept (s4_171.out) hj172 (by simp))
          have s13_172 := hide (Rd.kept (s13_171.out) hj172 (by simp))
          have s7_172 := hide (Rd.kept (s7_171.out) hj172 (by simp))
          refine wpAnyH_ready (rs := [8]) (by as_aux_lemma => kernel_rfl) (by simp) ?_
          refine AllReadyH.cons rfl (fun K hK => ?_) AllReadyH.nil
          rw [if_pos (by rfl)]
          refine wp_fnS _ _ _ rfl (enters_of Tryd.func38 (by as_aux_lemma => kernel_rfl) rfl) _ rfl _ (list6_any _ _ _ _) ?_
          refine hK.out _ _ ?_ (fun hHeld => ?_)
          · (try dsimp only); (exact hHeld)
          clear hK K
          try simp only [Act.put, List.getElem_toArray, List.getElem_cons_succ, List.getElem_cons_zero, List.setIfInBounds_toArray, List.set_cons_zero, List.set_cons_succ]
          have F1 := hHeld
          have F2 := (hK172.out)
          have F3 := (s4_172.out)
          have F4 := (s7_172.out)
          have F5 := (s13_172.out)
          exact H g155 g171 g168 _ ⟨F1, F2, F3, F4, F5⟩
    · rw [if_pos (by rfl)]
      refine wp_bsC 1 _ rfl [nA] rfl (by decide) (by decide) (by as_aux_lemma => kernel_rfl) ?_
      intro g173 V173 rr173 jj173
      refine hK.out _ _ ?_ (fun hHeld => ?_)
      · (try dsimp only); (exact hHeld.kept jj173)
      clear hK K
      try simp only [Act.put, List.getElem_toArray, List.getElem_cons_succ, List.getElem_cons_zero, List.setIfInBounds_toArray, List.set_cons_zero, List.set_cons_succ]
      have s7_173 := hide rr173
      have hK173 := hide ((hK21.out.drew).trans jj173 (by simp))
      refine wpAnyH_ready (rs := [4, 13]) (by as_aux_lemma => kernel_rfl) (by simp) ?_
      refine AllReadyH.cons rfl (fun K hK => ?_) (AllReadyH.cons rfl (fun K hK => ?_) AllReadyH.nil)
      · rw [if_pos (by rfl)]
        refine wp_bsC 4 _ rfl [nA, nW, zeroK, eC] rfl (by decide) (by decide) (by as_aux_lemma => kernel_rfl) ?_
        intro g174 V174 rr174 jj174
        refine hK.out _ _ ?_ (fun hHeld => ?_)
        · (try dsimp only); (exact hHeld.kept jj174)
        clear hK K
        try simp only [Act.put, List.getElem_toArray, List.getElem_cons_succ, List.getElem_cons_zero, List.setIfInBounds_toArray, List.set_cons_zero, List.set_cons_succ]
        have s4_174 := hide rr174
        have hK174 := hide ((hK173.out).trans jj174 (by simp))
        have s7_174 := hide (Rd.kept (s7_173.out) jj174 (by simp))
        refine wpAnyH_ready (rs := [5, 13]) (by as_aux_lemma => kernel_rfl) (by simp) ?_
        refine AllReadyH.cons rfl (fun K hK => ?_) (AllReadyH.cons rfl (fun K hK => ?_) AllReadyH.nil)
        · rw [if_pos (by rfl)]
          refine wp_fnK _ _ _ rfl (enters_of Tryd.func37 (by as_aux_lemma => kernel_rfl) rfl) _ rfl _ (hard_any _ _ _ _) ?_
          intro V175 hj175
          refine hK.out _ _ ?_ (fun hHeld => ?_)
          · (try dsimp only); (exact hHeld.kept hj175)
          clear hK K
          try simp only [Act.put, List.getElem_toArray, List.getElem_cons_succ, List.getElem_cons_zero, List.setIfInBounds_toArray, List.set_cons_zero, List.set_cons_succ]
          have hK175 := hide ((hK174.out).trans hj175 (by simp))
          have s7_175 := hide (Rd.kept (s7_174.out) hj175 (by simp))
          have s4_175 := hide (Rd.kept (s4_174.out) hj175 (by simp))
          refine wpAnyH_ready (rs := [8, 13]) (by as_aux_lemma => kernel_rfl) (by simp) ?_
          refine AllReadyH.cons rfl (fun K hK => ?_) (AllReadyH.cons rfl (fun K hK => ?_) AllReadyH.nil)
          · rw [if_pos (by rfl)]
            refine wp_fnS _ _ _ rfl (enters_of Tryd.func38 (by as_aux_lemma => kernel_rfl) rfl) _ rfl _ (list6_any _ _ _ _) ?_
            refine hK.out _ _ ?_ (fun hHeld => ?_)
            · (try dsimp only); (exact hHeld)
            clear hK K
            try simp only [Act.put, List.getElem_toArray, List.getElem_cons_succ, List.getElem_cons_zero, List.setIfInBounds_toArray, List.set_cons_zero, List.set_cons_succ]
            refine wpAnyH_ready (rs := [13]) (by as_aux_lemma => kernel_rfl) (by simp) ?_
            refine AllReadyH.cons rfl (fun K hK => ?_) AllReadyH.nil
            rw [if_pos (by rfl)]
            refine wp_bsC 4 _ rfl [nA, eC, nA, eC] rfl (by decide) (by decide) (by as_aux_lemma => kernel_rfl) ?_
            intro g176 V176 rr176 jj176
            refine hK.out _ _ ?_ (fun hHeld => ?_)
            · (try dsimp only); (exact hHeld.kept jj176)
            clear hK K
            try simp only [Act.put, List.getElem_toArray, List.getElem_cons_succ, List.getElem_cons_zero, List.setIfInBounds_toArray, List.set_cons_zero, List.set_cons_succ]
            have s13_176 := hide rr176
            have hK176 := hide ((hK175.out).trans jj176 (by simp))
            have s7_176 := hide (Rd.kept (s7_175.out) jj176 (by simp))
            have s4_176 := hide (Rd.kept (s4_175.out) jj176 (by simp))
            have F1 := hHeld
            have F2 := (hK176.out)
            have F3 := (s4_176.out)
            have F4 := (s7_176.out)
            have F5 := (s13_176.out)
            exact H g174 g173 g176 _ ⟨F1, F2, F3, F4, F5⟩
          · rw [if_pos (by rfl)]
            refine wp_bsC 4 _ rfl [nA, eC, nA, eC] rfl (by decide) (by decide) (by as_aux_lemma => kernel_rfl) ?_
            intro g177 V177 rr177 jj177
            refine hK.out _ _ ?_ (fun hHeld => ?_)
            · (try dsimp only); (exact hHeld.kept jj177)
            clear hK K
            try simp only [Act.put, List.getElem_toArray, List.getElem_cons_succ, List.getElem_cons_zero, List.setIfInBounds_toArray, List.set_cons_zero, List.set_cons_succ]
            have s13_177 := hide rr177
            have hK177 := hide ((hK175.out).trans jj177 (by simp))
            have s7_177 := hide (Rd.kept (s7_175.out) jj177 (by simp))
            have s4_177 := hide (Rd.kept (s4_175.out) jj177 (by simp))
            refine wpAnyH_ready (rs := [8]) (by as_aux_lemma => kernel_rfl) (by simp) ?_
            refine AllReadyH.cons rfl (fun K hK => ?_) AllReadyH.nil
            rw [if_pos (by rfl)]
            refine wp_fnS _ _ _ rfl (enters_of Tryd.func38 (by as_aux_lemma => kernel_rfl) rfl) _ rfl _ (list6_any _ _ _ _) ?_
            refine hK.out _ _ ?_ (fun hHeld => ?_)
            · (try dsimp only); (exact hHeld)
            clear hK K
            try simp only [Act.put, List.getElem_toArray, List.getElem_cons_succ, List.getElem_cons_zero, List.setIfInBounds_toArray, List.set_cons_zero, List.set_cons_succ]
            have F1 := hHeld
            have F2 := (hK177.out)
            have F3 := (s4_177.out)
            have F4 := (s7_177.out)
            have F5 := (s13_177.out)
            exact H g174 g173 g177 _ ⟨F1, F2, F3, F4, F5⟩
        · rw [if_pos (by rfl)]
          refine wp_bsC 4 _ rfl [nA, eC, nA, eC] rfl (by decide) (by decide) (by as_aux_lemma => kernel_rfl) ?_
          intro g178 V178 rr178 jj178
          refine hK.out _ _ ?_ (fun hHeld => ?_)
          · (try dsimp only); (exact hHeld.kept jj178)
          clear hK K
          try simp only [Act.put, List.getElem_toArray, List.getElem_cons_succ, List.getElem_cons_zero, List.setIfInBounds_toArray, List.set_cons_zero, List.set_cons_succ]
          have s13_178 := hide rr178
          have hK178 := hide ((hK174.out).trans jj178 (by simp))
          have s7_178 := hide (Rd.kept (s7_174.out) jj178 (by simp))
          have s4_178 := hide (Rd.kept (s4_174.out) jj178 (by simp))
          refine wpAnyH_ready (rs := [5]) (by as_aux_lemma => kernel_rfl) (by simp) ?_
          refine AllReadyH.cons rfl (fun K hK => ?_) AllReadyH.nil
          rw [if_pos (by rfl)]
          refine wp_fnK _ _ _ rfl (enters_of Tryd.func37 (by as_aux_lemma => kernel_rfl) rfl) _ rfl _ (hard_any _ _ _ _) ?_
          intro V179 hj179
          refine hK.out _ _ ?_ (fun hHeld => ?_)
          · (try dsimp only); (exact hHeld.kept hj179)
          clear hK K
          try simp only [Act.put, List.getElem_toArray, List.getElem_cons_succ, List.getElem_cons_zero, List.setIfInBounds_toArray, List.set_cons_zero, List.set_cons_succ]
          have hK179 := hide ((hK178.out).trans hj179 (by simp))
          have s7_179 := hide (Rd.kept (s7_178.out) hj179 (by simp))
          have s4_179 := hide (Rd.kept (s4_178.out) hj179 (by simp))
          have s13_179 := hide (Rd.kept (s13_178.out) hj179 (by simp))
          refine wpAnyH_ready (rs := [8]) (by as_aux_lemma => kernel_rfl) (by simp) ?_
          refine AllReadyH.cons rfl (fun K hK => ?_) AllReadyH.nil
          rw [if_pos (by rfl)]
          refine wp_fnS _ _ _ rfl (enters_of Tryd.func38 (by as_aux_lemma => kernel_rfl) rfl) _ rfl _ (list6_any _ _ _ _) ?_
          refine hK.out _ _ ?_ (fun hHeld => ?_)
          · (try dsimp only); (exact hHeld)
          clear hK K
          try simp only [Act.put, List.getElem_toArray, List.getElem_cons_succ, List.getElem_cons_zero, List.setIfInBounds_toArray, List.set_cons_zero, List.set_cons_succ]
          have F1 := hHeld
          have F2 := (hK179.out)
          have F3 := (s4_179.out)
          have F4 := (s7_179.out)
          have F5 := (s13_179.out)
          exact H g174 g173 g178 _ ⟨F1, F2, F3, F4, F5⟩
      · rw [if_pos (by rfl)]
        refine wp_bsC 4 _ rfl [nA, eC, nA, eC] rfl (by decide) (by decide) (by as_aux_lemma => kernel_rfl) ?_
        intro g180 V180 rr180 jj180
        refine hK.out _ _ ?_ (fun hHeld => ?_)
        · (try dsimp only); (exact hHeld.kept jj180)
        clear hK K
        try simp only [Act.put, List.getElem_toArray, List.getElem_cons_succ, List.getElem_cons_zero, List.setIfInBounds_toArray, List.set_cons_zero, List.set_cons_succ]
        have s13_180 := hide rr180
        have hK180 := hide ((hK173.out).trans jj180 (by simp))
        have s7_180 := hide (Rd.kept (s7_173.out) jj180 (by simp))
        refine wpAnyH_ready (rs := [4]) (by as_aux_lemma => kernel_rfl) (by simp) ?_
        refine AllReadyH.cons rfl (fun K hK => ?_) AllReadyH.nil
        rw [if_pos (by rfl)]
        refine wp_bsC 4 _ rfl [nA, nW, zeroK, eC] rfl (by decide) (by decide) (by as_aux_lemma => kernel_rfl) ?_
        intro g181 V181 rr181 jj181
        refine hK.out _ _ ?_ (fun hHeld => ?_)
        · (try dsimp only); (exact hHeld.kept jj181)
        clear hK K
        try simp only [Act.put, List.getElem_toArray, List.getElem_cons_succ, List.getElem_cons_zero, List.setIfInBounds_toArray, List.set_cons_zero, List.set_cons_succ]
        have s4_181 := hide rr181
        have hK181 := hide ((hK180.out).trans jj181 (by simp))
        have s7_181 := hide (Rd.kept (s7_180.out) jj181 (by simp))
        have s13_181 := hide (Rd.kept (s13_180.out) jj181 (by simp))
        refine wpAnyH_ready (rs := [5]) (by as_aux_lemma => kernel_rfl) (by simp) ?_
        refine AllReadyH.cons rfl (fun K hK => ?_) AllReadyH.nil
        rw [if_pos (by rfl)]
        refine wp_fnK _ _ _ rfl (enters_of Tryd.func37 (by as_aux_lemma => kernel_rfl) rfl) _ rfl _ (hard_any _ _ _ _) ?_
        intro V182 hj182
        refine hK.out _ _ ?_ (fun hHeld => ?_)
        · (try dsimp only); (exact hHeld.kept hj182)
        clear hK K
        try simp only [Act.put, List.getElem_toArray, List.getElem_cons_succ, List.getElem_cons_zero, List.setIfInBounds_toArray, List.set_cons_zero, List.set_cons_succ]
        have hK182 := hide ((hK181.out).trans hj182 (by simp))
        have s7_182 := hide (Rd.kept (s7_181.out) hj182 (by simp))
        have s13_182 := hide (Rd.kept (s13_181.out) hj182 (by simp))
        have s4_182 := hide (Rd.kept (s4_181.out) hj182 (by simp))
        refine wpAnyH_ready (rs := [8]) (by as_aux_lemma => kernel_rfl) (by simp) ?_
        refine AllReadyH.cons rfl (fun K hK => ?_) AllReadyH.nil
        rw [if_pos (by rfl)]
        refine wp_fnS _ _ _ rfl (enters_of Tryd.func38 (by as_aux_lemma => kernel_rfl) rfl) _ rfl _ (list6_any _ _ _ _) ?_
        refine hK.out _ _ ?_ (fun hHeld => ?_)
        · (try dsimp only); (exact hHeld)
        clear hK K
        try simp only [Act.put, List.getElem_toArray, List.getElem_cons_succ, List.getElem_cons_zero, List.setIfInBounds_toArray, List.set_cons_zero, List.set_cons_succ]
        have F1 := hHeld
        have F2 := (hK182.out)
        have F3 := (s4_182.out)
        have F4 := (s7_182.out)
        have F5 := (s13_182.out)
        exact H g181 g173 g180 _ ⟨F1, F2, F3, F4, F5⟩
    · rw [if_pos (by rfl)]
      refine wp_bsC 4 _ rfl [nA, eC, nA, eC] rfl (by decide) (by decide) (by as_aux_lemma => kernel_rfl) ?_
      intro g183 V183 rr183 jj183
      refine hK.out _ _ ?_ (fun hHeld => ?_)
      · (try dsimp only); (exact hHeld.kept jj183)
      clear hK K
      try simp only [Act.put, List.getElem_toArray, List.getElem_cons_succ, List.getElem_cons_zero, List.setIfInBounds_toArray, List.set_cons_zero, List.set_cons_succ]
      have s13_183 := hide rr183
      have hK183 := hide ((hK21.out.drew).trans jj183 (by simp))
      refine wpAnyH_ready (rs := [4, 7]) (by as_aux_lemma => kernel_rfl) (by simp) ?_
      refine AllReadyH.cons rfl (fun K hK => ?_) (AllReadyH.cons rfl (fun K hK => ?_) AllReadyH.nil)
      · rw [if_pos (by rfl)]
        refine wp_bsC 4 _ rfl [nA, nW, zeroK, eC] rfl (by decide) (by decide) (by as_aux_lemma => kernel_rfl) ?_
        intro g184 V184 rr184 jj184
        refine hK.out _ _ ?_ (fun hHeld => ?_)
        · (try dsimp only); (exact hHeld.kept jj184)
        clear hK K
        try simp only [Act.put, List.getElem_toArray, List.getElem_cons_succ, List.getElem_cons_zero, List.setIfInBounds_toArray, List.set_cons_zero, List.set_cons_succ]
        have s4_184 := hide rr184
        have hK184 := hide ((hK183.out).trans jj184 (by simp))
        have s13_184 := hide (Rd.kept (s13_183.out) jj184 (by simp))
        refine wpAnyH_ready (rs := [5, 7]) (by as_aux_lemma => kernel_rfl) (by simp) ?_
        refine AllReadyH.cons rfl (fun K hK => ?_) (AllReadyH.cons rfl (fun K hK => ?_) AllReadyH.nil)
        · rw [if_pos (by rfl)]
          refine wp_fnK _ _ _ rfl (enters_of Tryd.func37 (by as_aux_lemma => kernel_rfl) rfl) _ rfl _ (hard_any _ _ _ _) ?_
          intro V185 hj185
          refine hK.out _ _ ?_ (fun hHeld => ?_)
          · (try dsimp only); (exact hHeld.kept hj185)
          clear hK K
          try simp only [Act.put, List.getElem_toArray, List.getElem_cons_succ, List.getElem_cons_zero, List.setIfInBounds_toArray, List.set_cons_zero, List.set_cons_succ]
          have hK185 := hide ((hK184.out).trans hj185 (by simp))
          have s13_185 := hide (Rd.kept (s13_184.out) hj185 (by simp))
          have s4_185 := hide (Rd.kept (s4_184.out) hj185 (by simp))
          refine wpAnyH_ready (rs := [7]) (by as_aux_lemma => kernel_rfl) (by simp) ?_
          refine AllReadyH.cons rfl (fun K hK => ?_) AllReadyH.nil
          rw [if_pos (by rfl)]
          refine wp_bsC 1 _ rfl [nA] rfl (by decide) (by decide) (by as_aux_lemma => kernel_rfl) ?_
          intro g186 V186 rr186 jj186
          refine hK.out _ _ ?_ (fun hHeld => ?_)
          · (try dsimp only); (exact hHeld.kept jj186)
          clear hK K
          try simp only [Act.put, List.getElem_toArray, List.getElem_cons_succ, List.getElem_cons_zero, List.setIfInBounds_toArray, List.set_cons_zero, List.set_cons_succ]
          have s7_186 := hide rr186
          have hK186 := hide ((hK185.out).trans jj186 (by simp))
          have s13_186 := hide (Rd.kept (s13_185.out) jj186 (by simp))
          have s4_186 := hide (Rd.kept (s4_185.out) jj186 (by simp))
          refine wpAnyH_ready (rs := [8]) (by as_aux_lemma => kernel_rfl) (by simp) ?_
          refine AllReadyH.cons rfl (fun K hK => ?_) AllReadyH.nil
          rw [if_pos (by rfl)]
          refine wp_fnS _ _ _ rfl (enters_of Tryd.func38 (by as_aux_lemma => kernel_rfl) rfl) _ rfl _ (list6_any _ _ _ _) ?_
          refine hK.out _ _ ?_ (fun hHeld => ?_)
          · (try dsimp only); (exact hHeld)
          clear hK K
          try simp only [Act.put, List.getElem_toArray, List.getElem_cons_succ, List.getElem_cons_zero, List.setIfInBounds_toArray, List.set_cons_zero, List.set_cons_succ]
          have F1 := hHeld
          have F2 := (hK186.out)
          have F3 := (s4_186.out)
          have F4 := (s7_186.out)
          have F5 := (s13_186.out)
          exact H g184 g186 g183 _ ⟨F1, F2, F3, F4, F5⟩
        · rw [if_pos (by rfl)]
          refine wp_bsC 1 _ rfl [nA] rfl (by decide) (by decide) (by as_aux_lemma => kernel_rfl) ?_
          intro g187 V187 rr187 jj187
          refine hK.out _ _ ?_ (fun hHeld => ?_)
          · (try dsimp only); (exact hHeld.kept jj187)
          clear hK K
          try simp only [Act.put, List.getElem_toArray, List.getElem_cons_succ, List.getElem_cons_zero, List.setIfInBounds_toArray, List.set_cons_zero, List.set_cons_succ]
          have s7_187 := hide rr187
          have hK187 := hide ((hK184.out).trans jj187 (by simp))
          have s13_187 := hide (Rd.kept (s13_184.out) jj187 (by simp))
          have s4_187 := hide (Rd.kept (s4_184.out) jj187 (by simp))
          refine wpAnyH_ready (rs := [5]) (by as_aux_lemma => kernel_rfl) (by simp) ?_
          refine AllReadyH.cons rfl (fun K hK => ?_) AllReadyH.nil
          rw [if_pos (by rfl)]
          refine wp_fnK _ _ _ rfl (enters_of Tryd.func37 (by as_aux_lemma => kernel_rfl) rfl) _ rfl _ (hard_any _ _ _ _) ?_
          intro V188 hj188
          refine hK.out _ _ ?_ (fun hHeld => ?_)
          · (try dsimp only); (exact hHeld.kept hj188)
          clear hK K
          try simp only [Act.put, List.getElem_toArray, List.getElem_cons_succ, List.getElem_cons_zero, List.setIfInBounds_toArray, List.set_cons_zero, List.set_cons_succ]
          have hK188 := hide ((hK187.out).trans hj188 (by simp))
          have s13_188 := hide (Rd.kept (s13_187.out) hj188 (by simp))
          have s4_188 := hide (Rd.kept (s4_187.out) hj188 (by simp))
          have s7_188 := hide (Rd.kept (s7_187.out) hj188 (by simp))
          refine wpAnyH_ready (rs := [8]) (by as_aux_lemma => kernel_rfl) (by simp) ?_
          refine AllReadyH.cons rfl (fun K hK => ?_) AllReadyH.nil
          rw [if_pos (by rfl)]
          refine wp_fnS _ _ _ rfl (enters_of Tryd.func38 (by as_aux_lemma => kernel_rfl) rfl) _ rfl _ (list6_any _ _ _ _) ?_
          refine hK.out _ _ ?_ (fun hHeld => ?_)
          · (try dsimp only); (exact hHeld)
          clear hK K
          try simp only [Act.put, List.getElem_toArray, List.getElem_cons_succ, List.getElem_cons_zero, List.setIfInBounds_toArray, List.set_cons_zero, List.set_cons_succ]
          have F1 := hHeld
          have F2 := (hK188.out)
          have F3 := (s4_188.out)
          have F4 := (s7_188.out)
          have F5 := (s13_188.out)
          exact H g184 g187 g183 _ ⟨F1, F2, F3, F4, F5⟩
      · rw [if_pos (by rfl)]
        refine wp_bsC 1 _ rfl [nA] rfl (by decide) (by decide) (by as_aux_lemma => kernel_rfl) ?_
        intro g189 V189 rr189 jj189
        refine hK.out _ _ ?_ (fun hHeld => ?_)
        · (try dsimp only); (exact hHeld.kept jj189)
        clear hK K
        try simp only [Act.put, List.getElem_toArray, List.getElem_cons_succ, List.getElem_cons_zero, List.setIfInBounds_toArray, List.set_cons_zero, List.set_cons_succ]
        have s7_189 := hide rr189
        have hK189 := hide ((hK183.out).trans jj189 (by simp))
        have s13_189 := hide (Rd.kept (s13_183.out) jj189 (by simp))
        refine wpAnyH_ready (rs := [4]) (by as_aux_lemma => kernel_rfl) (by simp) ?_
        refine AllReadyH.cons rfl (fun K hK => ?_) AllReadyH.nil
        rw [if_pos (by rfl)]
        refine wp_bsC 4 _ rfl [nA, nW, zeroK, eC] rfl (by decide) (by decide) (by as_aux_lemma => kernel_rfl) ?_
        intro g190 V190 rr190 jj190
        refine hK.out _ _ ?_ (fun hHeld => ?_)
        · (try dsimp only); (exact hHeld.kept jj190)
        clear hK K
        try simp only [Act.put, List.getElem_toArray, List.getElem_cons_succ, List.getElem_cons_zero, List.setIfInBounds_toArray, List.set_cons_zero, List.set_cons_succ]
        have s4_190 := hide rr190
        have hK190 := hide ((hK189.out).trans jj190 (by simp))
        have s13_190 := hide (Rd.kept (s13_189.out) jj190 (by simp))
        have s7_190 := hide (Rd.kept (s7_189.out) jj190 (by simp))
        refine wpAnyH_ready (rs := [5]) (by as_aux_lemma => kernel_rfl) (by simp) ?_
        refine AllReadyH.cons rfl (fun K hK => ?_) AllReadyH.nil
        rw [if_pos (by rfl)]
        refine wp_fnK _ _ _ rfl (enters_of Tryd.func37 (by as_aux_lemma => kernel_rfl) rfl) _ rfl _ (hard_any _ _ _ _) ?_
        intro V191 hj191
        refine hK.out _ _ ?_ (fun hHeld => ?_)
        · (try dsimp only); (exact hHeld.kept hj191)
        clear hK K
        try simp only [Act.put, List.getElem_toArray, List.getElem_cons_succ, List.getElem_cons_zero, List.setIfInBounds_toArray, List.set_cons_zero, List.set_cons_succ]
        have hK191 := hide ((hK190.out).trans hj191 (by simp))
        have s13_191 := hide (Rd.kept (s13_190.out) hj191 (by simp))
        have s7_191 := hide (Rd.kept (s7_190.out) hj191 (by simp))
        have s4_191 := hide (Rd.kept (s4_190.out) hj191 (by simp))
        refine wpAnyH_ready (rs := [8]) (by as_aux_lemma => kernel_rfl) (by simp) ?_
        refine AllReadyH.cons rfl (fun K hK => ?_) AllReadyH.nil
        rw [if_pos (by rfl)]
        refine wp_fnS _ _ _ rfl (enters_of Tryd.func38 (by as_aux_lemma => kernel_rfl) rfl) _ rfl _ (list6_any _ _ _ _) ?_
        refine hK.out _ _ ?_ (fun hHeld => ?_)
        · (try dsimp only); (exact hHeld)
        clear hK K
        try simp only [Act.put, List.getElem_toArray, List.getElem_cons_succ, List.getElem_cons_zero, List.setIfInBounds_toArray, List.set_cons_zero, List.set_cons_succ]
        have F1 := hHeld
        have F2 := (hK191.out)
        have F3 := (s4_191.out)
        have F4 := (s7_191.out)
        have F5 := (s13_191.out)
        exact H g190 g189 g183 _ ⟨F1, F2, F3, F4, F5⟩
  case' hh4 => intro gs4_4 gs4_7 gs4_13 Vs4 hF
  have hHeld := hF.1
  have hKs4 := hide hF.2.1
  have qs4_4 := hide (hF.2.2.1)
  have qs4_7 := hide (hF.2.2.2.1)
  have qs4_13 := hide (hF.2.2.2.2)
  clear hF
  refine wpAnyH_ready (rs := [14]) (by as_aux_lemma => kernel_rfl) (by simp) ?_
  refine AllReadyH.cons rfl (fun K hK => ?_) AllReadyH.nil
  rw [if_pos (by rfl)]
  refine wp_fnK _ _ _ rfl (enters_of Tryd.func37 (by as_aux_lemma => kernel_rfl) rfl) _ rfl _ (hard_any _ _ _ _) ?_
  intro V192 hj192
  refine hK.out _ _ ?_ (fun hHeld => ?_)
  · (try dsimp only); (exact hHeld.kept hj192)
  clear hK K
  try simp only [Act.put, List.getElem_toArray, List.getElem_cons_succ, List.getElem_cons_zero, List.setIfInBounds_toArray, List.set_cons_zero, List.set_cons_succ]
  have hK192 := hide ((hKs4.out).trans hj192 (by simp))
  have s4_192 := hide (Rd.kept (qs4_4.out) hj192 (by simp))
  have s7_192 := hide (Rd.kept (qs4_7.out) hj192 (by simp))
  have s13_192 := hide (Rd.kept (qs4_13.out) hj192 (by simp))
  refine wpAnyH_ready (rs := [15]) (by as_aux_lemma => kernel_rfl) (by simp) ?_
  refine AllReadyH.cons rfl (fun K hK => ?_) AllReadyH.nil
  rw [if_pos (by rfl)]
  refine wp_fnK _ _ _ rfl (enters_of Tryd.func39 (by as_aux_lemma => kernel_rfl) rfl) _ rfl _ (puts_ask Put6_any _ 4 4 [nA, nW, zeroK, eC] false (2) _ 1 1 [nA] _ 4 4 false [nA, eC, nA, eC] 0 true _ (ht0.out.kept (hK192.out)) (s4_192.out) (by decide) (Nat.le_refl _) (by decide) (s7_192.out) (by decide) (by decide) (by decide) (s13_192.out) (by decide +kernel)) ?_
  intro V193 hj193
  refine hK.out _ _ ?_ (fun hHeld => ?_)
  · (try dsimp only); (exact hHeld.kept hj193)
  clear hK K
  try simp only [Act.put, List.getElem_toArray, List.getElem_cons_succ, List.getElem_cons_zero, List.setIfInBounds_toArray, List.set_cons_zero, List.set_cons_succ]
  have hK193 := hide ((hK192.out).trans hj193 (by simp))
  refine wpAnyH_take (i := 16) (v := ?_) rfl (by as_aux_lemma => kernel_rfl) (by as_aux_lemma => kernel_rfl) (by as_aux_lemma => kernel_rfl) (fun _ _ _ h => h) (Or.inl ⟨by rfl, ?_⟩) (by assumption) ?_
  rotate_left
  · (intro wq hSw; (try dsimp only at hSw); go_simp; try with_reducible rfl)
  try simp only [Act.put, List.getElem_toArray, List.getElem_cons_succ, List.getElem_cons_zero, List.setIfInBounds_toArray, List.set_cons_zero, List.set_cons_succ]
  refine wpAnyH_take (i := 17) (v := ?_) rfl (by as_aux_lemma => kernel_rfl) (by as_aux_lemma => kernel_rfl) (by as_aux_lemma => kernel_rfl) (fun _ _ _ h => h) (Or.inl ⟨by rfl, ?_⟩) (by assumption) ?_
  rotate_left
  · (intro wq hSw; (try dsimp only at hSw); go_simp; try with_reducible rfl)
  try simp only [Act.put, List.getElem_toArray, List.getElem_cons_succ, List.getElem_cons_zero, List.setIfInBounds_toArray, List.set_cons_zero, List.set_cons_succ]
  refine wpAnyH_take (i := 18) (v := kV nW) rfl (by as_aux_lemma => kernel_rfl) (by as_aux_lemma => kernel_rfl) (by as_aux_lemma => kernel_rfl) (fun _ _ _ h => h) (yieldsIf_load_mid (by rfl) 60 _ rfl b2 0 rfl (kcL nW) _ (fun _ h => h.c2.range) Tryd.underlying60 rfl (by as_aux_lemma => kernel_rfl)) (by assumption) ?_
  try simp only [Act.put, List.getElem_toArray, List.getElem_cons_succ, List.getElem_cons_zero, List.setIfInBounds_toArray, List.set_cons_zero, List.set_cons_succ]
  refine wpAnyH_take (i := 19) (v := kV zeroK) rfl (by as_aux_lemma => kernel_rfl) (by as_aux_lemma => kernel_rfl) (by as_aux_lemma => kernel_rfl) (fun _ _ _ h => h) (yieldsIf_load_mid (by rfl) 60 _ rfl b3 0 rfl (kcL zeroK) _ (fun _ h => h.c3.range) Tryd.underlying60 rfl (by as_aux_lemma => kernel_rfl)) (by assumption) ?_
  try simp only [Act.put, List.getElem_toArray, List.getElem_cons_succ, List.getElem_cons_zero, List.setIfInBounds_toArray, List.set_cons_zero, List.set_cons_succ]
  refine wpAnyH_take (i := 20) (v := kV nW) rfl (by as_aux_lemma => kernel_rfl) (by as_aux_lemma => kernel_rfl) (by as_aux_lemma => kernel_rfl) (fun _ _ _ h => h) (yieldsIf_load_mid (by rfl) 60 _ rfl b2 0 rfl (kcL nW) _ (fun _ h => h.c2.range) Tryd.underlying60 rfl (by as_aux_lemma => kernel_rfl)) (by assumption) ?_
  try simp only [Act.put, List.getElem_toArray, List.getElem_cons_succ, List.getElem_cons_zero, List.setIfInBounds_toArray, List.set_cons_zero, List.set_cons_succ]
  refine wpAnyH_take (i := 21) (v := kV zeroK) rfl (by as_aux_lemma => kernel_rfl) (by as_aux_lemma => kernel_rfl) (by as_aux_lemma => kernel_rfl) (fun _ _ _ h => h) (yieldsIf_load_mid (by rfl) 60 _ rfl b3 0 rfl (kcL zeroK) _ (fun _ h => h.c3.range) Tryd.underlying60 rfl (by as_aux_lemma => kernel_rfl)) (by assumption) ?_
  try simp only [Act.put, List.getElem_toArray, List.getElem_cons_succ, List.getElem_cons_zero, List.setIfInBounds_toArray, List.set_cons_zero, List.set_cons_succ]
  refine wpAnyH_take (i := 24) (v := kV nA) rfl (by as_aux_lemma => kernel_rfl) (by as_aux_lemma => kernel_rfl) (by as_aux_lemma => kernel_rfl) (fun _ _ _ h => h) (yieldsIf_load_mid (by rfl) 60 _ rfl b1 0 rfl (kcL nA) _ (fun _ h => h.c1.range) Tryd.underlying60 rfl (by as_aux_lemma => kernel_rfl)) (by assumption) ?_
  try simp only [Act.put, List.getElem_toArray, List.getElem_cons_succ, List.getElem_cons_zero, List.setIfInBounds_toArray, List.set_cons_zero, List.set_cons_succ]
  refine wpAnyH_take (i := 25) (v := kV nA) rfl (by as_aux_lemma => kernel_rfl) (by as_aux_lemma => kernel_rfl) (by as_aux_lemma => kernel_rfl) (fun _ _ _ h => h) (yieldsIf_load_mid (by rfl) 60 _ rfl b1 0 rfl (kcL nA) _ (fun _ h => h.c1.range) Tryd.underlying60 rfl (by as_aux_lemma => kernel_rfl)) (by assumption) ?_
  try simp only [Act.put, List.getElem_toArray, List.getElem_cons_succ, List.getElem_cons_zero, List.setIfInBounds_toArray, List.set_cons_zero, List.set_cons_succ]
  refine wpAnyH_take (i := 28) (v := kV eC) rfl (by as_aux_lemma => kernel_rfl) (by as_aux_lemma => kernel_rfl) (by as_aux_lemma => kernel_rfl) (fun _ _ _ h => h) (yieldsIf_load_mid (by rfl) 60 _ rfl b4 0 rfl (kcL eC) _ (fun _ h => h.c4.range) Tryd.underlying60 rfl (by as_aux_lemma => kernel_rfl)) (by assumption) ?_
  try simp only [Act.put, List.getElem_toArray, List.getElem_cons_succ, List.getElem_cons_zero, List.setIfInBounds_toArray, List.set_cons_zero, List.set_cons_succ]
  refine wpAnyH_take (i := 29) (v := kV nA) rfl (by as_aux_lemma => kernel_rfl) (by as_aux_lemma => kernel_rfl) (by as_aux_lemma => kernel_rfl) (fun _ _ _ h => h) (yieldsIf_load_mid (by rfl) 60 _ rfl b1 0 rfl (kcL nA) _ (fun _ h => h.c1.range) Tryd.underlying60 rfl (by as_aux_lemma => kernel_rfl)) (by assumption) ?_
  try simp only [Act.put, List.getElem_toArray, List.getElem_cons_succ, List.getElem_cons_zero, List.setIfInBounds_toArray, List.set_cons_zero, List.set_cons_succ]
  refine wpAnyH_take (i := 30) (v := kV nA) rfl (by as_aux_lemma => kernel_rfl) (by as_aux_lemma => kernel_rfl) (by as_aux_lemma => kernel_rfl) (fun _ _ _ h => h) (yieldsIf_load_mid (by rfl) 60 _ rfl b1 0 rfl (kcL nA) _ (fun _ h => h.c1.range) Tryd.underlying60 rfl (by as_aux_lemma => kernel_rfl)) (by assumption) ?_
  try simp only [Act.put, List.getElem_toArray, List.getElem_cons_succ, List.getElem_cons_zero, List.setIfInBounds_toArray, List.set_cons_zero, List.set_cons_succ]
  refine wpAnyH_take (i := 31) (v := kV eC) rfl (by as_aux_lemma => kernel_rfl) (by as_aux_lemma => kernel_rfl) (by as_aux_lemma => kernel_rfl) (fun _ _ _ h => h) (yieldsIf_load_mid (by rfl) 60 _ rfl b4 0 rfl (kcL eC) _ (fun _ h => h.c4.range) Tryd.underlying60 rfl (by as_aux_lemma => kernel_rfl)) (by assumption) ?_
  try simp only [Act.put, List.getElem_toArray, List.getElem_cons_succ, List.getElem_cons_zero, List.setIfInBounds_toArray, List.set_cons_zero, List.set_cons_succ]
  refine' shareN3 (F := (fun v0 v1 v2 W => (Kn6 W b1 b2 b3 b4 b5 b6 b7 g7) ∧ Kept [] w W ∧ Rd W (some ⟨v0, 0, none⟩) 4 16 (cellsV [nW, zeroK, nW, zeroK]) ∧ Rd W (some ⟨v1, 0, none⟩) 2 16 (cellsV [nA, nA]) ∧ Rd W (some ⟨v2, 0, none⟩) 4 16 (cellsV [eC, nA, nA, eC]))) (fun H => ?kk5) ?hh5
  case kk5 =>
    refine wpAnyH_ready (rs := [22, 26, 32]) (by as_aux_lemma => kernel_rfl) (by simp) ?_
    refine AllReadyH.cons rfl (fun K hK => ?_) (AllReadyH.cons rfl (fun K hK => ?_) (AllReadyH.cons rfl (fun K hK => ?_) AllReadyH.nil))
    · rw [if_pos (by rfl)]
      refine wp_bsC 4 _ rfl [nW, zeroK, nW, zeroK] rfl (by decide) (by decide) (by as_aux_lemma => kernel_rfl) ?_
      intro g194 V194 rr194 jj194
      refine hK.out _ _ ?_ (fun hHeld => ?_)
      · (try dsimp only); (exact hHeld.kept jj194)
      clear hK K
      try simp only [Act.put, List.getElem_toArray, List.getElem_cons_succ, List.getElem_cons_zero, List.setIfInBounds_toArray, List.set_cons_zero, List.set_cons_succ]
      have s22_194 := hide rr194
      have hK194 := hide ((hK193.out).trans jj194 (by simp))
      refine wpAnyH_ready (rs := [23, 26, 32]) (by as_aux_lemma => kernel_rfl) (by simp) ?_
      refine AllReadyH.cons rfl (fun K hK => ?_) (AllReadyH.cons rfl (fun K hK => ?_) (AllReadyH.cons rfl (fun K hK => ?_) AllReadyH.nil))
      · rw [if_pos (by rfl)]
        refine wp_fnK _ _ _ rfl (enters_of Tryd.func37 (by as_aux_lemma => kernel_rfl) rfl) _ rfl _ (hard_any _ _ _ _) ?_
        intro V195 hj195
        refine hK.out _ _ ?_ (fun hHeld => ?_)
        · (try dsimp only); (exact hHeld.kept hj195)
        clear hK K
        try simp only [Act.put, List.getElem_toArray, List.getElem_cons_succ, List.getElem_cons_zero, List.setIfInBounds_toArray, List.set_cons_zero, List.set_cons_succ]
        have hK195 := hide ((hK194.out).trans hj195 (by simp))
        have s22_195 := hide (Rd.kept (s22_194.out) hj195 (by simp))
        refine wpAnyH_ready (rs := [26, 32]) (by as_aux_lemma => kernel_rfl) (by simp) ?_
        refine AllReadyH.cons rfl (fun K hK => ?_) (AllReadyH.cons rfl (fun K hK => ?_) AllReadyH.nil)
        · rw [if_pos (by rfl)]
          refine wp_bsC 2 _ rfl [nA, nA] rfl (by decide) (by decide) (by as_aux_lemma => kernel_rfl) ?_
          intro g196 V196 rr196 jj196
          refine hK.out _ _ ?_ (fun hHeld => ?_)
          · (try dsimp only); (exact hHeld.kept jj196)
          clear hK K
          try simp only [Act.put, List.getElem_toArray, List.getElem_cons_succ, List.getElem_cons_zero, List.setIfInBounds_toArray, List.set_cons_zero, List.set_cons_succ]
          have s26_196 := hide rr196
          have hK196 := hide ((hK195.out).trans jj196 (by simp))
          have s22_196 := hide (Rd.kept (s22_195.out) jj196 (by simp))
          refine wpAnyH_ready (rs := [27, 32]) (by as_aux_lemma => kernel_rfl) (by simp) ?_
          refine AllReadyH.cons rfl (fun K hK => ?_) (AllReadyH.cons rfl (fun K hK => ?_) AllReadyH.nil)
          · rw [if_pos (by rfl)]
            refine wp_fnS _ _ _ rfl (enters_of Tryd.func38 (by as_aux_lemma => kernel_rfl) rfl) _ rfl _ (list6_any _ _ _ _) ?_
            refine hK.out _ _ ?_ (fun hHeld => ?_)
            · (try dsimp only); (exact hHeld)
            clear hK K
            try simp only [Act.put, List.getElem_toArray, List.getElem_cons_succ, List.getElem_cons_zero, List.setIfInBounds_toArray, List.set_cons_zero, List.set_cons_succ]
            refine wpAnyH_ready (rs := [32]) (by as_aux_lemma => kernel_rfl) (by simp) ?_
            refine AllReadyH.cons rfl (fun K hK => ?_) AllReadyH.nil
            rw [if_pos (by rfl)]
            refine wp_bsC 4 _ rfl [eC, nA, nA, eC] rfl (by decide) (by decide) (by as_aux_lemma => kernel_rfl) ?_
            intro g197 V197 rr197 jj197
            refine hK.out _ _ ?_ (fun hHeld => ?_)
            · (try dsimp only); (exact hHeld.kept jj197)
            clear hK K
            try simp only [Act.put, List.getElem_toArray, List.getElem_cons_succ, List.getElem_cons_zero, List.setIfInBounds_toArray, List.set_cons_zero, List.set_cons_succ]
            have s32_197 := hide rr197
            have hK197 := hide ((hK196.out).trans jj197 (by simp))
            have s22_197 := hide (Rd.kept (s22_196.out) jj197 (by simp))
            have s26_197 := hide (Rd.kept (s26_196.out) jj197 (by simp))
            have F1 := hHeld
            have F2 := (hK197.out)
            have F3 := (s22_197.out)
            have F4 := (s26_197.out)
            have F5 := (s32_197.out)
            exact H g194 g196 g197 _ ⟨F1, F2, F3, F4, F5⟩
          · rw [if_pos (by rfl)]
            refine wp_bsC 4 _ rfl [eC, nA, nA, eC] rfl (by decide) (by decide) (by as_aux_lemma => kernel_rfl) ?_
            intro g198 V198 rr198 jj198
            refine hK.out _ _ ?_ (fun hHeld => ?_)
            · (try dsimp only); (exact hHeld.kept jj198)
            clear hK K
            try simp only [Act.put, List.getElem_toArray, List.getElem_cons_succ, List.getElem_cons_zero, List.setIfInBounds_toArray, List.set_cons_zero, List.set_cons_succ]
            have s32_198 := hide rr198
            have hK198 := hide ((hK196.out).trans jj198 (by simp))
            have s22_198 := hide (Rd.kept (s22_196.out) jj198 (by simp))
            have s26_198 := hide (Rd.kept (s26_196.out) jj198 (by simp))
            refine wpAnyH_ready (rs := [27]) (by as_aux_lemma => kernel_rfl) (by simp) ?_
            refine AllReadyH.cons rfl (fun K hK => ?_) AllReadyH.nil
            rw [if_pos (by rfl)]
            refine wp_fnS _ _ _ rfl (enters_of Tryd.func38 (by as_aux_lemma => kernel_rfl) rfl) _ rfl _ (list6_any _ _ _ _) ?_
            refine hK.out _ _ ?_ (fun hHeld => ?_)
            · (try dsimp only); (exact hHeld)
            clear hK K
            try simp only [Act.put, List.getElem_toArray, List.getElem_cons_succ, List.getElem_cons_zero, List.setIfInBounds_toArray, List.set_cons_zero, List.set_cons_succ]
            have F1 := hHeld
            have F2 := (hK198.out)
            have F3 := (s22_198.out)
            have F4 := (s26_198.out)
            have F5 := (s32_198.out)
            exact H g194 g196 g198 _ ⟨F1, F2, F3, F4, F5⟩
        · rw [if_pos (by rfl)]
          refine wp_bsC 4 _ rfl [eC, nA, nA, eC] rfl (by decide) (by decide) (by as_aux_lemma => kernel_rfl) ?_
          intro g199 V199 rr199 jj199
          refine hK.out _ _ ?_ (fun hHeld => ?_)
          · (try dsimp only); (exact hHeld.kept jj199)
          clear hK K
          try simp only [Act.put, List.getElem_toArray, List.getElem_cons_succ, List.getElem_cons_zero, List.setIfInBounds_toArray, List.set_cons_zero, List.set_cons_succ]
          have s32_199 := hide rr199
          have hK199 := hide ((hK195.out).trans jj199 (by simp))
          have s22_199 := hide (Rd.kept (s22_195.out) jj199 (by simp))
          refine wpAnyH_ready (rs := [26]) (by as_aux_lemma => kernel_rfl) (by simp) ?_
          refine AllReadyH.cons rfl (fun K hK => ?_) AllReadyH.nil
          rw [if_pos (by rfl)]
          refine wp_bsC 2 _ rfl [nA, nA] rfl (by decide) (by decide) (by as_aux_lemma => kernel_rfl) ?_
          intro g200 V200 rr200 jj200
          refine hK.out _ _ ?_ (fun hHeld => ?_)
          · (try dsimp only); (exact hHeld.kept jj200)
          clear hK K
          try simp only [Act.put, List.getElem_toArray, List.getElem_cons_succ, List.getElem_cons_zero, List.setIfInBounds_toArray, List.set_cons_zero, List.set_cons_succ]
          have s26_200 := hide rr200
          have hK200 := hide ((hK199.out).trans jj200 (by simp))
          have s22_200 := hide (Rd.kept (s22_199.out) jj200 (by simp))
          have s32_200 := hide (Rd.kept (s32_199.out) jj200 (by simp))
          refine wpAnyH_ready (rs := [27]) (by as_aux_lemma => kernel_rfl) (by simp) ?_
          refine AllReadyH.cons rfl (fun K hK => ?_) AllReadyH.nil
          rw [if_pos (by rfl)]
          refine wp_fnS _ _ _ rfl (enters_of Tryd.func38 (by as_aux_lemma => kernel_rfl) rfl) _ rfl _ (list6_any _ _ _ _) ?_
          refine hK.out _ _ ?_ (fun hHeld => ?_)
          · (try dsimp only); (exact hHeld)
          clear hK K
          try simp only [Act.put, List.getElem_toArray, List.getElem_cons_succ, List.getElem_cons_zero, List.setIfInBounds_toArray, List.set_cons_zero, List.set_cons_succ]
          have F1 := hHeld
          have F2 := (hK200.out)
          have F3 := (s22_200.out)
          have F4 := (s26_200.out)
          have F5 := (s32_200.out)
          exact H g194 g200 g199 _ ⟨F1, F2, F3, F4, F5⟩
      · rw [if_pos (by rfl)]
        refine wp_bsC 2 _ rfl [nA, nA] rfl (by decide) (by decide) (by as_aux_lemma => kernel_rfl) ?_
        intro g201 V201 rr201 jj201
        refine hK.out _ _ ?_ (fun hHeld => ?_)
        · (try dsimp only); (exact hHeld.kept jj201)
        clear hK K
        try simp only [Act.put, List.getElem_toArray, List.getElem_cons_succ, List.getElem_cons_zero, List.setIfInBounds_toArray, List.set_cons_zero, List.set_cons_succ]
        have s26_201 := hide rr201
        have hK201 := hide ((hK194.out).trans jj201 (by simp))
        have s22_201 := hide (Rd.kept (s22_194.out) jj201 (by simp))
        refine wpAnyH_ready (rs := [23, 32]) (by as_aux_lemma => kernel_rfl) (by simp) ?_
        refine AllReadyH.cons rfl (fun K hK => ?_) (AllReadyH.cons rfl (fun K hK => ?_) AllReadyH.nil)
        · rw [if_pos (by rfl)]
          refine wp_fnK _ _ _ rfl (enters_of Tryd.func37 (by as_aux_lemma => kernel_rfl) rfl) _ rfl _ (hard_any _ _ _ _) ?_
          intro V202 hj202
          refine hK.out _ _ ?_ (fun hHeld => ?_)
          · (try dsimp only); (exact hHeld.kept hj202)
          clear hK K
          try simp only [Act.put, List.getElem_toArray, List.getElem_cons_succ, List.getElem_cons_zero, List.setIfInBounds_toArray, List.set_cons_zero, List.set_cons_succ]
          have hK202 := hide ((hK201.out).trans hj202 (by simp))
          have s22_202 := hide (Rd.kept (s22_201.out) hj202 (by simp))
          have s26_202 := hide (Rd.kept (s26_201.out) hj202 (by simp))
          refine wpAnyH_ready (rs := [27, 32]) (by as_aux_lemma => kernel_rfl) (by simp) ?_
          refine AllReadyH.cons rfl (fun K hK => ?_) (AllReadyH.cons rfl (fun K hK => ?_) AllReadyH.nil)
          · rw [if_pos (by rfl)]
            refine wp_fnS _ _ _ rfl (enters_of Tryd.func38 (by as_aux_lemma => kernel_rfl) rfl) _ rfl _ (list6_any _ _ _ _) ?_
            refine hK.out _ _ ?_ (fun hHeld => ?_)
            · (try dsimp only); (exact hHeld)
            clear hK K
            try simp only [Act.put, List.getElem_toArray, List.getElem_cons_succ, List.getElem_cons_zero, List.setIfInBounds_toArray, List.set_cons_zero, List.set_cons_succ]
            refine wpAnyH_ready (rs := [32]) (by as_aux_lemma => kernel_rfl) (by simp) ?_
            refine AllReadyH.cons rfl (fun K hK => ?_) AllReadyH.nil
            rw [if_pos (by rfl)]
            refine wp_bsC 4 _ rfl [eC, nA, nA, eC] rfl (by decide) (by decide) (by as_aux_lemma => kernel_rfl) ?_
            intro g203 V203 rr203 jj203
            refine hK.out _ _ ?_ (fun hHeld => ?_)
            · (try dsimp only); (exact hHeld.kept jj203)
            clear hK K
            try simp only [Act.put, List.getElem_toArray, List.getElem_cons_succ, List.getElem_cons_zero, List.setIfInBounds_toArray, List.set_cons_zero, List.set_cons_succ]
            have s32_203 := hide rr203
            have hK203 := hide ((hK202.out).trans jj203 (by simp))
            have s22_203 := hide (Rd.kept (s22_202.out) jj203 (by simp))
            have s26_203 := hide (Rd.kept (s26_202.out) jj203 (by simp))
            have F1 := hHeld
            have F2 := (hK203.out)
            have F3 := (s22_203.out)
            have F4 := (s26_203.out)
            have F5 := (s32_203.out)
            exact H g194 g201 g203 _ ⟨F1, F2, F3, F4, F5⟩
          · rw [if_pos (by rfl)]
            refine wp_bsC 4 _ rfl [eC, nA, nA, eC] rfl (by decide) (by decide) (by as_aux_lemma => kernel_rfl) ?_
            intro g204 V204 rr204 jj204
            refine hK.out _ _ ?_ (fun hHeld => ?_)
            · (try dsimp only); (exact hHeld.kept jj204)
            clear hK K
            try simp only [Act.put, List.getElem_toArray, List.getElem_cons_succ, List.getElem_cons_zero, List.setIfInBounds_toArray, List.set_cons_zero, List.set_cons_succ]
            have s32_204 := hide rr204
            have hK204 := hide ((hK202.out).trans jj204 (by simp))
            have s22_204 := hide (Rd.kept (s22_202.out) jj204 (by simp))
            have s26_204 := hide (Rd.kept (s26_202.out) jj204 (by simp))
            refine wpAnyH_ready (rs := [27]) (by as_aux_lemma => kernel_rfl) (by simp) ?_
            refine AllReadyH.cons rfl (fun K hK => ?_) AllReadyH.nil
            rw [if_pos (by rfl)]
            refine wp_fnS _ _ _ rfl (enters_of Tryd.func38 (by as_aux_lemma => kernel_rfl) rfl) _ rfl _ (list6_any _ _ _ _) ?_
            refine hK.out _ _ ?_ (fun hHeld => ?_)
            · (try dsimp only); (exact hHeld)
            clear hK K
            try simp only [Act.put, List.getElem_toArray, List.getElem_cons_succ, List.getElem_cons_zero, List.setIfInBounds_toArray, List.set_cons_zero, List.set_cons_succ]
            have F1 := hHeld
            have F2 := (hK204.out)
            have F3 := (s22_204.out)
            have F4 := (s26_204.out)
            have F5 := (s32_204.out)
            exact H g194 g201 g204 _ ⟨F1, F2, F3, F4, F5⟩
        · rw [if_pos (by rfl)]
          refine wp_bsC 4 _ rfl [eC, nA, nA, eC] rfl (by decide) (by decide) (by as_aux_lemma => kernel_rfl) ?_
          intro g205 V205 rr205 jj205
          refine hK.out _ _ ?_ (fun hHeld => ?_)
          · (try dsimp only); (exact hHeld.kept jj205)
          clear hK K
          try simp only [Act.put, List.getElem_toArray, List.getElem_cons_succ, List.getElem_cons_zero, List.setIfInBounds_toArray, List.set_cons_zero, List.set_cons_succ]
          have s32_205 := hide rr205
          have hK205 := hide ((hK201.out).trans jj205 (by simp))
          have s22_205 := hide (Rd.kept (s22_201.out) jj205 (by simp))
          have s26_205 := hide (Rd.kept (s26_201.out) jj205 (by simp))
          refine wpAnyH_ready (rs := [23]) (by as_aux_lemma => kernel_rfl) (by simp) ?_
          refine AllReadyH.cons rfl (fun K hK => ?_) AllReadyH.nil
          rw [if_pos (by rfl)]
          refine wp_fnK _ _ _ rfl (enters_of Tryd.func37 (by as_aux_lemma => kernel_rfl) rfl) _ rfl _ (hard_any _ _ _ _) ?_
          intro V206 hj206
          refine hK.out _ _ ?_ (fun hHeld => ?_)
          · (try dsimp only); (exact hHeld.kept hj206)
          clear hK K
          try simp only [Act.put, List.getElem_toArray, List.getElem_cons_succ, List.getElem_cons_zero, List.setIfInBounds_toArray, List.set_cons_zero, List.set_cons_succ]
          have hK206 := hide ((hK205.out).trans hj206 (by simp))
          have s22_206 := hide (Rd.kept (s22_205.out) hj206 (by simp))
          have s26_206 := hide (Rd.kept (s26_205.out) hj206 (by simp))
          have s32_206 := hide (Rd.kept (s32_205.out) hj206 (by simp))
          refine wpAnyH_ready (rs := [27]) (by as_aux_lemma => kernel_rfl) (by simp) ?_
          refine AllReadyH.cons rfl (fun K hK => ?_) AllReadyH.nil
          rw [if_pos (by rfl)]
          refine wp_fnS _ _ _ rfl (enters_of Tryd.func38 (by as_aux_lemma => kernel_rfl) rfl) _ rfl _ (list6_any _ _ _ _) ?_
          refine hK.out _ _ ?_ (fun hHeld => ?_)
          · (try dsimp only); (exact hHeld)
          clear hK K
          try simp only [Act.put, List.getElem_toArray, List.getElem_cons_succ, List.getElem_cons_zero, List.setIfInBounds_toArray, List.set_cons_zero, List.set_cons_succ]
          have F1 := hHeld
          have F2 := (hK206.out)
          have F3 := (s22_206.out)
          have F4 := (s26_206.out)
          have F5 := (s32_206.out)
          exact H g194 g201 g205 _ ⟨F1, F2, F3, F4, F5⟩
      · rw [if_pos (by rfl)]
        refine wp_bsC 4 _ rfl [eC, nA, nA, eC] rfl (by decide) (by decide) (by as_aux_lemma => kernel_rfl) ?_
        intro g207 V207 rr207 jj207
        refine hK.out _ _ ?_ (fun hHeld => ?_)
        · (try dsimp only); (exact hHeld.kept jj207)
        clear hK K
        try simp only [Act.put, List.getElem_toArray, List.getElem_cons_succ, List.getElem_cons_zero, List.setIfInBounds_toArray, List.set_cons_zero, List.set_cons_succ]
        have s32_207 := hide rr207
        have hK207 := hide ((hK194.out).trans jj207 (by simp))
        have s22_207 := hide (Rd.kept (s22_194.out) jj207 (by simp))
        refine wpAnyH_ready (rs := [23, 26]) (by as_aux_lemma => kernel_rfl) (by simp) ?_
        refine AllReadyH.cons rfl (fun K hK => ?_) (AllReadyH.cons rfl (fun K hK => ?_) AllReadyH.nil)
        · rw [if_pos (by rfl)]
          refine wp_fnK _ _ _ rfl (enters_of Tryd.func37 (by as_aux_lemma => kernel_rfl) rfl) _ rfl _ (hard_any _ _ _ _) ?_
          intro V208 hj208
          refine hK.out _ _ ?_ (fun hHeld => ?_)
          · (try dsimp only); (exact hHeld.kept hj208)
          clear hK K
          try simp only [Act.put, List.getElem_toArray, List.getElem_cons_succ, List.getElem_cons_zero, List.setIfInBounds_toArray, List.set_cons_zero, List.set_cons_succ]
          have hK208 := hide ((hK207.out).trans hj208 (by simp))
          have s22_208 := hide (Rd.kept (s22_207.out) hj208 (by simp))
          have s32_208 := hide (Rd.kept (s32_207.out) hj208 (by simp))
          refine wpAnyH_ready (rs := [26]) (by as_aux_lemma => kernel_rfl) (by simp) ?_
          refine AllReadyH.cons rfl (fun K hK => ?_) AllReadyH.nil
          rw [if_pos (by rfl)]
          refine wp_bsC 2 _ rfl [nA, nA] rfl (by decide) (by decide) (by as_aux_lemma => kernel_rfl) ?_
          intro g209 V209 rr209 jj209
          refine hK.out _ _ ?_ (fun hHeld => ?_)
          · (try dsimp only); (exact hHeld.kept jj209)
          clear hK K
          try simp only [Act.put, List.getElem_toArray, List.getElem_cons_succ, List.getElem_cons_zero, List.setIfInBounds_toArray, List.set_cons_zero, List.set_cons_succ]
          have s26_209 := hide rr209
          have hK209 := hide ((hK208.out).trans jj209 (by simp))
          have s22_209 := hide (Rd.kept (s22_208.out) jj209 (by simp))
          have s32_209 := hide (Rd.kept (s32_208.out) jj209 (by simp))
          refine wpAnyH_ready (rs := [27]) (by as_aux_lemma => kernel_rfl) (by simp) ?_
          refine AllReadyH.cons rfl (fun K hK => ?_) AllReadyH.nil
          rw [if_pos (by rfl)]
          refine wp_fnS _ _ _ rfl (enters_of Tryd.func38 (by as_aux_lemma => kernel_rfl) rfl) _ rfl _ (list6_any _ _ _ _) ?_
          refine hK.out _ _ ?_ (fun hHeld => ?_)
          · (try dsimp only); (exact hHeld)
          clear hK K
          try simp only [Act.put, List.getElem_toArray, List.getElem_cons_succ, List.getElem_cons_zero, List.setIfInBounds_toArray, List.set_cons_zero, List.set_cons_succ]
          have F1 := hHeld
          have F2 := (hK209.out)
          have F3 := (s22_209.out)
          have F4 := (s26_209.out)
          have F5 := (s32_209.out)
          exact H g194 g209 g207 _ ⟨F1, F2, F3, F4, F5⟩
        · rw [if_pos (by rfl)]
          refine wp_bsC 2 _ rfl [nA, nA] rfl (by decide) (by decide) (by as_aux_lemma => kernel_rfl) ?_
          intro g210 V210 rr210 jj210
          refine hK.out _ _ ?_ (fun hHeld => ?_)
          · (try dsimp only); (exact hHeld.kept jj210)
          clear hK K
          try simp only [Act.put, List.getElem_toArray, List.getElem_cons_succ, List.getElem_cons_zero, List.setIfInBounds_toArray, List.set_cons_zero, List.set_cons_succ]
          have s26_210 := hide rr210
          have hK210 := hide ((hK207.out).trans jj210 (by simp))
          have s22_210 := hide (Rd.kept (s22_207.out) jj210 (by simp))
          have s32_210 := hide (Rd.kept (s32_207.out) jj210 (by simp))
          refine wpAnyH_ready (rs := [23]) (by as_aux_lemma => kernel_rfl) (by simp) ?_
          refine AllReadyH.cons rfl (fun K hK => ?_) AllReadyH.nil
          rw [if_pos (by rfl)]
          refine wp_fnK _ _ _ rfl (enters_of Tryd.func37 (by as_aux_lemma => kernel_rfl) rfl) _ rfl _ (hard_any _ _ _ _) ?_
          intro V211 hj211
          refine hK.out _ _ ?_ (fun hHeld => ?_)
          · (try dsimp only); (exact hHeld.kept hj211)
          clear hK K
          try simp only [Act.put, List.getElem_toArray, List.getElem_cons_succ, List.getElem_cons_zero, List.setIfInBounds_toArray, List.set_cons_zero, List.set_cons_succ]
          have hK211 := hide ((hK210.out).trans hj211 (by simp))
          have s22_211 := hide (Rd.kept (s22_210.out) hj211 (by simp))
          have s32_211 := hide (Rd.kept (s32_210.out) hj211 (by simp))
          have s26_211 := hide (Rd.kept (s26_210.out) hj211 (by simp))
          refine wpAnyH_ready (rs := [27]) (by as_aux_lemma => kernel_rfl) (by simp) ?_
          refine AllReadyH.cons rfl (fun K hK => ?_) AllReadyH.nil
          rw [if_pos (by rfl)]
          refine wp_fnS _ _ _ rfl (enters_of Tryd.func38 (by as_aux_lemma => kernel_rfl) rfl) _ rfl _ (list6_any _ _ _ _) ?_
          refine hK.out _ _ ?_ (fun hHeld => ?_)
          · (try dsimp only); (exact hHeld)
          clear hK K
          try simp only [Act.put, List.getElem_toArray, List.getElem_cons_succ, List.getElem_cons_zero, List.setIfInBounds_toArray, List.set_cons_zero, List.set_cons_succ]
          have F1 := hHeld
          have F2 := (hK211.out)
          have F3 := (s22_211.out)
          have F4 := (s26_211.out)
          have F5 := (s32_211.out)
          exact H g194 g210 g207 _ ⟨F1, F2, F3, F4, F5⟩
    · rw [if_pos (by rfl)]
      refine wp_bsC 2 _ rfl [nA, nA] rfl (by decide) (by decide) (by as_aux_lemma => kernel_rfl) ?_
      intro g212 V212 rr212 jj212
      refine hK.out _ _ ?_ (fun hHeld => ?_)
      · (try dsimp only); (exact hHeld.kept jj212)
      clear hK K
      try simp only [Act.put, List.getElem_toArray, List.getElem_cons_succ, List.getElem_cons_zero, List.setIfInBounds_toArray, List.set_cons_zero, List.set_cons_succ]
      have s26_212 := hide rr212
      have hK212 := hide ((hK193.out).trans jj212 (by simp))
      refine wpAnyH_ready (rs := [22, 32]) (by as_aux_lemma => kernel_rfl) (by simp) ?_
      refine AllReadyH.cons rfl (fun K hK => ?_) (AllReadyH.cons rfl (fun K hK => ?_) AllReadyH.nil)
      · rw [if_pos (by rfl)]
        refine wp_bsC 4 _ rfl [nW, zeroK, nW, zeroK] rfl (by decide) (by decide) (by as_aux_lemma => kernel_rfl) ?_
        intro g213 V213 rr213 jj213
        refine hK.out _ _ ?_ (fun hHeld => ?_)
        · (try dsimp only); (exact hHeld.kept jj213)
        clear hK K
        try simp only [Act.put, List.getElem_toArray, List.getElem_cons_succ, List.getElem_cons_zero, List.setIfInBounds_toArray, List.set_cons_zero, List.set_cons_succ]
        have s22_213 := hide rr213
        have hK213 := hide ((hK212.out).trans jj213 (by simp))
        have s26_213 := hide (Rd.kept (s26_212.out) jj213 (by simp))
        refine wpAnyH_ready (rs := [23, 32]) (by as_aux_lemma => kernel_rfl) (by simp) ?_
        refine AllReadyH.cons rfl (fun K hK => ?_) (AllReadyH.cons rfl (fun K hK => ?_) AllReadyH.nil)
        · rw [if_pos (by rfl)]
          refine wp_fnK _ _ _ rfl (enters_of Tryd.func37 (by as_aux_lemma => kernel_rfl) rfl) _ rfl _ (hard_any _ _ _ _) ?_
          intro V214 hj214
          refine hK.out _ _ ?_ (fun hHeld => ?_)
          · (try dsimp only); (exact hHeld.kept hj214)
          clear hK K
          try simp only [Act.put, List.getElem_toArray, List.getElem_cons_succ, List.getElem_cons_zero, List.setIfInBounds_toArray, List.set_cons_zero, List.set_cons_succ]
          have hK214 := hide ((hK213.out).trans hj214 (by simp))
          have s26_214 := hide (Rd.kept (s26_213.out) hj214 (by simp))
          have s22_214 := hide (Rd.kept (s22_213.out) hj214 (by simp))
          refine wpAnyH_ready (rs := [27, 32]) (by as_aux_lemma => kernel_rfl) (by simp) ?_
          refine AllReadyH.cons rfl (fun K hK => ?_) (AllReadyH.cons rfl (fun K hK => ?_) AllReadyH.nil)
          · rw [if_pos (by rfl)]
            refine wp_fnS _ _ _ rfl (enters_of Tryd.func38 (by as_aux_lemma => kernel_rfl) rfl) _ rfl _ (list6_any _ _ _ _) ?_
            refine hK.out _ _ ?_ (fun hHeld => ?_)
            · (try dsimp only); (exact hHeld)
            clear hK K
            try simp only [Act.put, List.getElem_toArray, List.getElem_cons_succ, List.getElem_cons_zero, List.setIfInBounds_toArray, List.set_cons_zero, List.set_cons_succ]
            refine wpAnyH_ready (rs := [32]) (by as_aux_lemma => kernel_rfl) (by simp) ?_
            refine AllReadyH.cons rfl (fun K hK => ?_) AllReadyH.nil
            rw [if_pos (by rfl)]
            refine wp_bsC 4 _ rfl [eC, nA, nA, eC] rfl (by decide) (by decide) (by as_aux_lemma => kernel_rfl) ?_
            intro g215 V215 rr215 jj215
            refine hK.out _ _ ?_ (fun hHeld => ?_)
            · (try dsimp only); (exact hHeld.kept jj215)
            clear hK K
            try simp only [Act.put, List.getElem_toArray, List.getElem_cons_succ, List.getElem_cons_zero, List.setIfInBounds_toArray, List.set_cons_zero, List.set_cons_succ]
            have s32_215 := hide rr215
            have hK215 := hide ((hK214.out).trans jj215 (by simp))
            have s26_215 := hide (Rd.kept (s26_214.out) jj215 (by simp))
            have s22_215 := hide (Rd.kept (s22_214.out) jj215 (by simp))
            have F1 := hHeld
            have F2 := (hK215.out)
            have F3 := (s22_215.out)
            have F4 := (s26_215.out)
            have F5 := (s32_215.out)
            exact H g213 g212 g215 _ ⟨F1, F2, F3, F4, F5⟩
          · rw [if_pos (by rfl)]
            refine wp_bsC 4 _ rfl [eC, nA, nA, eC] rfl (by decide) (by decide) (by as_aux_lemma => kernel_rfl) ?_
            intro g216 V216 rr216 jj216
            refine hK.out _ _ ?_ (fun hHeld => ?_)
            · (try dsimp only); (exact hHeld.kept jj216)
            clear hK K
            try simp only [Act.put, List.getElem_toArray, List.getElem_cons_succ, List.getElem_cons_zero, List.setIfInBounds_toArray, List.set_cons_zero, List.set_cons_succ]
            have s32_216 := hide rr216
            have hK216 := hide ((hK214.out).trans jj216 (by simp))
            have s26_216 := hide (Rd.kept (s26_214.out) jj216 (by simp))
            have s22_216 := hide (Rd.kept (s22_214.out) jj216 (by simp))
            refine wpAnyH_ready (rs := [27]) (by as_aux_lemma => kernel_rfl) (by simp) ?_
            refine AllReadyH.cons rfl (fun K hK => ?_) AllReadyH.nil
            rw [if_pos (by rfl)]
            refine wp_fnS _ _ _ rfl (enters_of Tryd.func38 (by as_aux_lemma => kernel_rfl) rfl) _ rfl _ (list6_any _ _ _ _) ?_
            refine hK.out _ _ ?_ (fun hHeld => ?_)
            · (try dsimp only); (exact hHeld)
            clear hK K
            try simp only [Act.put, List.getElem_toArray, List.getElem_cons_succ, List.getElem_cons_zero, List.setIfInBounds_toArray, List.set_cons_zero, List.set_cons_succ]
            have F1 := hHeld
            have F2 := (hK216.out)
            have F3 := (s22_216.out)
            have F4 := (s26_216.out)
            have F5 := (s32_216.out)
            exact H g213 g212 g216 _ ⟨F1, F2, F3, F4, F5⟩
        · rw [if_pos (by rfl)]
          refine wp_bsC 4 _ rfl [eC, nA, nA, eC] rfl (by decide) (by decide) (by as_aux_lemma => kernel_rfl) ?_
          intro g217 V217 rr217 jj217
          refine hK.out _ _ ?_ (fun hHeld => ?_)
          · (try dsimp only); (exact hHeld.kept jj217)
          clear hK K
          try simp only [Act.put, List.getElem_toArray, List.getElem_cons_succ, List.getElem_cons_zero, List.setIfInBounds_toArray, List.set_cons_zero, List.set_cons_succ]
          have s32_217 := hide rr217
          have hK217 := hide ((hK213.out).trans jj217 (by simp))
          have s26_217 := hide (Rd.kept (s26_213.out) jj217 (by simp))
          have s22_217 := hide (Rd.kept (s22_213.out) jj217 (by simp))
          refine wpAnyH_ready (rs := [23]) (by as_aux_lemma => kernel_rfl) (by simp) ?_
          refine AllReadyH.cons rfl (fun K hK => ?_) AllReadyH.nil
          rw [if_pos (by rfl)]
          refine wp_fnK _ _ _ rfl (enters_of Tryd.func37 (by as_aux_lemma => kernel_rfl) rfl) _ rfl _ (hard_any _ _ _ _) ?_
          intro V218 hj218
          refine hK.out _ _ ?_ (fun hHeld => ?_)
          · (try dsimp only); (exact hHeld.kept hj218)
          clear hK K
          try simp only [Act.put, List.getElem_toArray, List.getElem_cons_succ, List.getElem_cons_zero, List.setIfInBounds_toArray, List.set_cons_zero, List.set_cons_succ]
          have hK218 := hide ((hK217.out).trans hj218 (by simp))
          have s26_218 := hide (Rd.kept (s26_217.out) hj218 (by simp))
          have s22_218 := hide (Rd.kept (s22_217.out) hj218 (by simp))
          have s32_218 := hide (Rd.kept (s32_217.out) hj218 (by simp))
          refine wpAnyH_ready (rs := [27]) (by as_aux_lemma => kernel_rfl) (by simp) ?_
          refine AllReadyH.cons rfl (fun K hK => ?_) AllReadyH.nil
          rw [if_pos (by rfl)]
          refine wp_fnS _ _ _ rfl (enters_of Tryd.func38 (by as_aux_lemma => kernel_rfl) rfl) _ rfl _ (list6_any _ _ _ _) ?_
          refine hK.out _ _ ?_ (fun hHeld => ?_)
          · (try dsimp only); (exact hHeld)
          clear hK K
          try simp only [Act.put, List.getElem_toArray, List.getElem_cons_succ, List.getElem_cons_zero, List.setIfInBounds_toArray, List.set_cons_zero, List.set_cons_succ]
          have F1 := hHeld
          have F2 := (hK218.out)
          have F3 := (s22_218.out)
          have F4 := (s26_218.out)
          have F5 := (s32_218.out)
          exact H g213 g212 g217 _ ⟨F1, F2, F3, F4, F5⟩
      · rw [if_pos (by rfl)]
        refine wp_bsC 4 _ rfl [eC, nA, nA, eC] rfl (by decide) (by decide) (by as_aux_lemma => kernel_rfl) ?_
        intro g219 V219 rr219 jj219
        refine hK.out _ _ ?_ (fun hHeld => ?_)
        · (try dsimp only); (exact hHeld.kept jj219)
        clear hK K
        try simp only [Act.put, List.getElem_toArray, List.getElem_cons_succ, List.getElem_cons_zero, List.setIfInBounds_toArray, List.set_cons_zero, List.set_cons_succ]
        have s32_219 := hide rr219
        have hK219 := hide ((hK212.out).trans jj219 (by simp))
        have s26_219 := hide (Rd.kept (s26_212.out) jj219 (by simp))
        refine wpAnyH_ready (rs := [22]) (by as_aux_lemma => kernel_rfl) (by simp) ?_
        refine AllReadyH.cons rfl (fun K hK => ?_) AllReadyH.nil
        rw [if_pos (by rfl)]
        refine wp_bsC 4 _ rfl [nW, zeroK, nW, zeroK] rfl (by decide) (by decide) (by as_aux_lemma => kernel_rfl) ?_
        intro g220 V220 rr220 jj220
        refine hK.out _ _ ?_ (fun hHeld => ?_)
        · (try dsimp only); (exact hHeld.kept jj220)
        clear hK K
        try simp only [Act.put, List.getElem_toArray, List.getElem_cons_succ, List.getElem_cons_zero, List.setIfInBounds_toArray, List.set_cons_zero, List.set_cons_succ]
        have s22_220 := hide rr220
        have hK220 := hide ((hK219.out).trans jj220 (by simp))
        have s26_220 := hide (Rd.kept (s26_219.out) jj220 (by simp))
        have s32_220 := hide (Rd.kept (s32_219.out) jj220 (by simp))
        refine wpAnyH_ready (rs := [23]) (by as_aux_lemma => kernel_rfl) (by simp) ?_
        refine AllReadyH.cons rfl (fun K hK => ?_) AllReadyH.nil
        rw [if_pos (by rfl)]
        refine wp_fnK _ _ _ rfl (enters_of Tryd.func37 (by as_aux_lemma => kernel_rfl) rfl) _ rfl _ (hard_any _ _ _ _) ?_
        intro V221 hj221
        refine hK.out _ _ ?_ (fun hHeld => ?_)
        · (try dsimp only); (exact hHeld.kept hj221)
        clear hK K
        try simp only [Act.put, List.getElem_toArray, List.getElem_cons_succ, List.getElem_cons_zero, List.setIfInBounds_toArray, List.set_cons_zero, List.set_cons_succ]
        have hK221 := hide ((hK220.out).trans hj221 (by simp))
        have s26_221 := hide (Rd.kept (s26_220.out) hj221 (by simp))
        have s32_221 := hide (Rd.kept (s32_220.out) hj221 (by simp))
        have s22_221 := hide (Rd.kept (s22_220.out) hj221 (by simp))
        refine wpAnyH_ready (rs := [27]) (by as_aux_lemma => kernel_rfl) (by simp) ?_
        refine AllReadyH.cons rfl (fun K hK => ?_) AllReadyH.nil
        rw [if_pos (by rfl)]
        refine wp_fnS _ _ _ rfl (enters_of Tryd.func38 (by as_aux_lemma => kernel_rfl) rfl) _ rfl _ (list6_any _ _ _ _) ?_
        refine hK.out _ _ ?_ (fun hHeld => ?_)
        · (try dsimp only); (exact hHeld)
        clear hK K
        try simp only [Act.put, List.getElem_toArray, List.getElem_cons_succ, List.getElem_cons_zero, List.setIfInBounds_toArray, List.set_cons_zero, List.set_cons_succ]
        have F1 := hHeld
        have F2 := (hK221.out)
        have F3 := (s22_221.out)
        have F4 := (s26_221.out)
        have F5 := (s32_221.out)
        exact H g220 g212 g219 _ ⟨F1, F2, F3, F4, F5⟩
    · rw [if_pos (by rfl)]
      refine wp_bsC 4 _ rfl [eC, nA, nA, eC] rfl (by decide) (by decide) (by as_aux_lemma => kernel_rfl) ?_
      intro g222 V222 rr222 jj222
      refine hK.out _ _ ?_ (fun hHeld => ?_)
      · (try dsimp only); (exact hHeld.kept jj222)
      clear hK K
      try simp only [Act.put, List.getElem_toArray, List.getElem_cons_succ, List.getElem_cons_zero, List.setIfInBounds_toArray, List.set_cons_zero, List.set_cons_succ]
      have s32_222 := hide rr222
      have hK222 := hide ((hK193.out).trans jj222 (by simp))
      refine wpAnyH_ready (rs := [22, 26]) (by as_aux_lemma => kernel_rfl) (by simp) ?_
      refine AllReadyH.cons rfl (fun K hK => ?_) (AllReadyH.cons rfl (fun K hK => ?_) AllReadyH.nil)
      · rw [if_pos (by rfl)]
        refine wp_bsC 4 _ rfl [nW, zeroK, nW, zeroK] rfl (by decide) (by decide) (by as_aux_lemma => kernel_rfl) ?_
        intro g223 V223 rr223 jj223
        refine hK.out _ _ ?_ (fun hHeld => ?_)
        · (try dsimp only); (exact hHeld.kept jj223)
        clear hK K
        try simp only [Act.put, List.getElem_toArray, List.getElem_cons_succ, List.getElem_cons_zero, List.setIfInBounds_toArray, List.set_cons_zero, List.set_cons_succ]
        have s22_223 := hide rr223
        have hK223 := hide ((hK222.out).trans jj223 (by simp))
        have s32_223 := hide (Rd.kept (s32_222.out) jj223 (by simp))
        refine wpAnyH_ready (rs := [23, 26]) (by as_aux_lemma => kernel_rfl) (by simp) ?_
        refine AllReadyH.cons rfl (fun K hK => ?_) (AllReadyH.cons rfl (fun K hK => ?_) AllReadyH.nil)
        · rw [if_pos (by rfl)]
          refine wp_fnK _ _ _ rfl (enters_of Tryd.func37 (by as_aux_lemma => kernel_rfl) rfl) _ rfl _ (hard_any _ _ _ _) ?_
          intro V224 hj224
          refine hK.out _ _ ?_ (fun hHeld => ?_)
          · (try dsimp only); (exact hHeld.kept hj224)
          clear hK K
          try simp only [Act.put, List.getElem_toArray, List.getElem_cons_succ, List.getElem_cons_zero, List.setIfInBounds_toArray, List.set_cons_zero, List.set_cons_succ]
          have hK224 := hide ((hK223.out).trans hj224 (by simp))
          have s32_224 := hide (Rd.kept (s32_223.out) hj224 (by simp))
          have s22_224 := hide (Rd.kept (s22_223.out) hj224 (by simp))
          refine wpAnyH_ready (rs := [26]) (by as_aux_lemma => kernel_rfl) (by simp) ?_
          refine AllReadyH.cons rfl (fun K hK => ?_) AllReadyH.nil
          rw [if_pos (by rfl)]
          refine wp_bsC 2 _ rfl [nA, nA] rfl (by decide) (by decide) (by as_aux_lemma => kernel_rfl) ?_
          intro g225 V225 rr225 jj225
          refine hK.out _ _ ?_ (fun hHeld => ?_)
          · (try dsimp only); (exact hHeld.kept jj225)
          clear hK K
          try simp only [Act.put, List.getElem_toArray, List.getElem_cons_succ, List.getElem_cons_zero, List.setIfInBounds_toArray, List.set_cons_zero, List.set_cons_succ]
          have s26_225 := hide rr225
          have hK225 := hide ((hK224.out).trans jj225 (by simp))
          have s32_225 := hide (Rd.kept (s32_224.out) jj225 (by simp))
          have s22_225 := hide (Rd.kept (s22_224.out) jj225 (by simp))
          refine wpAnyH_ready (rs := [27]) (by as_aux_lemma => kernel_rfl) (by simp) ?_
          refine AllReadyH.cons rfl (fun K hK => ?_) AllReadyH.nil
          rw [if_pos (by rfl)]
          refine wp_fnS _ _ _ rfl (enters_of Tryd.func38 (by as_aux_lemma => kernel_rfl) rfl) _ rfl _ (list6_any _ _ _ _) ?_
          refine hK.out _ _ ?_ (fun hHeld => ?_)
          · (try dsimp only); (exact hHeld)
          clear hK K
          try simp only [Act.put, List.getElem_toArray, List.getElem_cons_succ, List.getElem_cons_zero, List.setIfInBounds_toArray, List.set_cons_zero, List.set_cons_succ]
          have F1 := hHeld
          have F2 := (hK225.out)
          have F3 := (s22_225.out)
          have F4 := (s26_225.out)
          have F5 := (s32_225.out)
          exact H g223 g225 g222 _ ⟨F1, F2, F3, F4, F5⟩
        · rw [if_pos (by rfl)]
          refine wp_bsC 2 _ rfl [nA, nA] rfl (by decide) (by decide) (by as_aux_lemma => kernel_rfl) ?_
          intro g226 V226 rr226 jj226
          refine hK.out _ _ ?_ (fun hHeld => ?_)
          · (try dsimp only); (exact hHeld.kept jj226)
          clear hK K
          try simp only [Act.put, List.getElem_toArray, List.getElem_cons_succ, List.getElem_cons_zero, List.setIfInBounds_toArray, List.set_cons_zero, List.set_cons_succ]
          have s26_226 := hide rr226
          have hK226 := hide ((hK223.out).trans jj226 (by simp))
          have s32_226 := hide (Rd.kept (s32_223.out) jj226 (by simp))
          have s22_226 := hide (Rd.kept (s22_223.out) jj226 (by simp))
          refine wpAnyH_ready (rs := [23]) (by as_aux_lemma => kernel_rfl) (by simp) ?_
          refine AllReadyH.cons rfl (fun K hK => ?_) AllReadyH.nil
          rw [if_pos (by rfl)]
          refine wp_fnK _ _ _ rfl (enters_of Tryd.func37 (by as_aux_lemma => kernel_rfl) rfl) _ rfl _ (hard_any _ _ _ _) ?_
          intro V227 hj227
          refine hK.out _ _ ?_ (fun hHeld => ?_)
          · (try dsimp only); (exact hHeld.kept hj227)
          clear hK K
          try simp only [Act.put, List.getElem_toArray, List.getElem_cons_succ, List.getElem_cons_zero, List.setIfInBounds_toArray, List.set_cons_zero, List.set_cons_succ]
          have hK227 := hide ((hK226.out).trans hj227 (by simp))
          have s32_227 := hide (Rd.kept (s32_226.out) hj227 (by simp))
          have s22_227 := hide (Rd.kept (s22_226.out) hj227 (by simp))
          have s26_227 := hide (Rd.kept (s26_226.out) hj227 (by simp))
          refine wpAnyH_ready (rs := [27]) (by as_aux_lemma => kernel_rfl) (by simp) ?_
          refine AllReadyH.cons rfl (fun K hK => ?_) AllReadyH.nil
          rw [if_pos (by rfl)]
          refine wp_fnS _ _ _ rfl (enters_of Tryd.func38 (by as_aux_lemma => kernel_rfl) rfl) _ rfl _ (list6_any _ _ _ _) ?_
          refine hK.out _ _ ?_ (fun hHeld => ?_)
          · (try dsimp only); (exact hHeld)
          clear hK K
          try simp only [Act.put, List.getElem_toArray, List.getElem_cons_succ, List.getElem_cons_zero, List.setIfInBounds_toArray, List.set_cons_zero, List.set_cons_succ]
          have F1 := hHeld
          have F2 := (hK227.out)
          have F3 := (s22_227.out)
          have F4 := (s26_227.out)
          have F5 := (s32_227.out)
          exact H g223 g226 g222 _ ⟨F1, F2, F3, F4, F5⟩
      · rw [if_pos (by rfl)]
        refine wp_bsC 2 _ rfl [nA, nA] rfl (by decide) (by decide) (by as_aux_lemma => kernel_rfl) ?_
        intro g228 V228 rr228 jj228
        refine hK.out _ _ ?_ (fun hHeld => ?_)
        · (try dsimp only); (exact hHeld.kept jj228)
        clear hK K
        try simp only [Act.put, List.getElem_toArray, List.getElem_cons_succ, List.getElem_cons_zero, List.setIfInBounds_toArray, List.set_cons_zero, List.set_cons_succ]
        have s26_228 := hide rr228
        have hK228 := hide ((hK222.out).trans jj228 (by simp))
        have s32_228 := hide (Rd.kept (s32_222.out) jj228 (by simp))
        refine wpAnyH_ready (rs := [22]) (by as_aux_lemma => kernel_rfl) (by simp) ?_
        refine AllReadyH.cons rfl (fun K hK => ?_) AllReadyH.nil
        rw [if_pos (by rfl)]
        refine wp_bsC 4 _ rfl [nW, zeroK, nW, zeroK] rfl (by decide) (by decide) (by as_aux_lemma => kernel_rfl) ?_
        intro g229 V229 rr229 jj229
        refine hK.out _ _ ?_ (fun hHeld => ?_)
        · (try dsimp only); (exact hHeld.kept jj229)
        clear hK K
        try simp only [Act.put, List.getElem_toArray, List.getElem_cons_succ, List.getElem_cons_zero, List.setIfInBounds_toArray, List.set_cons_zero, List.set_cons_succ]
        have s22_229 := hide rr229
        have hK229 := hide ((hK228.out).trans jj229 (by simp))
        have s32_229 := hide (Rd.kept (s32_228.out) jj229 (by simp))
        have s26_229 := hide (Rd.kept (s26_228.out) jj229 (by simp))
        refine wpAnyH_ready (rs := [23]) (by as_aux_lemma => kernel_rfl) (by simp) ?_
        refine AllReadyH.cons rfl (fun K hK => ?_) AllReadyH.nil
        rw [if_pos (by rfl)]
        refine wp_fnK _ _ _ rfl (enters_of Tryd.func37 (by as_aux_lemma => kernel_rfl) rfl) _ rfl _ (hard_any _ _ _ _) ?_
        intro V230 hj230
        refine hK.out _ _ ?_ (fun hHeld => ?_)
        · (try dsimp only); (exact hHeld.kept hj230)
        clear hK K
        try simp only [Act.put, List.getElem_toArray, List.getElem_cons_succ, List.getElem_cons_zero, List.setIfInBounds_toArray, List.set_cons_zero, List.set_cons_succ]
        have hK230 := hide ((hK229.out).trans hj230 (by simp))
        have s32_230 := hide (Rd.kept (s32_229.out) hj230 (by simp))
        have s26_230 := hide (Rd.kept (s26_229.out) hj230 (by simp))
        have s22_230 := hide (Rd.kept (s22_229.out) hj230 (by simp))
        refine wpAnyH_ready (rs := [27]) (by as_aux_lemma => kernel_rfl) (by simp) ?_
        refine AllReadyH.cons rfl (fun K hK => ?_) AllReadyH.nil
        rw [if_pos (by rfl)]
        refine wp_fnS _ _ _ rfl (enters_of Tryd.func38 (by as_aux_lemma => kernel_rfl) rfl) _ rfl _ (list6_any _ _ _ _) ?_
        refine hK.out _ _ ?_ (fun hHeld => ?_)
        · (try dsimp only); (exact hHeld)
        clear hK K
        try simp only [Act.put, List.getElem_toArray, List.getElem_cons_succ, List.getElem_cons_zero, List.setIfInBounds_toArray, List.set_cons_zero, List.set_cons_succ]
        have F1 := hHeld
        have F2 := (hK230.out)
        have F3 := (s22_230.out)
        have F4 := (s26_230.out)
        have F5 := (s32_230.out)
        exact H g229 g228 g222 _ ⟨F1, F2, F3, F4, F5⟩
  case' hh5 => intro gs5_22 gs5_26 gs5_32 Vs5 hF
  have hHeld := hF.1
  have hKs5 := hide hF.2.1
  have qs5_22 := hide (hF.2.2.1)
  have qs5_26 := hide (hF.2.2.2.1)
  have qs5_32 := hide (hF.2.2.2.2)
  clear hF
  refine wpAnyH_ready (rs := [33]) (by as_aux_lemma => kernel_rfl) (by simp) ?_
  refine AllReadyH.cons rfl (fun K hK => ?_) AllReadyH.nil
  rw [if_pos (by rfl)]
  refine wp_fnK _ _ _ rfl (enters_of Tryd.func37 (by as_aux_lemma => kernel_rfl) rfl) _ rfl _ (hard_any _ _ _ _) ?_
  intro V231 hj231
  refine hK.out _ _ ?_ (fun hHeld => ?_)
  · (try dsimp only); (exact hHeld.kept hj231)
  clear hK K
  try simp only [Act.put, List.getElem_toArray, List.getElem_cons_succ, List.getElem_cons_zero, List.setIfInBounds_toArray, List.set_cons_zero, List.set_cons_succ]
  have hK231 := hide ((hKs5.out).trans hj231 (by simp))
  have s22_231 := hide (Rd.kept (qs5_22.out) hj231 (by simp))
  have s26_231 := hide (Rd.kept (qs5_26.out) hj231 (by simp))
  have s32_231 := hide (Rd.kept (qs5_32.out) hj231 (by simp))
  refine wpAnyH_ready (rs := [34]) (by as_aux_lemma => kernel_rfl) (by simp) ?_
  refine AllReadyH.cons rfl (fun K hK => ?_) AllReadyH.nil
  rw [if_pos (by rfl)]
  refine wp_fnK _ _ _ rfl (enters_of Tryd.func39 (by as_aux_lemma => kernel_rfl) rfl) _ rfl _ (puts_ask Put6_any _ 4 4 [nW, zeroK, nW, zeroK] false (1) _ 2 2 [nA, nA] _ 4 4 false [eC, nA, nA, eC] 0 true _ (ht0.out.kept (hK231.out)) (s22_231.out) (by decide) (Nat.le_refl _) (by decide) (s26_231.out) (by decide) (by decide) (by decide) (s32_231.out) (by decide +kernel)) ?_
  intro V232 hj232
  refine hK.out _ _ ?_ (fun hHeld => ?_)
  · (try dsimp only); (exact hHeld.kept hj232)
  clear hK K
  try simp only [Act.put, List.getElem_toArray, List.getElem_cons_succ, List.getElem_cons_zero, List.setIfInBounds_toArray, List.set_cons_zero, List.set_cons_succ]
  have hK232 := hide ((hK231.out).trans hj232 (by simp))
  refine wpAnyH_take (i := 35) (v := ?_) rfl (by as_aux_lemma => kernel_rfl) (by as_aux_lemma => kernel_rfl) (by as_aux_lemma => kernel_rfl) (fun _ _ _ h => h) (Or.inl ⟨by rfl, ?_⟩) (by assumption) ?_
  rotate_left
  · (intro wq hSw; (try dsimp only at hSw); go_simp; try with_reducible rfl)
  try simp only [Act.put, List.getElem_toArray, List.getElem_cons_succ, List.getElem_cons_zero, List.setIfInBounds_toArray, List.set_cons_zero, List.set_cons_succ]
  refine wpAnyH_take (i := 36) (v := ?_) rfl (by as_aux_lemma => kernel_rfl) (by as_aux_lemma => kernel_rfl) (by as_aux_lemma => kernel_rfl) (fun _ _ _ h => h) (Or.inl ⟨by rfl, ?_⟩) (by assumption) ?_
  rotate_left
  · (intro wq hSw; (try dsimp only at hSw); go_simp; try with_reducible rfl)
  try simp only [Act.put, List.getElem_toArray, List.getElem_cons_succ, List.getElem_cons_zero, List.setIfInBounds_toArray, List.set_cons_zero, List.set_cons_succ]
  refine wpAnyH_take (i := 37) (v := ?_) rfl (by as_aux_lemma => kernel_rfl) (by as_aux_lemma => kernel_rfl) (by as_aux_lemma => kernel_rfl) (fun _ _ _ h => h) (Or.inl ⟨by rfl, ?_⟩) (by assumption) ?_
  rotate_left
  · (intro wq hSw; (try dsimp only at hSw); go_simp; try with_reducible rfl)
  try simp only [Act.put, List.getElem_toArray, List.getElem_cons_succ, List.getElem_cons_zero, List.setIfInBounds_toArray, List.set_cons_zero, List.set_cons_succ]
  refine wpAnyH_take (i := 38) (v := kV nA) rfl (by as_aux_lemma => kernel_rfl) (by as_aux_lemma => kernel_rfl) (by as_aux_lemma => kernel_rfl) (fun _ _ _ h => h) (yieldsIf_load_mid (by rfl) 60 _ rfl b1 0 rfl (kcL nA) _ (fun _ h => h.c1.range) Tryd.underlying60 rfl (by as_aux_lemma => kernel_rfl)) (by assumption) ?_
  try simp only [Act.put, List.getElem_toArray, List.getElem_cons_succ, List.getElem_cons_zero, List.setIfInBounds_toArray, List.set_cons_zero, List.set_cons_succ]
  refine wpAnyH_take (i := 39) (v := kV eC) rfl (by as_aux_lemma => kernel_rfl) (by as_aux_lemma => kernel_rfl) (by as_aux_lemma => kernel_rfl) (fun _ _ _ h => h) (yieldsIf_load_mid (by rfl) 60 _ rfl b4 0 rfl (kcL eC) _ (fun _ h => h.c4.range) Tryd.underlying60 rfl (by as_aux_lemma => kernel_rfl)) (by assumption) ?_
  try simp only [Act.put, List.getElem_toArray, List.getElem_cons_succ, List.getElem_cons_zero, List.setIfInBounds_toArray, List.set_cons_zero, List.set_cons_succ]
  refine wpAnyH_take (i := 42) (v := kV nW) rfl (by as_aux_lemma => kernel_rfl) (by as_aux_lemma => kernel_rfl) (by as_aux_lemma => kernel_rfl) (fun _ _ _ h => h) (yieldsIf_load_mid (by rfl) 60 _ rfl b2 0 rfl (kcL nW) _ (fun _ h => h.c2.range) Tryd.underlying60 rfl (by as_aux_lemma => kernel_rfl)) (by assumption) ?_
  try simp only [Act.put, List.getElem_toArray, List.getElem_cons_succ, List.getElem_cons_zero, List.setIfInBounds_toArray, List.set_cons_zero, List.set_cons_succ]
  refine wpAnyH_take (i := 43) (v := kV zeroK) rfl (by as_aux_lemma => kernel_rfl) (by as_aux_lemma => kernel_rfl) (by as_aux_lemma => kernel_rfl) (fun _ _ _ h => h) (yieldsIf_load_mid (by rfl) 60 _ rfl b3 0 rfl (kcL zeroK) _ (fun _ h => h.c3.range) Tryd.underlying60 rfl (by as_aux_lemma => kernel_rfl)) (by assumption) ?_
  try simp only [Act.put, List.getElem_toArray, List.getElem_cons_succ, List.getElem_cons_zero, List.setIfInBounds_toArray, List.set_cons_zero, List.set_cons_succ]
  refine wpAnyH_take (i := 46) (v := .agg #[.slice none 0 0, .bool false]) rfl (by as_aux_lemma => kernel_rfl) (by as_aux_lemma => kernel_rfl) (by as_aux_lemma => kernel_rfl) (fun _ _ _ h => h) (yieldsIf_load_mid (by rfl) 27 _ rfl b6 0 rfl (linL none 0 0 false) _ (fun _ h => h.l6.range) Tryd.underlying27 rfl (by as_aux_lemma => kernel_rfl)) (by assumption) ?_
  try simp only [Act.put, List.getElem_toArray, List.getElem_cons_succ, List.getElem_cons_zero, List.setIfInBounds_toArray, List.set_cons_zero, List.set_cons_succ]
  refine' shareN2 (F := (fun v0 v1 W => (Kn6 W b1 b2 b3 b4 b5 b6 b7 g7) ∧ Kept [] w W ∧ Rd W (some ⟨v0, 0, none⟩) 2 16 (cellsV [nA, eC]) ∧ Rd W (some ⟨v1, 0, none⟩) 2 16 (cellsV [nW, zeroK]))) (fun H => ?kk6) ?hh6
  case kk6 =>
    refine wpAnyH_ready (rs := [40, 44]) (by as_aux_lemma => kernel_rfl) (by simp) ?_
    refine AllReadyH.cons rfl (fun K hK => ?_) (AllReadyH.cons rfl (fun K hK => ?_) AllReadyH.nil)
    · rw [if_pos (by rfl)]
      refine wp_bsC 2 _ rfl [nA, eC] rfl (by decide) (by decide) (by as_aux_lemma => kernel_rfl) ?_
      intro g233 V233 rr233 jj233
      refine hK.out _ _ ?_ (fun hHeld => ?_)
      · (try dsimp only); (exact hHeld.kept jj233)
      clear hK K
      try simp only [Act.put, List.getElem_toArray, List.getElem_cons_succ, List.getElem_cons_zero, List.setIfInBounds_toArray, List.set_cons_zero, List.set_cons_succ]
      have s40_233 := hide rr233
      have hK233 := hide ((hK232.out).trans jj233 (by simp))
      refine wpAnyH_ready (rs := [41, 44]) (by as_aux_lemma => kernel_rfl) (by simp) ?_
      refine AllReadyH.cons rfl (fun K hK => ?_) (AllReadyH.cons rfl (fun K hK => ?_) AllReadyH.nil)
      · rw [if_pos (by rfl)]
        refine wp_fnK _ _ _ rfl (enters_of Tryd.func37 (by as_aux_lemma => kernel_rfl) rfl) _ rfl _ (hard_any _ _ _ _) ?_
        intro V234 hj234
        refine hK.out _ _ ?_ (fun hHeld => ?_)
        · (try dsimp only); (exact hHeld.kept hj234)
        clear hK K
        try simp only [Act.put, List.getElem_toArray, List.getElem_cons_succ, List.getElem_cons_zero, List.setIfInBounds_toArray, List.set_cons_zero, List.set_cons_succ]
        have hK234 := hide ((hK233.out).trans hj234 (by simp))
        have s40_234 := hide (Rd.kept (s40_233.out) hj234 (by simp))
        refine wpAnyH_ready (rs := [44]) (by as_aux_lemma => kernel_rfl) (by simp) ?_
        refine AllReadyH.cons rfl (fun K hK => ?_) AllReadyH.nil
        rw [if_pos (by rfl)]
        refine wp_bsC 2 _ rfl [nW, zeroK] rfl (by decide) (by decide) (by as_aux_lemma => kernel_rfl) ?_
        intro g235 V235 rr235 jj235
        refine hK.out _ _ ?_ (fun hHeld => ?_)
        · (try dsimp only); (exact hHeld.kept jj235)
        clear hK K
        try simp only [Act.put, List.getElem_toArray, List.getElem_cons_succ, List.getElem_cons_zero, List.setIfInBounds_toArray, List.set_cons_zero, List.set_cons_succ]
        have s44_235 := hide rr235
        have hK235 := hide ((hK234.out).trans jj235 (by simp))
        have s40_235 := hide (Rd.kept (s40_234.out) jj235 (by simp))
        have F1 := hHeld
        have F2 := (hK235.out)
        have F3 := (s40_235.out)
        have F4 := (s44_235.out)
        exact H g233 g235 _ ⟨F1, F2, F3, F4⟩
      · rw [if_pos (by rfl)]
        refine wp_bsC 2 _ rfl [nW, zeroK] rfl (by decide) (by decide) (by as_aux_lemma => kernel_rfl) ?_
        intro g236 V236 rr236 jj236
        refine hK.out _ _ ?_ (fun hHeld => ?_)
        · (try dsimp only); (exact hHeld.kept jj236)
        clear hK K
        try simp only [Act.put, List.getElem_toArray, List.getElem_cons_succ, List.getElem_cons_zero, List.setIfInBounds_toArray, List.set_cons_zero, List.set_cons_succ]
        have s44_236 := hide rr236
        have hK236 := hide ((hK233.out).trans jj236 (by simp))
        have s40_236 := hide (Rd.kept (s40_233.out) jj236 (by simp))
        refine wpAnyH_ready (rs := [41]) (by as_aux_lemma => kernel_rfl) (by simp) ?_
        refine AllReadyH.cons rfl (fun K hK => ?_) AllReadyH.nil
        rw [if_pos (by rfl)]
        refine wp_fnK _ _ _ rfl (enters_of Tryd.func37 (by as_aux_lemma => kernel_rfl) rfl) _ rfl _ (hard_any _ _ _ _) ?_
        intro V237 hj237
        refine hK.out _ _ ?_ (fun hHeld => ?_)
        · (try dsimp only); (exact hHeld.kept hj237)
        clear hK K
        try simp only [Act.put, List.getElem_toArray, List.getElem_cons_succ, List.getElem_cons_zero, List.setIfInBounds_toArray, List.set_cons_zero, List.set_cons_succ]
        have hK237 := hide ((hK236.out).trans hj237 (by simp))
        have s40_237 := hide (Rd.kept (s40_236.out) hj237 (by simp))
        have s44_237 := hide (Rd.kept (s44_236.out) hj237 (by simp))
        have F1 := hHeld
        have F2 := (hK237.out)
        have F3 := (s40_237.out)
        have F4 := (s44_237.out)
        exact H g233 g236 _ ⟨F1, F2, F3, F4⟩
    · rw [if_pos (by rfl)]
      refine wp_bsC 2 _ rfl [nW, zeroK] rfl (by decide) (by decide) (by as_aux_lemma => kernel_rfl) ?_
      intro g238 V238 rr238 jj238
      refine hK.out _ _ ?_ (fun hHeld => ?_)
      · (try dsimp only); (exact hHeld.kept jj238)
      clear hK K
      try simp only [Act.put, List.getElem_toArray, List.getElem_cons_succ, List.getElem_cons_zero, List.setIfInBounds_toArray, List.set_cons_zero, List.set_cons_succ]
      have s44_238 := hide rr238
      have hK238 := hide ((hK232.out).trans jj238 (by simp))
      refine wpAnyH_ready (rs := [40]) (by as_aux_lemma => kernel_rfl) (by simp) ?_
      refine AllReadyH.cons rfl (fun K hK => ?_) AllReadyH.nil
      rw [if_pos (by rfl)]
      refine wp_bsC 2 _ rfl [nA, eC] rfl (by decide) (by decide) (by as_aux_lemma => kernel_rfl) ?_
      intro g239 V239 rr239 jj239
      refine hK.out _ _ ?_ (fun hHeld => ?_)
      · (try dsimp only); (exact hHeld.kept jj239)
      clear hK K
      try simp only [Act.put, List.getElem_toArray, List.getElem_cons_succ, List.getElem_cons_zero, List.setIfInBounds_toArray, List.set_cons_zero, List.set_cons_succ]
      have s40_239 := hide rr239
      have hK239 := hide ((hK238.out).trans jj239 (by simp))
      have s44_239 := hide (Rd.kept (s44_238.out) jj239 (by simp))
      refine wpAnyH_ready (rs := [41]) (by as_aux_lemma => kernel_rfl) (by simp) ?_
      refine AllReadyH.cons rfl (fun K hK => ?_) AllReadyH.nil
      rw [if_pos (by rfl)]
      refine wp_fnK _ _ _ rfl (enters_of Tryd.func37 (by as_aux_lemma => kernel_rfl) rfl) _ rfl _ (hard_any _ _ _ _) ?_
      intro V240 hj240
      refine hK.out _ _ ?_ (fun hHeld => ?_)
      · (try dsimp only); (exact hHeld.kept hj240)
      clear hK K
      try simp only [Act.put, List.getElem_toArray, List.getElem_cons_succ, List.getElem_cons_zero, List.setIfInBounds_toArray, List.set_cons_zero, List.set_cons_succ]
      have hK240 := hide ((hK239.out).trans hj240 (by simp))
      have s44_240 := hide (Rd.kept (s44_239.out) hj240 (by simp))
      have s40_240 := hide (Rd.kept (s40_239.out) hj240 (by simp))
      have F1 := hHeld
      have F2 := (hK240.out)
      have F3 := (s40_240.out)
      have F4 := (s44_240.out)
      exact H g239 g238 _ ⟨F1, F2, F3, F4⟩
  case' hh6 => intro gs6_40 gs6_44 Vs6 hF
  have hHeld := hF.1
  have hKs6 := hide hF.2.1
  have qs6_40 := hide (hF.2.2.1)
  have qs6_44 := hide (hF.2.2.2)
  clear hF
  refine wpAnyH_ready (rs := [45]) (by as_aux_lemma => kernel_rfl) (by simp) ?_
  refine AllReadyH.cons rfl (fun K hK => ?_) AllReadyH.nil
  rw [if_pos (by rfl)]
  refine wp_fnS _ _ _ rfl (enters_of Tryd.func38 (by as_aux_lemma => kernel_rfl) rfl) _ rfl _ (list6_any _ _ _ _) ?_
  refine hK.out _ _ ?_ (fun hHeld => ?_)
  · (try dsimp only); (exact hHeld)
  clear hK K
  try simp only [Act.put, List.getElem_toArray, List.getElem_cons_succ, List.getElem_cons_zero, List.setIfInBounds_toArray, List.set_cons_zero, List.set_cons_succ]
  refine wpAnyH_ready (rs := [47]) (by as_aux_lemma => kernel_rfl) (by simp) ?_
  refine AllReadyH.cons rfl (fun K hK => ?_) AllReadyH.nil
  rw [if_pos (by rfl)]
  refine wp_fnK _ _ _ rfl (enters_of Tryd.func39 (by as_aux_lemma => kernel_rfl) rfl) _ rfl _ (puts_ask Put6_any _ 2 2 [nA, eC] false (1) _ 2 2 [nW, zeroK] _ 0 0 false [] 3 true _ (ht0.out.kept (hKs6.out)) (qs6_40.out) (by decide) (Nat.le_refl _) (by decide) (qs6_44.out) (by decide) (by decide) (by decide) (Rd.nil _ _ _) (by decide +kernel)) ?_
  intro V241 hj241
  refine hK.out _ _ ?_ (fun hHeld => ?_)
  · (try dsimp only); (exact hHeld.kept hj241)
  clear hK K
  try simp only [Act.put, List.getElem_toArray, List.getElem_cons_succ, List.getElem_cons_zero, List.setIfInBounds_toArray, List.set_cons_zero, List.set_cons_succ]
  have hK241 := hide ((hKs6.out).trans hj241 (by simp))
  refine wpAnyH_take (i := 48) (v := ?_) rfl (by as_aux_lemma => kernel_rfl) (by as_aux_lemma => kernel_rfl) (by as_aux_lemma => kernel_rfl) (fun _ _ _ h => h) (Or.inl ⟨by rfl, ?_⟩) (by assumption) ?_
  rotate_left
  · (intro wq hSw; (try dsimp only at hSw); go_simp; try with_reducible rfl)
  try simp only [Act.put, List.getElem_toArray, List.getElem_cons_succ, List.getElem_cons_zero, List.setIfInBounds_toArray, List.set_cons_zero, List.set_cons_succ]
  refine wpAnyH_take (i := 49) (v := ?_) rfl (by as_aux_lemma => kernel_rfl) (by as_aux_lemma => kernel_rfl) (by as_aux_lemma => kernel_rfl) (fun _ _ _ h => h) (Or.inl ⟨by rfl, ?_⟩) (by assumption) ?_
  rotate_left
  · (intro wq hSw; (try dsimp only at hSw); go_simp; try with_reducible rfl)
  try simp only [Act.put, List.getElem_toArray, List.getElem_cons_succ, List.getElem_cons_zero, List.setIfInBounds_toArray, List.set_cons_zero, List.set_cons_succ]
  refine wpAnyH_take (i := 50) (v := ?_) rfl (by as_aux_lemma => kernel_rfl) (by as_aux_lemma => kernel_rfl) (by as_aux_lemma => kernel_rfl) (fun _ _ _ h => h) (Or.inl ⟨by rfl, ?_⟩) (by assumption) ?_
  rotate_left
  · (intro wq hSw; (try dsimp only at hSw); go_simp; try with_reducible rfl)
  try simp only [Act.put, List.getElem_toArray, List.getElem_cons_succ, List.getElem_cons_zero, List.setIfInBounds_toArray, List.set_cons_zero, List.set_cons_succ]
  refine wpAnyH_take (i := 51) (v := kV nA) rfl (by as_aux_lemma => kernel_rfl) (by as_aux_lemma => kernel_rfl) (by as_aux_lemma => kernel_rfl) (fun _ _ _ h => h) (yieldsIf_load_mid (by rfl) 60 _ rfl b1 0 rfl (kcL nA) _ (fun _ h => h.c1.range) Tryd.underlying60 rfl (by as_aux_lemma => kernel_rfl)) (by assumption) ?_
  try simp only [Act.put, List.getElem_toArray, List.getElem_cons_succ, List.getElem_cons_zero, List.setIfInBounds_toArray, List.set_cons_zero, List.set_cons_succ]
  refine wpAnyH_take (i := 52) (v := kV eC) rfl (by as_aux_lemma => kernel_rfl) (by as_aux_lemma => kernel_rfl) (by as_aux_lemma => kernel_rfl) (fun _ _ _ h => h) (yieldsIf_load_mid (by rfl) 60 _ rfl b4 0 rfl (kcL eC) _ (fun _ h => h.c4.range) Tryd.underlying60 rfl (by as_aux_lemma => kernel_rfl)) (by assumption) ?_
  try simp only [Act.put, List.getElem_toArray, List.getElem_cons_succ, List.getElem_cons_zero, List.setIfInBounds_toArray, List.set_cons_zero, List.set_cons_succ]
  refine wpAnyH_take (i := 55) (v := kV nA) rfl (by as_aux_lemma => kernel_rfl) (by as_aux_lemma => kernel_rfl) (by as_aux_lemma => kernel_rfl) (fun _ _ _ h => h) (yieldsIf_load_mid (by rfl) 60 _ rfl b1 0 rfl (kcL nA) _ (fun _ h => h.c1.range) Tryd.underlying60 rfl (by as_aux_lemma => kernel_rfl)) (by assumption) ?_
  try simp only [Act.put, List.getElem_toArray, List.getElem_cons_succ, List.getElem_cons_zero, List.setIfInBounds_toArray, List.set_cons_zero, List.set_cons_succ]
  refine wpAnyH_take (i := 56) (v := kV eC) rfl (by as_aux_lemma => kernel_rfl) (by as_aux_lemma => kernel_rfl) (by as_aux_lemma => kernel_rfl) (fun _ _ _ h => h) (yieldsIf_load_mid (by rfl) 60 _ rfl b4 0 rfl (kcL eC) _ (fun _ h => h.c4.range) Tryd.underlying60 rfl (by as_aux_lemma => kernel_rfl)) (by assumption) ?_
  try simp only [Act.put, List.getElem_toArray, List.getElem_cons_succ, List.getElem_cons_zero, List.setIfInBounds_toArray, List.set_cons_zero, List.set_cons_succ]
  refine' shareN2 (F := (fun v0 v1 W => (Kn6 W b1 b2 b3 b4 b5 b6 b7 g7) ∧ Kept [] w W ∧ Rd W (some ⟨v0, 0, none⟩) 2 16 (cellsV [nA, eC]) ∧ Rd W (some ⟨v1, 0, none⟩) 2 16 (cellsV [nA, eC]))) (fun H => ?kk7) ?hh7
  case kk7 =>
    refine wpAnyH_ready (rs := [53, 57]) (by as_aux_lemma => kernel_rfl) (by simp) ?_
    refine AllReadyH.cons rfl (fun K hK => ?_) (AllReadyH.cons rfl (fun K hK => ?_) AllReadyH.nil)
    · rw [if_pos (by rfl)]
      refine wp_bsC 2 _ rfl [nA, eC] rfl (by decide) (by decide) (by as_aux_lemma => kernel_rfl) ?_
      intro g242 V242 rr242 jj242
      refine hK.out _ _ ?_ (fun hHeld => ?_)
      · (try dsimp only); (exact hHeld.kept jj242)
      clear hK K
      try simp only [Act.put, List.getElem_toArray, List.getElem_cons_succ, List.getElem_cons_zero, List.setIfInBounds_toArray, List.set_cons_zero, List.set_cons_succ]
      have s53_242 := hide rr242
      have hK242 := hide ((hK241.out).trans jj242 (by simp))
      refine wpAnyH_ready (rs := [54, 57]) (by as_aux_lemma => kernel_rfl) (by simp) ?_
      refine AllReadyH.cons rfl (fun K hK => ?_) (AllReadyH.cons rfl (fun K hK => ?_) AllReadyH.nil)
      · rw [if_pos (by rfl)]
        refine wp_fnK _ _ _ rfl (enters_of Tryd.func37 (by as_aux_lemma => kernel_rfl) rfl) _ rfl _ (hard_any _ _ _ _) ?_
        intro V243 hj243
        refine hK.out _ _ ?_ (fun hHeld => ?_)
        · (try dsimp only); (exact hHeld.kept hj243)
        clear hK K
        try simp only [Act.put, List.getElem_toArray, List.getElem_cons_succ, List.getElem_cons_zero, List.setIfInBounds_toArray, List.set_cons_zero, List.set_cons_succ]
        have hK243 := hide ((hK242.out).trans hj243 (by simp))
        have s53_243 := hide (Rd.kept (s53_242.out) hj243 (by simp))
        refine wpAnyH_ready (rs := [57]) (by as_aux_lemma => kernel_rfl) (by simp) ?_
        refine AllReadyH.cons rfl (fun K hK => ?_) AllReadyH.nil
        rw [if_pos (by rfl)]
        refine wp_bsC 2 _ rfl [nA, eC] rfl (by decide) (by decide) (by as_aux_lemma => kernel_rfl) ?_
        intro g244 V244 rr244 jj244
        refine hK.out _ _ ?_ (fun hHeld => ?_)
        · (try dsimp only); (exact hHeld.kept jj244)
        clear hK K
        try simp only [Act.put, List.getElem_toArray, List.getElem_cons_succ, List.getElem_cons_zero, List.setIfInBounds_toArray, List.set_cons_zero, List.set_cons_succ]
        have s57_244 := hide rr244
        have hK244 := hide ((hK243.out).trans jj244 (by simp))
        have s53_244 := hide (Rd.kept (s53_243.out) jj244 (by simp))
        have F1 := hHeld
        have F2 := (hK244.out)
        have F3 := (s53_244.out)
        have F4 := (s57_244.out)
        exact H g242 g244 _ ⟨F1, F2, F3, F4⟩
      · rw [if_pos (by rfl)]
        refine wp_bsC 2 _ rfl [nA, eC] rfl (by decide) (by decide) (by as_aux_lemma => kernel_rfl) ?_
        intro g245 V245 rr245 jj245
        refine hK.out _ _ ?_ (fun hHeld => ?_)
        · (try dsimp only); (exact hHeld.kept jj245)
        clear hK K
        try simp only [Act.put, List.getElem_toArray, List.getElem_cons_succ, List.getElem_cons_zero, List.setIfInBounds_toArray, List.set_cons_zero, List.set_cons_succ]
        have s57_245 := hide rr245
        have hK245 := hide ((hK242.out).trans jj245 (by simp))
        have s53_245 := hide (Rd.kept (s53_242.out) jj245 (by simp))
        refine wpAnyH_ready (rs := [54]) (by as_aux_lemma => kernel_rfl) (by simp) ?_
        refine AllReadyH.cons rfl (fun K hK => ?_) AllReadyH.nil
        rw [if_pos (by rfl)]
        refine wp_fnK _ _ _ rfl (enters_of Tryd.func37 (by as_aux_lemma => kernel_rfl) rfl) _ rfl _ (hard_any _ _ _ _) ?_
        intro V246 hj246
        refine hK.out _ _ ?_ (fun hHeld => ?_)
        · (try dsimp only); (exact hHeld.kept hj246)
        clear hK K
        try simp only [Act.put, List.getElem_toArray, List.getElem_cons_succ, List.getElem_cons_zero, List.setIfInBounds_toArray, List.set_cons_zero, List.set_cons_succ]
        have hK246 := hide ((hK245.out).trans hj246 (by simp))
        have s53_246 := hide (Rd.kept (s53_245.out) hj246 (by simp))
        have s57_246 := hide (Rd.kept (s57_245.out) hj246 (by simp))
        have F1 := hHeld
        have F2 := (hK246.out)
        have F3 := (s53_246.out)
        have F4 := (s57_246.out)
        exact H g242 g245 _ ⟨F1, F2, F3, F4⟩
    · rw [if_pos (by rfl)]
      refine wp_bsC 2 _ rfl [nA, eC] rfl (by decide) (by decide) (by as_aux_lemma => kernel_rfl) ?_
      intro g247 V247 rr247 jj247
      refine hK.out _ _ ?_ (fun hHeld => ?_)
      · (try dsimp only); (exact hHeld.kept jj247)
      clear hK K
      try simp only [Act.put, List.getElem_toArray, List.getElem_cons_succ, List.getElem_cons_zero, List.setIfInBounds_toArray, List.set_cons_zero, List.set_cons_succ]
      have s57_247 := hide rr247
      have hK247 := hide ((hK241.out).trans jj247 (by simp))
      refine wpAnyH_ready (rs := [53]) (by as_aux_lemma => kernel_rfl) (by simp) ?_
      refine AllReadyH.cons rfl (fun K hK => ?_) AllReadyH.nil
      rw [if_pos (by rfl)]
      refine wp_bsC 2 _ rfl [nA, eC] rfl (by decide) (by decide) (by as_aux_lemma => kernel_rfl) ?_
      intro g248 V248 rr248 jj248
      refine hK.out _ _ ?_ (fun hHeld => ?_)
      · (try dsimp only); (exact hHeld.kept jj248)
      clear hK K
      try simp only [Act.put, List.getElem_toArray, List.getElem_cons_succ, List.getElem_cons_zero, List.setIfInBounds_toArray, List.set_cons_zero, List.set_cons_succ]
      have s53_248 := hide rr248
      have hK248 := hide ((hK247.out).trans jj248 (by simp))
      have s57_248 := hide (Rd.kept (s57_247.out) jj248 (by simp))
      refine wpAnyH_ready (rs := [54]) (by as_aux_lemma => kernel_rfl) (by simp) ?_
      refine AllReadyH.cons rfl (fun K hK => ?_) AllReadyH.nil
      rw [if_pos (by rfl)]
      refine wp_fnK _ _ _ rfl (enters_of Tryd.func37 (by as_aux_lemma => kernel_rfl) rfl) _ rfl _ (hard_any _ _ _ _) ?_
      intro V249 hj249
      refine hK.out _ _ ?_ (fun hHeld => ?_)
      · (try dsimp only); (exact hHeld.kept hj249)
      clear hK K
      try simp only [Act.put, List.getElem_toArray, List.getElem_cons_succ, List.getElem_cons_zero, List.setIfInBounds_toArray, List.set_cons_zero, List.set_cons_succ]
      have hK249 := hide ((hK248.out).trans hj249 (by simp))
      have s57_249 := hide (Rd.kept (s57_248.out) hj249 (by simp))
      have s53_249 := hide (Rd.kept (s53_248.out) hj249 (by simp))
      have F1 := hHeld
      have F2 := (hK249.out)
      have F3 := (s53_249.out)
      have F4 := (s57_249.out)
      exact H g248 g247 _ ⟨F1, F2, F3, F4⟩
  case' hh7 => intro gs7_53 gs7_57 Vs7 hF
  have hHeld := hF.1
  have hKs7 := hide hF.2.1
  have qs7_53 := hide (hF.2.2.1)
  have qs7_57 := hide (hF.2.2.2)
  clear hF
  refine wpAnyH_ready (rs := [58]) (by as_aux_lemma => kernel_rfl) (by simp) ?_
  refine AllReadyH.cons rfl (fun K hK => ?_) AllReadyH.nil
  rw [if_pos (by rfl)]
  refine wp_fnK _ _ _ rfl (enters_of Tryd.func37 (by as_aux_lemma => kernel_rfl) rfl) _ rfl _ (hard_any _ _ _ _) ?_
  intro V250 hj250
  refine hK.out _ _ ?_ (fun hHeld => ?_)
  · (try dsimp only); (exact hHeld.kept hj250)
  clear hK K
  try simp only [Act.put, List.getElem_toArray, List.getElem_cons_succ, List.getElem_cons_zero, List.setIfInBounds_toArray, List.set_cons_zero, List.set_cons_succ]
  have hK250 := hide ((hKs7.out).trans hj250 (by simp))
  have s53_250 := hide (Rd.kept (qs7_53.out) hj250 (by simp))
  have s57_250 := hide (Rd.kept (qs7_57.out) hj250 (by simp))
  refine wpAnyH_ready (rs := [59]) (by as_aux_lemma => kernel_rfl) (by simp) ?_
  refine AllReadyH.cons rfl (fun K hK => ?_) AllReadyH.nil
  rw [if_pos (by rfl)]
  refine wp_fnK _ _ _ rfl (enters_of Tryd.func39 (by as_aux_lemma => kernel_rfl) rfl) _ rfl _ (puts_ask Put6_any _ 2 2 [nA, eC] false (2) _ 0 0 [] _ 2 2 false [nA, eC] 0 true _ (ht0.out.kept (hK250.out)) (s53_250.out) (by decide) (Nat.le_refl _) (by decide) (Rd.nil _ _ _) (by decide) (by decide) (by decide) (s57_250.out) (by decide +kernel)) ?_
  intro V251 hj251
  refine hK.out _ _ ?_ (fun hHeld => ?_)
  · (try dsimp only); (exact hHeld.kept hj251)
  clear hK K
  try simp only [Act.put, List.getElem_toArray, List.getElem_cons_succ, List.getElem_cons_zero, List.setIfInBounds_toArray, List.set_cons_zero, List.set_cons_succ]
  have hK251 := hide ((hK250.out).trans hj251 (by simp))
  refine wpAnyH_take (i := 60) (v := ?_) rfl (by as_aux_lemma => kernel_rfl) (by as_aux_lemma => kernel_rfl) (by as_aux_lemma => kernel_rfl) (fun _ _ _ h => h) (Or.inl ⟨by rfl, ?_⟩) (by assumption) ?_
  rotate_left
  · (intro wq hSw; (try dsimp only at hSw); go_simp; try with_reducible rfl)
  try simp only [Act.put, List.getElem_toArray, List.getElem_cons_succ, List.getElem_cons_zero, List.setIfInBounds_toArray, List.set_cons_zero, List.set_cons_succ]
  refine wpAnyH_take (i := 61) (v := ?_) rfl (by as_aux_lemma => kernel_rfl) (by as_aux_lemma => kernel_rfl) (by as_aux_lemma => kernel_rfl) (fun _ _ _ h => h) (Or.inl ⟨by rfl, ?_⟩) (by assumption) ?_
  rotate_left
  · (intro wq hSw; (try dsimp only at hSw); go_simp; try with_reducible rfl)
  try simp only [Act.put, List.getElem_toArray, List.getElem_cons_succ, List.getElem_cons_zero, List.setIfInBounds_toArray, List.set_cons_zero, List.set_cons_succ]
  refine wpAnyH_take (i := 62) (v := ?_) rfl (by as_aux_lemma => kernel_rfl) (by as_aux_lemma => kernel_rfl) (by as_aux_lemma => kernel_rfl) (fun _ _ _ h => h) (Or.inl ⟨by rfl, ?_⟩) (by assumption) ?_
  rotate_left
  · (intro wq hSw; (try dsimp only at hSw); go_simp; try with_reducible rfl)
  try simp only [Act.put, List.getElem_toArray, List.getElem_cons_succ, List.getElem_cons_zero, List.setIfInBounds_toArray, List.set_cons_zero, List.set_cons_succ]
  refine wpAnyH_take (i := 63) (v := kV nA) rfl (by as_aux_lemma => kernel_rfl) (by as_aux_lemma => kernel_rfl) (by as_aux_lemma => kernel_rfl) (fun _ _ _ h => h) (yieldsIf_load_mid (by rfl) 60 _ rfl b1 0 rfl (kcL nA) _ (fun _ h => h.c1.range) Tryd.underlying60 rfl (by as_aux_lemma => kernel_rfl)) (by assumption) ?_
  try simp only [Act.put, List.getElem_toArray, List.getElem_cons_succ, List.getElem_cons_zero, List.setIfInBounds_toArray, List.set_cons_zero, List.set_cons_succ]
  refine wpAnyH_take (i := 64) (v := kV eC) rfl (by as_aux_lemma => kernel_rfl) (by as_aux_lemma => kernel_rfl) (by as_aux_lemma => kernel_rfl) (fun _ _ _ h => h) (yieldsIf_load_mid (by rfl) 60 _ rfl b4 0 rfl (kcL eC) _ (fun _ h => h.c4.range) Tryd.underlying60 rfl (by as_aux_lemma => kernel_rfl)) (by assumption) ?_
  try simp only [Act.put, List.getElem_toArray, List.getElem_cons_succ, List.getElem_cons_zero, List.setIfInBounds_toArray, List.set_cons_zero, List.set_cons_succ]
  refine wpAnyH_take (i := 67) (v := kV zeroK) rfl (by as_aux_lemma => kernel_rfl) (by as_aux_lemma => kernel_rfl) (by as_aux_lemma => kernel_rfl) (fun _ _ _ h => h) (yieldsIf_load_mid (by rfl) 60 _ rfl b3 0 rfl (kcL zeroK) _ (fun _ h => h.c3.range) Tryd.underlying60 rfl (by as_aux_lemma => kernel_rfl)) (by assumption) ?_
  try simp only [Act.put, List.getElem_toArray, List.getElem_cons_succ, List.getElem_cons_zero, List.setIfInBounds_toArray, List.set_cons_zero, List.set_cons_succ]
  refine wpAnyH_take (i := 70) (v := .agg #[.slice none 0 0, .bool false]) rfl (by as_aux_lemma => kernel_rfl) (by as_aux_lemma => kernel_rfl) (by as_aux_lemma => kernel_rfl) (fun _ _ _ h => h) (yieldsIf_load_mid (by rfl) 27 _ rfl b6 0 rfl (linL none 0 0 false) _ (fun _ h => h.l6.range) Tryd.underlying27 rfl (by as_aux_lemma => kernel_rfl)) (by assumption) ?_
  try simp only [Act.put, List.getElem_toArray, List.getElem_cons_succ, List.getElem_cons_zero, List.setIfInBounds_toArray, List.set_cons_zero, List.set_cons_succ]
  refine' shareN2 (F := (fun v0 v1 W => (Kn6 W b1 b2 b3 b4 b5 b6 b7 g7) ∧ Kept [] w W ∧ Rd W (some ⟨v0, 0, none⟩) 2 16 (cellsV [nA, eC]) ∧ Rd W (some ⟨v1, 0, none⟩) 1 16 (cellsV [zeroK]))) (fun H => ?kk8) ?hh8
  case kk8 =>
    refine wpAnyH_ready (rs := [65, 68]) (by as_aux_lemma => kernel_rfl) (by simp) ?_
    refine AllReadyH.cons rfl (fun K hK => ?_) (AllReadyH.cons rfl (fun K hK => ?_) AllReadyH.nil)
    · rw [if_pos (by rfl)]
      refine wp_bsC 2 _ rfl [nA, eC] rfl (by decide) (by decide) (by as_aux_lemma => kernel_rfl) ?_
      intro g252 V252 rr252 jj252
      refine hK.out _ _ ?_ (fun hHeld => ?_)
      · (try dsimp only); (exact hHeld.kept jj252)
      clear hK K
      try simp only [Act.put, List.getElem_toArray, List.getElem_cons_succ, List.getElem_cons_zero, List.setIfInBounds_toArray, List.set_cons_zero, List.set_cons_succ]
      have s65_252 := hide rr252
      have hK252 := hide ((hK251.out).trans jj252 (by simp))
      refine wpAnyH_ready (rs := [66, 68]) (by as_aux_lemma => kernel_rfl) (by simp) ?_
      refine AllReadyH.cons rfl (fun K hK => ?_) (AllReadyH.cons rfl (fun K hK => ?_) AllReadyH.nil)
      · rw [if_pos (by rfl)]
        refine wp_fnK _ _ _ rfl (enters_of Tryd.func37 (by as_aux_lemma => kernel_rfl) rfl) _ rfl _ (hard_any _ _ _ _) ?_
        intro V253 hj253
        refine hK.out _ _ ?_ (fun hHeld => ?_)
        · (try dsimp only); (exact hHeld.kept hj253)
        clear hK K
        try simp only [Act.put, List.getElem_toArray, List.getElem_cons_succ, List.getElem_cons_zero, List.setIfInBounds_toArray, List.set_cons_zero, List.set_cons_succ]
        have hK253 := hide ((hK252.out).trans hj253 (by simp))
        have s65_253 := hide (Rd.kept (s65_252.out) hj253 (by simp))
        refine wpAnyH_ready (rs := [68]) (by as_aux_lemma => kernel_rfl) (by simp) ?_
        refine AllReadyH.cons rfl (fun K hK => ?_) AllReadyH.nil
        rw [if_pos (by rfl)]
        refine wp_bsC 1 _ rfl [zeroK] rfl (by decide) (by decide) (by as_aux_lemma => kernel_rfl) ?_
        intro g254 V254 rr254 jj254
        refine hK.out _ _ ?_ (fun hHeld => ?_)
        · (try dsimp only); (exact hHeld.kept jj254)
        clear hK K
        try simp only [Act.put, List.getElem_toArray, List.getElem_cons_succ, List.getElem_cons_zero, List.setIfInBounds_toArray, List.set_cons_zero, List.set_cons_succ]
        have s68_254 := hide rr254
        have hK254 := hide ((hK253.out).trans jj254 (by simp))
        have s65_254 := hide (Rd.kept (s65_253.out) jj254 (by simp))
        have F1 := hHeld
        have F2 := (hK254.out)
        have F3 := (s65_254.out)
        have F4 := (s68_254.out)
        exact H g252 g254 _ ⟨F1, F2, F3, F4⟩
      · rw [if_pos (by rfl)]
        refine wp_bsC 1 _ rfl [zeroK] rfl (by decide) (by decide) (by as_aux_lemma => kernel_rfl) ?_
        intro g255 V255 rr255 jj255
        refine hK.out _ _ ?_ (fun hHeld => ?_)
        · (try dsimp only); (exact hHeld.kept jj255)
        clear hK K
        try simp only [Act.put, List.getElem_toArray, List.getElem_cons_succ, List.getElem_cons_zero, List.setIfInBounds_toArray, List.set_cons_zero, List.set_cons_succ]
        have s68_255 := hide rr255
        have hK255 := hide ((hK252.out).trans jj255 (by simp))
        have s65_255 := hide (Rd.kept (s65_252.out) jj255 (by simp))
        refine wpAnyH_ready (rs := [66]) (by as_aux_lemma => kernel_rfl) (by simp) ?_
        refine AllReadyH.cons rfl (fun K hK => ?_) AllReadyH.nil
        rw [if_pos (by rfl)]
        refine wp_fnK _ _ _ rfl (enters_of Tryd.func37 (by as_aux_lemma => kernel_rfl) rfl) _ rfl _ (hard_any _ _ _ _) ?_
        intro V256 hj256
        refine hK.out _ _ ?_ (fun hHeld => ?_)
        · (try dsimp only); (exact hHeld.kept hj256)
        clear hK K
        try simp only [Act.put, List.getElem_toArray, List.getElem_cons_succ, List.getElem_cons_zero, List.setIfInBounds_toArray, List.set_cons_zero, List.set_cons_succ]
        have hK256 := hide ((hK255.out).trans hj256 (by simp))
        have s65_256 := hide (Rd.kept (s65_255.out) hj256 (by simp))
        have s68_256 := hide (Rd.kept (s68_255.out) hj256 (by simp))
        have F1 := hHeld
        have F2 := (hK256.out)
        have F3 := (s65_256.out)
        have F4 := (s68_256.out)
        exact H g252 g255 _ ⟨F1, F2, F3, F4⟩
    · rw [if_pos (by rfl)]
      refine wp_bsC 1 _ rfl [zeroK] rfl (by decide) (by decide) (by as_aux_lemma => kernel_rfl) ?_
      intro g257 V257 rr257 jj257
      refine hK.out _ _ ?_ (fun hHeld => ?_)
      · (try dsimp only); (exact hHeld.kept jj257)
      clear hK K
      try simp only [Act.put, List.getElem_toArray, List.getElem_cons_succ, List.getElem_cons_zero, List.setIfInBounds_toArray, List.set_cons_zero, List.set_cons_succ]
      have s68_257 := hide rr257
      have hK257 := hide ((hK251.out).trans jj257 (by simp))
      refine wpAnyH_ready (rs := [65]) (by as_aux_lemma => kernel_rfl) (by simp) ?_
      refine AllReadyH.cons rfl (fun K hK => ?_) AllReadyH.nil
      rw [if_pos (by rfl)]
      refine wp_bsC 2 _ rfl [nA, eC] rfl (by decide) (by decide) (by as_aux_lemma => kernel_rfl) ?_
      intro g258 V258 rr258 jj258
      refine hK.out _ _ ?_ (fun hHeld => ?_)
      · (try dsimp only); (exact hHeld.kept jj258)
      clear hK K
      try simp only [Act.put, List.getElem_toArray, List.getElem_cons_succ, List.getElem_cons_zero, List.setIfInBounds_toArray, List.set_cons_zero, List.set_cons_succ]
      have s65_258 := hide rr258
      have hK258 := hide ((hK257.out).trans jj258 (by simp))
      have s68_258 := hide (Rd.kept (s68_257.out) jj258 (by simp))
      refine wpAnyH_ready (rs := [66]) (by as_aux_lemma => kernel_rfl) (by simp) ?_
      refine AllReadyH.cons rfl (fun K hK => ?_) AllReadyH.nil
      rw [if_pos (by rfl)]
      refine wp_fnK _ _ _ rfl (enters_of Tryd.func37 (by as_aux_lemma => kernel_rfl) rfl) _ rfl _ (hard_any _ _ _ _) ?_
      intro V259 hj259
      refine hK.out _ _ ?_ (fun hHeld => ?_)
      · (try dsimp only); (exact hHeld.kept hj259)
      clear hK K
      try simp only [Act.put, List.getElem_toArray, List.getElem_cons_succ, List.getElem_cons_zero, List.setIfInBounds_toArray, List.set_cons_zero, List.set_cons_succ]
      have hK259 := hide ((hK258.out).trans hj259 (by simp))
      have s68_259 := hide (Rd.kept (s68_258.out) hj259 (by simp))
      have s65_259 := hide (Rd.kept (s65_258.out) hj259 (by simp))
      have F1 := hHeld
      have F2 := (hK259.out)
      have F3 := (s65_259.out)
      have F4 := (s68_259.out)
      exact H g258 g257 _ ⟨F1, F2, F3, F4⟩
  case' hh8 => intro gs8_65 gs8_68 Vs8 hF
  have hHeld := hF.1
  have hKs8 := hide hF.2.1
  have qs8_65 := hide (hF.2.2.1)
  have qs8_68 := hide (hF.2.2.2)
  clear hF
  refine wpAnyH_ready (rs := [69]) (by as_aux_lemma => kernel_rfl) (by simp) ?_
  refine AllReadyH.cons rfl (fun K hK => ?_) AllReadyH.nil
  rw [if_pos (by rfl)]
  refine wp_fnS _ _ _ rfl (enters_of Tryd.func38 (by as_aux_lemma => kernel_rfl) rfl) _ rfl _ (list6_any _ _ _ _) ?_
  refine hK.out _ _ ?_ (fun hHeld => ?_)
  · (try dsimp only); (exact hHeld)
  clear hK K
  try simp only [Act.put, List.getElem_toArray, List.getElem_cons_succ, List.getElem_cons_zero, List.setIfInBounds_toArray, List.set_cons_zero, List.set_cons_succ]
  refine wpAnyH_ready (rs := [71]) (by as_aux_lemma => kernel_rfl) (by simp) ?_
  refine AllReadyH.cons rfl (fun K hK => ?_) AllReadyH.nil
  rw [if_pos (by rfl)]
  refine wp_fnK _ _ _ rfl (enters_of Tryd.func39 (by as_aux_lemma => kernel_rfl) rfl) _ rfl _ (puts_ask Put6_any _ 2 2 [nA, eC] false (0) _ 1 1 [zeroK] _ 0 0 false [] 2 true _ (ht0.out.kept (hKs8.out)) (qs8_65.out) (by decide) (Nat.le_refl _) (by decide) (qs8_68.out) (by decide) (by decide) (by decide) (Rd.nil _ _ _) (by decide +kernel)) ?_
  intro V260 hj260
  refine hK.out _ _ ?_ (fun hHeld => ?_)
  · (try dsimp only); (exact hHeld.kept hj260)
  clear hK K
  try simp only [Act.put, List.getElem_toArray, List.getElem_cons_succ, List.getElem_cons_zero, List.setIfInBounds_toArray, List.set_cons_zero, List.set_cons_succ]
  have hK260 := hide ((hKs8.out).trans hj260 (by simp))
  refine wpAnyH_take (i := 72) (v := ?_) rfl (by as_aux_lemma => kernel_rfl) (by as_aux_lemma => kernel_rfl) (by as_aux_lemma => kernel_rfl) (fun _ _ _ h => h) (Or.inl ⟨by rfl, ?_⟩) (by assumption) ?_
  rotate_left
  · (intro wq hSw; (try dsimp only at hSw); go_simp; try with_reducible rfl)
  try simp only [Act.put, List.getElem_toArray, List.getElem_cons_succ, List.getElem_cons_zero, List.setIfInBounds_toArray, List.set_cons_zero, List.set_cons_succ]
  refine wpAnyH_take (i := 73) (v := ?_) rfl (by as_aux_lemma => kernel_rfl) (by as_aux_lemma => kernel_rfl) (by as_aux_lemma => kernel_rfl) (fun _ _ _ h => h) (Or.inl ⟨by rfl, ?_⟩) (by assumption) ?_
  rotate_left
  · (intro wq hSw; (try dsimp only at hSw); go_simp; try with_reducible rfl)
  try simp only [Act.put, List.getElem_toArray, List.getElem_cons_succ, List.getElem_cons_zero, List.setIfInBounds_toArray, List.set_cons_zero, List.set_cons_succ]
  refine wpAnyH_done (by as_aux_lemma => kernel_rfl) ?_ _
  go_upto_region 12 with fail
  have hN22 := hide hHeld
  have hK22 := hide (hK260.out)
  clear hHeld
  generalize V260 = V22 at *
  have r1 := hN22.out.c1.range
  go_upto_region 13 with (refine wpList_load_cel rfl rfl b1 0 rfl r1 ?_)
  have hr8 : Rd (V22.alloc (.cells #[.int .i32 nA.r, .int .i32 nA.m0, .int .i32 nA.m1, .int .i32 nA.m2, .int .i64 nA.w, .int .i64 nA.p.f.k, .int .u8 nA.p.f.i, .int .u8 nA.p.f.r, .int .u8 nA.p.f.g, .int .u8 nA.p.f.b, .int .i64 nA.p.b.k, .int .u8 nA.p.b.i, .int .u8 nA.p.b.r, .int .u8 nA.p.b.g, .int .u8 nA.p.b.b, .int .u8 nA.p.fl] 60)) (some ⟨V22.heap.size, 0, none⟩) 1 16 (cellsV [nA]) := Rd.blockC (heap_new_at (w := V22) (by simp)) rfl
  have hk8 : Kept [] V22 (V22.alloc (.cells #[.int .i32 nA.r, .int .i32 nA.m0, .int .i32 nA.m1, .int .i32 nA.m2, .int .i64 nA.w, .int .i64 nA.p.f.k, .int .u8 nA.p.f.i, .int .u8 nA.p.f.r, .int .u8 nA.p.f.g, .int .u8 nA.p.f.b, .int .i64 nA.p.b.k, .int .u8 nA.p.b.i, .int .u8 nA.p.b.r, .int .u8 nA.p.b.g, .int .u8 nA.p.b.b, .int .u8 nA.p.fl] 60)) := (Kept.refl [] V22).alloc _
  refine (hard_any _ _ _ _).mono ?_
  rintro e V23 ⟨rfl, hj23⟩
  have hk23 := hk8.trans hj23 (by simp)
  have hr23 := hr8.kept hj23 (by simp)
  clear hk8 hj23 hr8 r1
  have hlt8 : V22.heap.size ≤ V23.heap.size := hk23.size
  generalize hg8 : V22.heap.size = g8 at *
  go_upto_region 13 with (refine wpList_store_lin rfl rfl rfl V23.heap.size rfl (LinIn.new V23 none 0 0 false) (some ⟨g8, 0, none⟩) 1 1 false rfl ?_; intro V24 h8 j24)
  have hk24 : Kept [] V23 V24 := ((Kept.refl [] V23).alloc _).trans j24 (by intro z hz; simp at hz; omega)
  have hk2224 := hk23.trans hk24 (by simp)
  obtain ⟨q0, q1⟩ := h8.at
  obtain ⟨f0, f1⟩ := h8.froz
  go_upto_region 14 with fail
  have h9 := h8.setSoft true
  have hk26 : Kept [] V22 (V24.setCell ⟨V23.heap.size, 1, none⟩ (.bool true)) := hk2224.setCell (.inr (by rw [hg8]; exact hlt8)) _
  have hk2326 : Kept [] V23 (V24.setCell ⟨V23.heap.size, 1, none⟩ (.bool true)) := hk24.setCell (.inr (Nat.le_refl _)) _
  have hN26 := hide (And.intro (hN22.out.kept hk26) (On6.mk h9 (hr23.kept hk2326 (by simp))))
  have hK26 := hide (hK22.out.trans hk26 (by simp))
  clear q0 q1 f0 f1 hk23 hk24 hk2224 hlt8 h8 h9 hk26 hk2326 j24 hr23 hN22 hK22 hg8
  generalize V24.setCell ⟨V23.heap.size, 1, none⟩ (.bool true) = V26 at *
  generalize V23.heap.size = b8 at *
  refine wp_region_held_drew (S := (fun w' => (Kn6 w' b1 b2 b3 b4 b5 b6 b7 g7 ∧ On6 w' b8 g8))) (by as_aux_lemma => kernel_rfl) ?_ (fun hHeld => ?_)
  · (try dsimp only); (exact ⟨hN26.out.1.kept (Kept.refl [] _).drew, hN26.out.2.kept (Kept.refl [] _).drew⟩)
  refine wpAnyH_take (i := 0) (v := kV nA) rfl (by as_aux_lemma => kernel_rfl) (by as_aux_lemma => kernel_rfl) (by as_aux_lemma => kernel_rfl) (fun _ _ _ h => h) (yieldsIf_load_mid (by rfl) 60 _ rfl b1 0 rfl (kcL nA) _ (fun _ h => h.1.c1.range) Tryd.underlying60 rfl (by as_aux_lemma => kernel_rfl)) (by assumption) ?_
  try simp only [Act.put, List.getElem_toArray, List.getElem_cons_succ, List.getElem_cons_zero, List.setIfInBounds_toArray, List.set_cons_zero, List.set_cons_succ]
  refine wpAnyH_take (i := 3) (v := .agg #[.slice (some ⟨g8, 0, none⟩) 1 1, .bool true]) rfl (by as_aux_lemma => kernel_rfl) (by as_aux_lemma => kernel_rfl) (by as_aux_lemma => kernel_rfl) (fun _ _ _ h => h) (yieldsIf_load_mid (by rfl) 27 _ rfl b8 0 rfl (linL (some ⟨g8, 0, none⟩) 1 1 true) _ (fun _ h => h.2.l8.range) Tryd.underlying27 rfl (by as_aux_lemma => kernel_rfl)) (by assumption) ?_
  try simp only [Act.put, List.getElem_toArray, List.getElem_cons_succ, List.getElem_cons_zero, List.setIfInBounds_toArray, List.set_cons_zero, List.set_cons_succ]
  refine wpAnyH_ready (rs := [1]) (by as_aux_lemma => kernel_rfl) (by simp) ?_
  refine AllReadyH.cons rfl (fun K hK => ?_) AllReadyH.nil
  rw [if_pos (by rfl)]
  refine wp_bsC 1 _ rfl [nA] rfl (by decide) (by decide) (by as_aux_lemma => kernel_rfl) ?_
  intro g261 V261 rr261 jj261
  refine hK.out _ _ ?_ (fun hHeld => ?_)
  · (try dsimp only); (exact ⟨hHeld.1.kept jj261, hHeld.2.kept jj261⟩)
  clear hK K
  try simp only [Act.put, List.getElem_toArray, List.getElem_cons_succ, List.getElem_cons_zero, List.setIfInBounds_toArray, List.set_cons_zero, List.set_cons_succ]
  have s1_261 := hide rr261
  have hK261 := hide ((hK26.out.drew).trans jj261 (by simp))
  refine wpAnyH_ready (rs := [2]) (by as_aux_lemma => kernel_rfl) (by simp) ?_
  refine AllReadyH.cons rfl (fun K hK => ?_) AllReadyH.nil
  rw [if_pos (by rfl)]
  refine wp_fnK _ _ _ rfl (enters_of Tryd.func37 (by as_aux_lemma => kernel_rfl) rfl) _ rfl _ (hard_any _ _ _ _) ?_
  intro V262 hj262
  refine hK.out _ _ ?_ (fun hHeld => ?_)
  · (try dsimp only); (exact ⟨hHeld.1.kept hj262, hHeld.2.kept hj262⟩)
  clear hK K
  try simp only [Act.put, List.getElem_toArray, List.getElem_cons_succ, List.getElem_cons_zero, List.setIfInBounds_toArray, List.set_cons_zero, List.set_cons_succ]
  have hK262 := hide ((hK261.out).trans hj262 (by simp))
  have s1_262 := hide (Rd.kept (s1_261.out) hj262 (by simp))
  refine wpAnyH_ready (rs := [4]) (by as_aux_lemma => kernel_rfl) (by simp) ?_
  refine AllReadyH.cons rfl (fun K hK => ?_) AllReadyH.nil
  rw [if_pos (by rfl)]
  refine wp_fnK _ _ _ rfl (enters_of Tryd.func24 (by as_aux_lemma => kernel_rfl) rfl) _ rfl _ (equal6_ask [nA] false [nA] true false (by decide +kernel) _ 1 1 _ 1 1 _ (s1_262.out) (hHeld.2.r8) (by decide) (by decide)) ?_
  intro V263 hj263
  refine hK.out _ _ ?_ (fun hHeld => ?_)
  · (try dsimp only); (exact ⟨hHeld.1.kept hj263, hHeld.2.kept hj263⟩)
  clear hK K
  try simp only [Act.put, List.getElem_toArray, List.getElem_cons_succ, List.getElem_cons_zero, List.setIfInBounds_toArray, List.set_cons_zero, List.set_cons_succ]
  have hK263 := hide ((hK262.out).trans hj263 (by simp))
  refine wpAnyH_take (i := 5) (v := ?_) rfl (by as_aux_lemma => kernel_rfl) (by as_aux_lemma => kernel_rfl) (by as_aux_lemma => kernel_rfl) (fun _ _ _ h => h) (Or.inl ⟨by rfl, ?_⟩) (by assumption) ?_
  rotate_left
  · (intro wq hSw; (try dsimp only at hSw); go_simp; try with_reducible rfl)
  try simp only [Act.put, List.getElem_toArray, List.getElem_cons_succ, List.getElem_cons_zero, List.setIfInBounds_toArray, List.set_cons_zero, List.set_cons_succ]
  refine wpAnyH_take (i := 6) (v := ?_) rfl (by as_aux_lemma => kernel_rfl) (by as_aux_lemma => kernel_rfl) (by as_aux_lemma => kernel_rfl) (fun _ _ _ h => h) (Or.inl ⟨by rfl, ?_⟩) (by assumption) ?_
  rotate_left
  · (intro wq hSw; (try dsimp only at hSw); go_simp; try with_reducible rfl)
  try simp only [Act.put, List.getElem_toArray, List.getElem_cons_succ, List.getElem_cons_zero, List.setIfInBounds_toArray, List.set_cons_zero, List.set_cons_succ]
  refine wpAnyH_take (i := 7) (v := kV nA) rfl (by as_aux_lemma => kernel_rfl) (by as_aux_lemma => kernel_rfl) (by as_aux_lemma => kernel_rfl) (fun _ _ _ h => h) (yieldsIf_load_mid (by rfl) 60 _ rfl b1 0 rfl (kcL nA) _ (fun _ h => h.1.c1.range) Tryd.underlying60 rfl (by as_aux_lemma => kernel_rfl)) (by assumption) ?_
  try simp only [Act.put, List.getElem_toArray, List.getElem_cons_succ, List.getElem_cons_zero, List.setIfInBounds_toArray, List.set_cons_zero, List.set_cons_succ]
  refine wpAnyH_take (i := 10) (v := kV nA) rfl (by as_aux_lemma => kernel_rfl) (by as_aux_lemma => kernel_rfl) (by as_aux_lemma => kernel_rfl) (fun _ _ _ h => h) (yieldsIf_load_mid (by rfl) 60 _ rfl b1 0 rfl (kcL nA) _ (fun _ h => h.1.c1.range) Tryd.underlying60 rfl (by as_aux_lemma => kernel_rfl)) (by assumption) ?_
  try simp only [Act.put, List.getElem_toArray, List.getElem_cons_succ, List.getElem_cons_zero, List.setIfInBounds_toArray, List.set_cons_zero, List.set_cons_succ]
  refine wpAnyH_take (i := 11) (v := kV eC) rfl (by as_aux_lemma => kernel_rfl) (by as_aux_lemma => kernel_rfl) (by as_aux_lemma => kernel_rfl) (fun _ _ _ h => h) (yieldsIf_load_mid (by rfl) 60 _ rfl b4 0 rfl (kcL eC) _ (fun _ h => h.1.c4.range) Tryd.underlying60 rfl (by as_aux_lemma => kernel_rfl)) (by assumption) ?_
  try simp only [Act.put, List.getElem_toArray, List.getElem_cons_succ, List.getElem_cons_zero, List.setIfInBounds_toArray, List.set_cons_zero, List.set_cons_succ]
  refine' shareN2 (F := (fun v0 v1 W => (Kn6 W b1 b2 b3 b4 b5 b6 b7 g7 ∧ On6 W b8 g8) ∧ Kept [] w W ∧ Rd W (some ⟨v0, 0, none⟩) 1 16 (cellsV [nA]) ∧ Rd W (some ⟨v1, 0, none⟩) 2 16 (cellsV [nA, eC]))) (fun H => ?kk9) ?hh9
  case kk9 =>
    refine wpAnyH_ready (rs := [8, 12]) (by as_aux_lemma => kernel_rfl) (by simp) ?_
    refine AllReadyH.cons rfl (fun K hK => ?_) (AllReadyH.cons rfl (fun K hK => ?_) AllReadyH.nil)
    · rw [if_pos (by rfl)]
      refine wp_bsC 1 _ rfl [nA] rfl (by decide) (by decide) (by as_aux_lemma => kernel_rfl) ?_
      intro g264 V264 rr264 jj264
      refine hK.out _ _ ?_ (fun hHeld => ?_)
      · (try dsimp only); (exact ⟨hHeld.1.kept jj264, hHeld.2.kept jj264⟩)
      clear hK K
      try simp only [Act.put, List.getElem_toArray, List.getElem_cons_succ, List.getElem_cons_zero, List.setIfInBounds_toArray, List.set_cons_zero, List.set_cons_succ]
      have s8_264 := hide rr264
      have hK264 := hide ((hK263.out).trans jj264 (by simp))
      refine wpAnyH_ready (rs := [9, 12]) (by as_aux_lemma => kernel_rfl) (by simp) ?_
      refine AllReadyH.cons rfl (fun K hK => ?_) (AllReadyH.cons rfl (fun K hK => ?_) AllReadyH.nil)
      · rw [if_pos (by rfl)]
        refine wp_fnK _ _ _ rfl (enters_of Tryd.func37 (by as_aux_lemma => kernel_rfl) rfl) _ rfl _ (hard_any _ _ _ _) ?_
        intro V265 hj265
        refine hK.out _ _ ?_ (fun hHeld => ?_)
        · (try dsimp only); (exact ⟨hHeld.1.kept hj265, hHeld.2.kept hj265⟩)
        clear hK K
        try simp only [Act.put, List.getElem_toArray, List.getElem_cons_succ, List.getElem_cons_zero, List.setIfInBounds_toArray, List.set_cons_zero, List.set_cons_succ]
        have hK265 := hide ((hK264.out).trans hj265 (by simp))
        have s8_265 := hide (Rd.kept (s8_264.out) hj265 (by simp))
        refine wpAnyH_ready (rs := [12]) (by as_aux_lemma => kernel_rfl) (by simp) ?_
        refine AllReadyH.cons rfl (fun K hK => ?_) AllReadyH.nil
        rw [if_pos (by rfl)]
        refine wp_bsC 2 _ rfl [nA, eC] rfl (by decide) (by decide) (by as_aux_lemma => kernel_rfl) ?_
        intro g266 V266 rr266 jj266
        refine hK.out _ _ ?_ (fun hHeld => ?_)
        · (try dsimp only); (exact ⟨hHeld.1.kept jj266, hHeld.2.kept jj266⟩)
        clear hK K
        try simp only [Act.put, List.getElem_toArray, List.getElem_cons_succ, List.getElem_cons_zero, List.setIfInBounds_toArray, List.set_cons_zero, List.set_cons_succ]
        have s12_266 := hide rr266
        have hK266 := hide ((hK265.out).trans jj266 (by simp))
        have s8_266 := hide (Rd.kept (s8_265.out) jj266 (by simp))
        have F1 := hHeld
        have F2 := (hK266.out)
        have F3 := (s8_266.out)
        have F4 := (s12_266.out)
        exact H g264 g266 _ ⟨F1, F2, F3, F4⟩
      · rw [if_pos (by rfl)]
        refine wp_bsC 2 _ rfl [nA, eC] rfl (by decide) (by decide) (by as_aux_lemma => kernel_rfl) ?_
        intro g267 V267 rr267 jj267
        refine hK.out _ _ ?_ (fun hHeld => ?_)
        · (try dsimp only); (exact ⟨hHeld.1.kept jj267, hHeld.2.kept jj267⟩)
        clear hK K
        try simp only [Act.put, List.getElem_toArray, List.getElem_cons_succ, List.getElem_cons_zero, List.setIfInBounds_toArray, List.set_cons_zero, List.set_cons_succ]
        have s12_267 := hide rr267
        have hK267 := hide ((hK264.out).trans jj267 (by simp))
        have s8_267 := hide (Rd.kept (s8_264.out) jj267 (by simp))
        refine wpAnyH_ready (rs := [9]) (by as_aux_lemma => kernel_rfl) (by simp) ?_
        refine AllReadyH.cons rfl (fun K hK => ?_) AllReadyH.nil
        rw [if_pos (by rfl)]
        refine wp_fnK _ _ _ rfl (enters_of Tryd.func37 (by as_aux_lemma => kernel_rfl) rfl) _ rfl _ (hard_any _ _ _ _) ?_
        intro V268 hj268
        refine hK.out _ _ ?_ (fun hHeld => ?_)
        · (try dsimp only); (exact ⟨hHeld.1.kept hj268, hHeld.2.kept hj268⟩)
        clear hK K
        try simp only [Act.put, List.getElem_toArray, List.getElem_cons_succ, List.getElem_cons_zero, List.setIfInBounds_toArray, List.set_cons_zero, List.set_cons_succ]
        have hK268 := hide ((hK267.out).trans hj268 (by simp))
        have s8_268 := hide (Rd.kept (s8_267.out) hj268 (by simp))
        have s12_268 := hide (Rd.kept (s12_267.out) hj268 (by simp))
        have F1 := hHeld
        have F2 := (hK268.out)
        have F3 := (s8_268.out)
        have F4 := (s12_268.out)
        exact H g264 g267 _ ⟨F1, F2, F3, F4⟩
    · rw [if_pos (by rfl)]
      refine wp_bsC 2 _ rfl [nA, eC] rfl (by decide) (by decide) (by as_aux_lemma => kernel_rfl) ?_
      intro g269 V269 rr269 jj269
      refine hK.out _ _ ?_ (fun hHeld => ?_)
      · (try dsimp only); (exact ⟨hHeld.1.kept jj269, hHeld.2.kept jj269⟩)
      clear hK K
      try simp only [Act.put, List.getElem_toArray, List.getElem_cons_succ, List.getElem_cons_zero, List.setIfInBounds_toArray, List.set_cons_zero, List.set_cons_succ]
      have s12_269 := hide rr269
      have hK269 := hide ((hK263.out).trans jj269 (by simp))
      refine wpAnyH_ready (rs := [8]) (by as_aux_lemma => kernel_rfl) (by simp) ?_
      refine AllReadyH.cons rfl (fun K hK => ?_) AllReadyH.nil
      rw [if_pos (by rfl)]
      refine wp_bsC 1 _ rfl [nA] rfl (by decide) (by decide) (by as_aux_lemma => kernel_rfl) ?_
      intro g270 V270 rr270 jj270
      refine hK.out _ _ ?_ (fun hHeld => ?_)
      · (try dsimp only); (exact ⟨hHeld.1.kept jj270, hHeld.2.kept jj270⟩)
      clear hK K
      try simp only [Act.put, List.getElem_toArray, List.getElem_cons_succ, List.getElem_cons_zero, List.setIfInBounds_toArray, List.set_cons_zero, List.set_cons_succ]
      have s8_270 := hide rr270
      have hK270 := hide ((hK269.out).trans jj270 (by simp))
      have s12_270 := hide (Rd.kept (s12_269.out) jj270 (by simp))
      refine wpAnyH_ready (rs := [9]) (by as_aux_lemma => kernel_rfl) (by simp) ?_
      refine AllReadyH.cons rfl (fun K hK => ?_) AllReadyH.nil
      rw [if_pos (by rfl)]
      refine wp_fnK _ _ _ rfl (enters_of Tryd.func37 (by as_aux_lemma => kernel_rfl) rfl) _ rfl _ (hard_any _ _ _ _) ?_
      intro V271 hj271
      refine hK.out _ _ ?_ (fun hHeld => ?_)
      · (try dsimp only); (exact ⟨hHeld.1.kept hj271, hHeld.2.kept hj271⟩)
      clear hK K
      try simp only [Act.put, List.getElem_toArray, List.getElem_cons_succ, List.getElem_cons_zero, List.setIfInBounds_toArray, List.set_cons_zero, List.set_cons_succ]
      have hK271 := hide ((hK270.out).trans hj271 (by simp))
      have s12_271 := hide (Rd.kept (s12_270.out) hj271 (by simp))
      have s8_271 := hide (Rd.kept (s8_270.out) hj271 (by simp))
      have F1 := hHeld
      have F2 := (hK271.out)
      have F3 := (s8_271.out)
      have F4 := (s12_271.out)
      exact H g270 g269 _ ⟨F1, F2, F3, F4⟩
  case' hh9 => intro gs9_8 gs9_12 Vs9 hF
  have hHeld := hF.1
  have hKs9 := hide hF.2.1
  have qs9_8 := hide (hF.2.2.1)
  have qs9_12 := hide (hF.2.2.2)
  clear hF
  refine wpAnyH_ready (rs := [13]) (by as_aux_lemma => kernel_rfl) (by simp) ?_
  refine AllReadyH.cons rfl (fun K hK => ?_) AllReadyH.nil
  rw [if_pos (by rfl)]
  refine wp_fnK _ _ _ rfl (enters_of Tryd.func37 (by as_aux_lemma => kernel_rfl) rfl) _ rfl _ (hard_any _ _ _ _) ?_
  intro V272 hj272
  refine hK.out _ _ ?_ (fun hHeld => ?_)
  · (try dsimp only); (exact ⟨hHeld.1.kept hj272, hHeld.2.kept hj272⟩)
  clear hK K
  try simp only [Act.put, List.getElem_toArray, List.getElem_cons_succ, List.getElem_cons_zero, List.setIfInBounds_toArray, List.set_cons_zero, List.set_cons_succ]
  have hK272 := hide ((hKs9.out).trans hj272 (by simp))
  have s8_272 := hide (Rd.kept (qs9_8.out) hj272 (by simp))
  have s12_272 := hide (Rd.kept (qs9_12.out) hj272 (by simp))
  refine wpAnyH_ready (rs := [14]) (by as_aux_lemma => kernel_rfl) (by simp) ?_
  refine AllReadyH.cons rfl (fun K hK => ?_) AllReadyH.nil
  rw [if_pos (by rfl)]
  refine wp_fnK _ _ _ rfl (enters_of Tryd.func24 (by as_aux_lemma => kernel_rfl) rfl) _ rfl _ (equal6_ask [nA] false [nA, eC] false false (by decide +kernel) _ 1 1 _ 2 2 _ (s8_272.out) (s12_272.out) (by decide) (by decide)) ?_
  intro V273 hj273
  refine hK.out _ _ ?_ (fun hHeld => ?_)
  · (try dsimp only); (exact ⟨hHeld.1.kept hj273, hHeld.2.kept hj273⟩)
  clear hK K
  try simp only [Act.put, List.getElem_toArray, List.getElem_cons_succ, List.getElem_cons_zero, List.setIfInBounds_toArray, List.set_cons_zero, List.set_cons_succ]
  have hK273 := hide ((hK272.out).trans hj273 (by simp))
  refine wpAnyH_take (i := 15) (v := ?_) rfl (by as_aux_lemma => kernel_rfl) (by as_aux_lemma => kernel_rfl) (by as_aux_lemma => kernel_rfl) (fun _ _ _ h => h) (Or.inl ⟨by rfl, ?_⟩) (by assumption) ?_
  rotate_left
  · (intro wq hSw; (try dsimp only at hSw); go_simp; try with_reducible rfl)
  try simp only [Act.put, List.getElem_toArray, List.getElem_cons_succ, List.getElem_cons_zero, List.setIfInBounds_toArray, List.set_cons_zero, List.set_cons_succ]
  refine wpAnyH_take (i := 16) (v := ?_) rfl (by as_aux_lemma => kernel_rfl) (by as_aux_lemma => kernel_rfl) (by as_aux_lemma => kernel_rfl) (fun _ _ _ h => h) (Or.inl ⟨by rfl, ?_⟩) (by assumption) ?_
  rotate_left
  · (intro wq hSw; (try dsimp only at hSw); go_simp; try with_reducible rfl)
  try simp only [Act.put, List.getElem_toArray, List.getElem_cons_succ, List.getElem_cons_zero, List.setIfInBounds_toArray, List.set_cons_zero, List.set_cons_succ]
  refine wpAnyH_take (i := 17) (v := ?_) rfl (by as_aux_lemma => kernel_rfl) (by as_aux_lemma => kernel_rfl) (by as_aux_lemma => kernel_rfl) (fun _ _ _ h => h) (Or.inl ⟨by rfl, ?_⟩) (by assumption) ?_
  rotate_left
  · (intro wq hSw; (try dsimp only at hSw); go_simp; try with_reducible rfl)
  try simp only [Act.put, List.getElem_toArray, List.getElem_cons_succ, List.getElem_cons_zero, List.setIfInBounds_toArray, List.set_cons_zero, List.set_cons_succ]
  refine wpAnyH_take (i := 18) (v := kV nA) rfl (by as_aux_lemma => kernel_rfl) (by as_aux_lemma => kernel_rfl) (by as_aux_lemma => kernel_rfl) (fun _ _ _ h => h) (yieldsIf_load_mid (by rfl) 60 _ rfl b1 0 rfl (kcL nA) _ (fun _ h => h.1.c1.range) Tryd.underlying60 rfl (by as_aux_lemma => kernel_rfl)) (by assumption) ?_
  try simp only [Act.put, List.getElem_toArray, List.getElem_cons_succ, List.getElem_cons_zero, List.setIfInBounds_toArray, List.set_cons_zero, List.set_cons_succ]
  refine wpAnyH_take (i := 19) (v := kV nW) rfl (by as_aux_lemma => kernel_rfl) (by as_aux_lemma => kernel_rfl) (by as_aux_lemma => kernel_rfl) (fun _ _ _ h => h) (yieldsIf_load_mid (by rfl) 60 _ rfl b2 0 rfl (kcL nW) _ (fun _ h => h.1.c2.range) Tryd.underlying60 rfl (by as_aux_lemma => kernel_rfl)) (by assumption) ?_
  try simp only [Act.put, List.getElem_toArray, List.getElem_cons_succ, List.getElem_cons_zero, List.setIfInBounds_toArray, List.set_cons_zero, List.set_cons_succ]
  refine wpAnyH_take (i := 20) (v := kV zeroK) rfl (by as_aux_lemma => kernel_rfl) (by as_aux_lemma => kernel_rfl) (by as_aux_lemma => kernel_rfl) (fun _ _ _ h => h) (yieldsIf_load_mid (by rfl) 60 _ rfl b3 0 rfl (kcL zeroK) _ (fun _ h => h.1.c3.range) Tryd.underlying60 rfl (by as_aux_lemma => kernel_rfl)) (by assumption) ?_
  try simp only [Act.put, List.getElem_toArray, List.getElem_cons_succ, List.getElem_cons_zero, List.setIfInBounds_toArray, List.set_cons_zero, List.set_cons_succ]
  refine wpAnyH_take (i := 24) (v := kV nA) rfl (by as_aux_lemma => kernel_rfl) (by as_aux_lemma => kernel_rfl) (by as_aux_lemma => kernel_rfl) (fun _ _ _ h => h) (yieldsIf_load_mid (by rfl) 60 _ rfl b1 0 rfl (kcL nA) _ (fun _ h => h.1.c1.range) Tryd.underlying60 rfl (by as_aux_lemma => kernel_rfl)) (by assumption) ?_
  try simp only [Act.put, List.getElem_toArray, List.getElem_cons_succ, List.getElem_cons_zero, List.setIfInBounds_toArray, List.set_cons_zero, List.set_cons_succ]
  refine wpAnyH_take (i := 25) (v := kV nW) rfl (by as_aux_lemma => kernel_rfl) (by as_aux_lemma => kernel_rfl) (by as_aux_lemma => kernel_rfl) (fun _ _ _ h => h) (yieldsIf_load_mid (by rfl) 60 _ rfl b2 0 rfl (kcL nW) _ (fun _ h => h.1.c2.range) Tryd.underlying60 rfl (by as_aux_lemma => kernel_rfl)) (by assumption) ?_
  try simp only [Act.put, List.getElem_toArray, List.getElem_cons_succ, List.getElem_cons_zero, List.setIfInBounds_toArray, List.set_cons_zero, List.set_cons_succ]
  refine wpAnyH_take (i := 26) (v := kV zeroK) rfl (by as_aux_lemma => kernel_rfl) (by as_aux_lemma => kernel_rfl) (by as_aux_lemma => kernel_rfl) (fun _ _ _ h => h) (yieldsIf_load_mid (by rfl) 60 _ rfl b3 0 rfl (kcL zeroK) _ (fun _ h => h.1.c3.range) Tryd.underlying60 rfl (by as_aux_lemma => kernel_rfl)) (by assumption) ?_
  try simp only [Act.put, List.getElem_toArray, List.getElem_cons_succ, List.getElem_cons_zero, List.setIfInBounds_toArray, List.set_cons_zero, List.set_cons_succ]
  refine wpAnyH_ready (rs := [21, 27]) (by as_aux_lemma => kernel_rfl) (by simp) ?_
  refine AllReadyH.cons rfl (fun K hK => ?_) (AllReadyH.cons rfl (fun K hK => ?_) AllReadyH.nil)
  · rw [if_pos (by rfl)]
    refine wp_bsC 3 _ rfl [nA, nW, zeroK] rfl (by decide) (by decide) (by as_aux_lemma => kernel_rfl) ?_
    intro g274 V274 rr274 jj274
    refine hK.out _ _ ?_ (fun hHeld => ?_)
    · (try dsimp only); (exact ⟨hHeld.1.kept jj274, hHeld.2.kept jj274⟩)
    clear hK K
    try simp only [Act.put, List.getElem_toArray, List.getElem_cons_succ, List.getElem_cons_zero, List.setIfInBounds_toArray, List.set_cons_zero, List.set_cons_succ]
    have s21_274 := hide rr274
    have hK274 := hide ((hK273.out).trans jj274 (by simp))
    refine wpAnyH_ready (rs := [22, 27]) (by as_aux_lemma => kernel_rfl) (by simp) ?_
    refine AllReadyH.cons rfl (fun K hK => ?_) (AllReadyH.cons rfl (fun K hK => ?_) AllReadyH.nil)
    · rw [if_pos (by rfl)]
      refine wp_fnK _ _ _ rfl (enters_of Tryd.func37 (by as_aux_lemma => kernel_rfl) rfl) _ rfl _ (hard_any _ _ _ _) ?_
      intro V275 hj275
      refine hK.out _ _ ?_ (fun hHeld => ?_)
      · (try dsimp only); (exact ⟨hHeld.1.kept hj275, hHeld.2.kept hj275⟩)
      clear hK K
      try simp only [Act.put, List.getElem_toArray, List.getElem_cons_succ, List.getElem_cons_zero, List.setIfInBounds_toArray, List.set_cons_zero, List.set_cons_succ]
      have hK275 := hide ((hK274.out).trans hj275 (by simp))
      have s21_275 := hide (Rd.kept (s21_274.out) hj275 (by simp))
      refine wpAnyH_ready (rs := [23, 27]) (by as_aux_lemma => kernel_rfl) (by simp) ?_
      refine AllReadyH.cons rfl (fun K hK => ?_) (AllReadyH.cons rfl (fun K hK => ?_) AllReadyH.nil)
      · rw [if_pos (by rfl)]
        refine wp_fnL _ _ _ rfl (enters_of Tryd.func27 (by as_aux_lemma => kernel_rfl) rfl) _ rfl (Copy6_any _ 3 3 [nA, nW, zeroK] false _ (s21_275.out) (by decide)) ?_
        intro V276 a276 n276 c276 ho276 hj276
        obtain rfl : 3 = n276 := by have h1 := ho276.rd.clen; exact h1
        refine hK.out _ _ ?_ (fun hHeld => ?_)
        · (try dsimp only); (exact ⟨hHeld.1.kept hj276, hHeld.2.kept hj276⟩)
        clear hK K
        try simp only [Act.put, List.getElem_toArray, List.getElem_cons_succ, List.getElem_cons_zero, List.setIfInBounds_toArray, List.set_cons_zero, List.set_cons_succ]
        have hK276 := hide ((hK275.out).trans hj276 (by simp))
        have c23_276 := hide ho276.rd
        refine wpAnyH_ready (rs := [27]) (by as_aux_lemma => kernel_rfl) (by simp) ?_
        refine AllReadyH.cons rfl (fun K hK => ?_) AllReadyH.nil
        rw [if_pos (by rfl)]
        refine wp_bsC 3 _ rfl [nA, nW, zeroK] rfl (by decide) (by decide) (by as_aux_lemma => kernel_rfl) ?_
        intro g277 V277 rr277 jj277
        refine hK.out _ _ ?_ (fun hHeld => ?_)
        · (try dsimp only); (exact ⟨hHeld.1.kept jj277, hHeld.2.kept jj277⟩)
        clear hK K
        try simp only [Act.put, List.getElem_toArray, List.getElem_cons_succ, List.getElem_cons_zero, List.setIfInBounds_toArray, List.set_cons_zero, List.set_cons_succ]
        have s27_277 := hide rr277
        have hK277 := hide ((hK276.out).trans jj277 (by simp))
        have c23_277 := hide (Rd.kept (c23_276.out) jj277 (by simp))
        refine wpAnyH_ready (rs := [28]) (by as_aux_lemma => kernel_rfl) (by simp) ?_
        refine AllReadyH.cons rfl (fun K hK => ?_) AllReadyH.nil
        rw [if_pos (by rfl)]
        refine wp_fnK _ _ _ rfl (enters_of Tryd.func37 (by as_aux_lemma => kernel_rfl) rfl) _ rfl _ (hard_any _ _ _ _) ?_
        intro V278 hj278
        refine hK.out _ _ ?_ (fun hHeld => ?_)
        · (try dsimp only); (exact ⟨hHeld.1.kept hj278, hHeld.2.kept hj278⟩)
        clear hK K
        try simp only [Act.put, List.getElem_toArray, List.getElem_cons_succ, List.getElem_cons_zero, List.setIfInBounds_toArray, List.set_cons_zero, List.set_cons_succ]
        have hK278 := hide ((hK277.out).trans hj278 (by simp))
        have c23_278 := hide (Rd.kept (c23_277.out) hj278 (by simp))
        have s27_278 := hide (Rd.kept (s27_277.out) hj278 (by simp))
        refine wpAnyH_ready (rs := [29]) (by as_aux_lemma => kernel_rfl) (by simp) ?_
        refine AllReadyH.cons rfl (fun K hK => ?_) AllReadyH.nil
        rw [if_pos (by rfl)]
        refine wp_fnK _ _ _ rfl (enters_of Tryd.func25 (by as_aux_lemma => kernel_rfl) rfl) _ rfl _ (rsame6_ask [nA, nW, zeroK] false [nA, nW, zeroK] false true (by decide +kernel) _ 3 _ _ 3 _ _ (c23_278.out) (s27_278.out) (by decide)) ?_
        intro V279 hj279
        refine hK.out _ _ ?_ (fun hHeld => ?_)
        · (try dsimp only); (exact ⟨hHeld.1.kept hj279, hHeld.2.kept hj279⟩)
        clear hK K
        try simp only [Act.put, List.getElem_toArray, List.getElem_cons_succ, List.getElem_cons_zero, List.setIfInBounds_toArray, List.set_cons_zero, List.set_cons_succ]
        have hK279 := hide ((hK278.out).trans hj279 (by simp))
        have c23_279 := hide (Rd.kept (c23_278.out) hj279 (by simp))
        refine wpAnyH_take (i := 30) (v := ?_) rfl (by as_aux_lemma => kernel_rfl) (by as_aux_lemma => kernel_rfl) (by as_aux_lemma => kernel_rfl) (fun _ _ _ h => h) (Or.inl ⟨by rfl, ?_⟩) (by assumption) ?_
        rotate_left
        · (intro wq hSw; (try dsimp only at hSw); go_simp; try with_reducible rfl)
        try simp only [Act.put, List.getElem_toArray, List.getElem_cons_succ, List.getElem_cons_zero, List.setIfInBounds_toArray, List.set_cons_zero, List.set_cons_succ]
        refine wpAnyH_take (i := 31) (v := ?_) rfl (by as_aux_lemma => kernel_rfl) (by as_aux_lemma => kernel_rfl) (by as_aux_lemma => kernel_rfl) (fun _ _ _ h => h) (Or.inl ⟨by rfl, ?_⟩) (by assumption) ?_
        rotate_left
        · (intro wq hSw; (try dsimp only at hSw); go_simp; try with_reducible rfl)
        try simp only [Act.put, List.getElem_toArray, List.getElem_cons_succ, List.getElem_cons_zero, List.setIfInBounds_toArray, List.set_cons_zero, List.set_cons_succ]
        refine wpAnyH_done (by as_aux_lemma => kernel_rfl) ?_ _
        go_wp2_with fail
        go_ret
        exact ⟨rfl, hK279.out⟩
      · rw [if_pos (by rfl)]
        refine wp_bsC 3 _ rfl [nA, nW, zeroK] rfl (by decide) (by decide) (by as_aux_lemma => kernel_rfl) ?_
        intro g280 V280 rr280 jj280
        refine hK.out _ _ ?_ (fun hHeld => ?_)
        · (try dsimp only); (exact ⟨hHeld.1.kept jj280, hHeld.2.kept jj280⟩)
        clear hK K
        try simp only [Act.put, List.getElem_toArray, List.getElem_cons_succ, List.getElem_cons_zero, List.setIfInBounds_toArray, List.set_cons_zero, List.set_cons_succ]
        have s27_280 := hide rr280
        have hK280 := hide ((hK275.out).trans jj280 (by simp))
        have s21_280 := hide (Rd.kept (s21_275.out) jj280 (by simp))
        refine wpAnyH_ready (rs := [23]) (by as_aux_lemma => kernel_rfl) (by simp) ?_
        refine AllReadyH.cons rfl (fun K hK => ?_) AllReadyH.nil
        rw [if_pos (by rfl)]
        refine wp_fnL _ _ _ rfl (enters_of Tryd.func27 (by as_aux_lemma => kernel_rfl) rfl) _ rfl (Copy6_any _ 3 3 [nA, nW, zeroK] false _ (s21_280.out) (by decide)) ?_
        intro V281 a281 n281 c281 ho281 hj281
        obtain rfl : 3 = n281 := by have h1 := ho281.rd.clen; exact h1
        refine hK.out _ _ ?_ (fun hHeld => ?_)
        · (try dsimp only); (exact ⟨hHeld.1.kept hj281, hHeld.2.kept hj281⟩)
        clear hK K
        try simp only [Act.put, List.getElem_toArray, List.getElem_cons_succ, List.getElem_cons_zero, List.setIfInBounds_toArray, List.set_cons_zero, List.set_cons_succ]
        have hK281 := hide ((hK280.out).trans hj281 (by simp))
        have s27_281 := hide (Rd.kept (s27_280.out) hj281 (by simp))
        have c23_281 := hide ho281.rd
        refine wpAnyH_ready (rs := [28]) (by as_aux_lemma => kernel_rfl) (by simp) ?_
        refine AllReadyH.cons rfl (fun K hK => ?_) AllReadyH.nil
        rw [if_pos (by rfl)]
        refine wp_fnK _ _ _ rfl (enters_of Tryd.func37 (by as_aux_lemma => kernel_rfl) rfl) _ rfl _ (hard_any _ _ _ _) ?_
        intro V282 hj282
        refine hK.out _ _ ?_ (fun hHeld => ?_)
        · (try dsimp only); (exact ⟨hHeld.1.kept hj282, hHeld.2.kept hj282⟩)
        clear hK K
        try simp only [Act.put, List.getElem_toArray, List.getElem_cons_succ, List.getElem_cons_zero, List.setIfInBounds_toArray, List.set_cons_zero, List.set_cons_succ]
        have hK282 := hide ((hK281.out).trans hj282 (by simp))
        have s27_282 := hide (Rd.kept (s27_281.out) hj282 (by simp))
        have c23_282 := hide (Rd.kept (c23_281.out) hj282 (by simp))
        refine wpAnyH_ready (rs := [29]) (by as_aux_lemma => kernel_rfl) (by simp) ?_
        refine AllReadyH.cons rfl (fun K hK => ?_) AllReadyH.nil
        rw [if_pos (by rfl)]
        refine wp_fnK _ _ _ rfl (enters_of Tryd.func25 (by as_aux_lemma => kernel_rfl) rfl) _ rfl _ (rsame6_ask [nA, nW, zeroK] false [nA, nW, zeroK] false true (by decide +kernel) _ 3 _ _ 3 _ _ (c23_282.out) (s27_282.out) (by decide)) ?_
        intro V283 hj283
        refine hK.out _ _ ?_ (fun hHeld => ?_)
        · (try dsimp only); (exact ⟨hHeld.1.kept hj283, hHeld.2.kept hj283⟩)
        clear hK K
        try simp only [Act.put, List.getElem_toArray, List.getElem_cons_succ, List.getElem_cons_zero, List.setIfInBounds_toArray, List.set_cons_zero, List.set_cons_succ]
        have hK283 := hide ((hK282.out).trans hj283 (by simp))
        have c23_283 := hide (Rd.kept (c23_282.out) hj283 (by simp))
        refine wpAnyH_take (i := 30) (v := ?_) rfl (by as_aux_lemma => kernel_rfl) (by as_aux_lemma => kernel_rfl) (by as_aux_lemma => kernel_rfl) (fun _ _ _ h => h) (Or.inl ⟨by rfl, ?_⟩) (by assumption) ?_
        rotate_left
        · (intro wq hSw; (try dsimp only at hSw); go_simp; try with_reducible rfl)
        try simp only [Act.put, List.getElem_toArray, List.getElem_cons_succ, List.getElem_cons_zero, List.setIfInBounds_toArray, List.set_cons_zero, List.set_cons_succ]
        refine wpAnyH_take (i := 31) (v := ?_) rfl (by as_aux_lemma => kernel_rfl) (by as_aux_lemma => kernel_rfl) (by as_aux_lemma => kernel_rfl) (fun _ _ _ h => h) (Or.inl ⟨by rfl, ?_⟩) (by assumption) ?_
        rotate_left
        · (intro wq hSw; (try dsimp only at hSw); go_simp; try with_reducible rfl)
        try simp only [Act.put, List.getElem_toArray, List.getElem_cons_succ, List.getElem_cons_zero, List.setIfInBounds_toArray, List.set_cons_zero, List.set_cons_succ]
        refine wpAnyH_done (by as_aux_lemma => kernel_rfl) ?_ _
        go_wp2_with fail
        go_ret
        exact ⟨rfl, hK283.out⟩
    · rw [if_pos (by rfl)]
      refine wp_bsC 3 _ rfl [nA, nW, zeroK] rfl (by decide) (by decide) (by as_aux_lemma => kernel_rfl) ?_
      intro g284 V284 rr284 jj284
      refine hK.out _ _ ?_ (fun hHeld => ?_)
      · (try dsimp only); (exact ⟨hHeld.1.kept jj284, hHeld.2.kept jj284⟩)
      clear hK K
      try simp only [Act.put, List.getElem_toArray, List.getElem_cons_succ, List.getElem_cons_zero, List.setIfInBounds_toArray, List.set_cons_zero, List.set_cons_succ]
      have s27_284 := hide rr284
      have hK284 := hide ((hK274.out).trans jj284 (by simp))
      have s21_284 := hide (Rd.kept (s21_274.out) jj284 (by simp))
      refine wpAnyH_ready (rs := [22]) (by as_aux_lemma => kernel_rfl) (by simp) ?_
      refine AllReadyH.cons rfl (fun K hK => ?_) AllReadyH.nil
      rw [if_pos (by rfl)]
      refine wp_fnK _ _ _ rfl (enters_of Tryd.func37 (by as_aux_lemma => kernel_rfl) rfl) _ rfl _ (hard_any _ _ _ _) ?_
      intro V285 hj285
      refine hK.out _ _ ?_ (fun hHeld => ?_)
      · (try dsimp only); (exact ⟨hHeld.1.kept hj285, hHeld.2.kept hj285⟩)
      clear hK K
      try simp only [Act.put, List.getElem_toArray, List.getElem_cons_succ, List.getElem_cons_zero, List.setIfInBounds_toArray, List.set_cons_zero, List.set_cons_succ]
      have hK285 := hide ((hK284.out).trans hj285 (by simp))
      have s21_285 := hide (Rd.kept (s21_284.out) hj285 (by simp))
      have s27_285 := hide (Rd.kept (s27_284.out) hj285 (by simp))
      refine wpAnyH_ready (rs := [23]) (by as_aux_lemma => kernel_rfl) (by simp) ?_
      refine AllReadyH.cons rfl (fun K hK => ?_) AllReadyH.nil
      rw [if_pos (by rfl)]
      refine wp_fnL _ _ _ rfl (enters_of Tryd.func27 (by as_aux_lemma => kernel_rfl) rfl) _ rfl (Copy6_any _ 3 3 [nA, nW, zeroK] false _ (s21_285.out) (by decide)) ?_
      intro V286 a286 n286 c286 ho286 hj286
      obtain rfl : 3 = n286 := by have h1 := ho286.rd.clen; exact h1
      refine hK.out _ _ ?_ (fun hHeld => ?_)
      · (try dsimp only); (exact ⟨hHeld.1.kept hj286, hHeld.2.kept hj286⟩)
      clear hK K
      try simp only [Act.put, List.getElem_toArray, List.getElem_cons_succ, List.getElem_cons_zero, List.setIfInBounds_toArray, List.set_cons_zero, List.set_cons_succ]
      have hK286 := hide ((hK285.out).trans hj286 (by simp))
      have s27_286 := hide (Rd.kept (s27_285.out) hj286 (by simp))
      have c23_286 := hide ho286.rd
      refine wpAnyH_ready (rs := [28]) (by as_aux_lemma => kernel_rfl) (by simp) ?_
      refine AllReadyH.cons rfl (fun K hK => ?_) AllReadyH.nil
      rw [if_pos (by rfl)]
      refine wp_fnK _ _ _ rfl (enters_of Tryd.func37 (by as_aux_lemma => kernel_rfl) rfl) _ rfl _ (hard_any _ _ _ _) ?_
      intro V287 hj287
      refine hK.out _ _ ?_ (fun hHeld => ?_)
      · (try dsimp only); (exact ⟨hHeld.1.kept hj287, hHeld.2.kept hj287⟩)
      clear hK K
      try simp only [Act.put, List.getElem_toArray, List.getElem_cons_succ, List.getElem_cons_zero, List.setIfInBounds_toArray, List.set_cons_zero, List.set_cons_succ]
      have hK287 := hide ((hK286.out).trans hj287 (by simp))
      have s27_287 := hide (Rd.kept (s27_286.out) hj287 (by simp))
      have c23_287 := hide (Rd.kept (c23_286.out) hj287 (by simp))
      refine wpAnyH_ready (rs := [29]) (by as_aux_lemma => kernel_rfl) (by simp) ?_
      refine AllReadyH.cons rfl (fun K hK => ?_) AllReadyH.nil
      rw [if_pos (by rfl)]
      refine wp_fnK _ _ _ rfl (enters_of Tryd.func25 (by as_aux_lemma => kernel_rfl) rfl) _ rfl _ (rsame6_ask [nA, nW, zeroK] false [nA, nW, zeroK] false true (by decide +kernel) _ 3 _ _ 3 _ _ (c23_287.out) (s27_287.out) (by decide)) ?_
      intro V288 hj288
      refine hK.out _ _ ?_ (fun hHeld => ?_)
      · (try dsimp only); (exact ⟨hHeld.1.kept hj288, hHeld.2.kept hj288⟩)
      clear hK K
      try simp only [Act.put, List.getElem_toArray, List.getElem_cons_succ, List.getElem_cons_zero, List.setIfInBounds_toArray, List.set_cons_zero, List.set_cons_succ]
      have hK288 := hide ((hK287.out).trans hj288 (by simp))
      have c23_288 := hide (Rd.kept (c23_287.out) hj288 (by simp))
      refine wpAnyH_take (i := 30) (v := ?_) rfl (by as_aux_lemma => kernel_rfl) (by as_aux_lemma => kernel_rfl) (by as_aux_lemma => kernel_rfl) (fun _ _ _ h => h) (Or.inl ⟨by rfl, ?_⟩) (by assumption) ?_
      rotate_left
      · (intro wq hSw; (try dsimp only at hSw); go_simp; try with_reducible rfl)
      try simp only [Act.put, List.getElem_toArray, List.getElem_cons_succ, List.getElem_cons_zero, List.setIfInBounds_toArray, List.set_cons_zero, List.set_cons_succ]
      refine wpAnyH_take (i := 31) (v := ?_) rfl (by as_aux_lemma => kernel_rfl) (by as_aux_lemma => kernel_rfl) (by as_aux_lemma => kernel_rfl) (fun _ _ _ h => h) (Or.inl ⟨by rfl, ?_⟩) (by assumption) ?_
      rotate_left
      · (intro wq hSw; (try dsimp only at hSw); go_simp; try with_reducible rfl)
      try simp only [Act.put, List.getElem_toArray, List.getElem_cons_succ, List.getElem_cons_zero, List.setIfInBounds_toArray, List.set_cons_zero, List.set_cons_succ]
      refine wpAnyH_done (by as_aux_lemma => kernel_rfl) ?_ _
      go_wp2_with fail
      go_ret
      exact ⟨rfl, hK288.out⟩
  · rw [if_pos (by rfl)]
    refine wp_bsC 3 _ rfl [nA, nW, zeroK] rfl (by decide) (by decide) (by as_aux_lemma => kernel_rfl) ?_
    intro g289 V289 rr289 jj289
    refine hK.out _ _ ?_ (fun hHeld => ?_)
    · (try dsimp only); (exact ⟨hHeld.1.kept jj289, hHeld.2.kept jj289⟩)
    clear hK K
    try simp only [Act.put, List.getElem_toArray, List.getElem_cons_succ, List.getElem_cons_zero, List.setIfInBounds_toArray, List.set_cons_zero, List.set_cons_succ]
    have s27_289 := hide rr289
    have hK289 := hide ((hK273.out).trans jj289 (by simp))
    refine wpAnyH_ready (rs := [21]) (by as_aux_lemma => kernel_rfl) (by simp) ?_
    refine AllReadyH.cons rfl (fun K hK => ?_) AllReadyH.nil
    rw [if_pos (by rfl)]
    refine wp_bsC 3 _ rfl [nA, nW, zeroK] rfl (by decide) (by decide) (by as_aux_lemma => kernel_rfl) ?_
    intro g290 V290 rr290 jj290
    refine hK.out _ _ ?_ (fun hHeld => ?_)
    · (try dsimp only); (exact ⟨hHeld.1.kept jj290, hHeld.2.kept jj290⟩)
    clear hK K
    try simp only [Act.put, List.getElem_toArray, List.getElem_cons_succ, List.getElem_cons_zero, List.setIfInBounds_toArray, List.set_cons_zero, List.set_cons_succ]
    have s21_290 := hide rr290
    have hK290 := hide ((hK289.out).trans jj290 (by simp))
    have s27_290 := hide (Rd.kept (s27_289.out) jj290 (by simp))
    refine wpAnyH_ready (rs := [22]) (by as_aux_lemma => kernel_rfl) (by simp) ?_
    refine AllReadyH.cons rfl (fun K hK => ?_) AllReadyH.nil
    rw [if_pos (by rfl)]
    refine wp_fnK _ _ _ rfl (enters_of Tryd.func37 (by as_aux_lemma => kernel_rfl) rfl) _ rfl _ (hard_any _ _ _ _) ?_
    intro V291 hj291
    refine hK.out _ _ ?_ (fun hHeld => ?_)
    · (try dsimp only); (exact ⟨hHeld.1.kept hj291, hHeld.2.kept hj291⟩)
    clear hK K
    try simp only [Act.put, List.getElem_toArray, List.getElem_cons_succ, List.getElem_cons_zero, List.setIfInBounds_toArray, List.set_cons_zero, List.set_cons_succ]
    have hK291 := hide ((hK290.out).trans hj291 (by simp))
    have s27_291 := hide (Rd.kept (s27_290.out) hj291 (by simp))
    have s21_291 := hide (Rd.kept (s21_290.out) hj291 (by simp))
    refine wpAnyH_ready (rs := [23]) (by as_aux_lemma => kernel_rfl) (by simp) ?_
    refine AllReadyH.cons rfl (fun K hK => ?_) AllReadyH.nil
    rw [if_pos (by rfl)]
    refine wp_fnL _ _ _ rfl (enters_of Tryd.func27 (by as_aux_lemma => kernel_rfl) rfl) _ rfl (Copy6_any _ 3 3 [nA, nW, zeroK] false _ (s21_291.out) (by decide)) ?_
    intro V292 a292 n292 c292 ho292 hj292
    obtain rfl : 3 = n292 := by have h1 := ho292.rd.clen; exact h1
    refine hK.out _ _ ?_ (fun hHeld => ?_)
    · (try dsimp only); (exact ⟨hHeld.1.kept hj292, hHeld.2.kept hj292⟩)
    clear hK K
    try simp only [Act.put, List.getElem_toArray, List.getElem_cons_succ, List.getElem_cons_zero, List.setIfInBounds_toArray, List.set_cons_zero, List.set_cons_succ]
    have hK292 := hide ((hK291.out).trans hj292 (by simp))
    have s27_292 := hide (Rd.kept (s27_291.out) hj292 (by simp))
    have c23_292 := hide ho292.rd
    refine wpAnyH_ready (rs := [28]) (by as_aux_lemma => kernel_rfl) (by simp) ?_
    refine AllReadyH.cons rfl (fun K hK => ?_) AllReadyH.nil
    rw [if_pos (by rfl)]
    refine wp_fnK _ _ _ rfl (enters_of Tryd.func37 (by as_aux_lemma => kernel_rfl) rfl) _ rfl _ (hard_any _ _ _ _) ?_
    intro V293 hj293
    refine hK.out _ _ ?_ (fun hHeld => ?_)
    · (try dsimp only); (exact ⟨hHeld.1.kept hj293, hHeld.2.kept hj293⟩)
    clear hK K
    try simp only [Act.put, List.getElem_toArray, List.getElem_cons_succ, List.getElem_cons_zero, List.setIfInBounds_toArray, List.set_cons_zero, List.set_cons_succ]
    have hK293 := hide ((hK292.out).trans hj293 (by simp))
    have s27_293 := hide (Rd.kept (s27_292.out) hj293 (by simp))
    have c23_293 := hide (Rd.kept (c23_292.out) hj293 (by simp))
    refine wpAnyH_ready (rs := [29]) (by as_aux_lemma => kernel_rfl) (by simp) ?_
    refine AllReadyH.cons rfl (fun K hK => ?_) AllReadyH.nil
    rw [if_pos (by rfl)]
    refine wp_fnK _ _ _ rfl (enters_of Tryd.func25 (by as_aux_lemma => kernel_rfl) rfl) _ rfl _ (rsame6_ask [nA, nW, zeroK] false [nA, nW, zeroK] false true (by decide +kernel) _ 3 _ _ 3 _ _ (c23_293.out) (s27_293.out) (by decide)) ?_
    intro V294 hj294
    refine hK.out _ _ ?_ (fun hHeld => ?_)
    · (try dsimp only); (exact ⟨hHeld.1.kept hj294, hHeld.2.kept hj294⟩)
    clear hK K
    try simp only [Act.put, List.getElem_toArray, List.getElem_cons_succ, List.getElem_cons_zero, List.setIfInBounds_toArray, List.set_cons_zero, List.set_cons_succ]
    have hK294 := hide ((hK293.out).trans hj294 (by simp))
    have c23_294 := hide (Rd.kept (c23_293.out) hj294 (by simp))
    refine wpAnyH_take (i := 30) (v := ?_) rfl (by as_aux_lemma => kernel_rfl) (by as_aux_lemma => kernel_rfl) (by as_aux_lemma => kernel_rfl) (fun _ _ _ h => h) (Or.inl ⟨by rfl, ?_⟩) (by assumption) ?_
    rotate_left
    · (intro wq hSw; (try dsimp only at hSw); go_simp; try with_reducible rfl)
    try simp only [Act.put, List.getElem_toArray, List.getElem_cons_succ, List.getElem_cons_zero, List.setIfInBounds_toArray, List.set_cons_zero, List.set_cons_succ]
    refine wpAnyH_take (i := 31) (v := ?_) rfl (by as_aux_lemma => kernel_rfl) (by as_aux_lemma => kernel_rfl) (by as_aux_lemma => kernel_rfl) (fun _ _ _ h => h) (Or.inl ⟨by rfl, ?_⟩) (by assumption) ?_
    rotate_left
    · (intro wq hSw; (try dsimp only at hSw); go_simp; try with_reducible rfl)
    try simp only [Act.put, List.getElem_toArray, List.getElem_cons_succ, List.getElem_cons_zero, List.setIfInBounds_toArray, List.set_cons_zero, List.set_cons_succ]
    refine wpAnyH_done (by as_aux_lemma => kernel_rfl) ?_ _
    go_wp2_with fail
    go_ret
    exact ⟨rfl, hK294.out⟩
end Go.Proofs.YtkhdnaopdhnkaaaDoor
