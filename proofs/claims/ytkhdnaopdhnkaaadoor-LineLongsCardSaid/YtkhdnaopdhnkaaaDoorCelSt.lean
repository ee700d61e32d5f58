/- Operations on boxes of pens and parts of cells. -/
import Derived.Test.YtkhdnaopdhnkaaaDoorCelOp
namespace Go.Proofs.YtkhdnaopdhnkaaaDoor
open Go.RowKit
set_option linter.unusedVariables false

theorem oneP (p : Pn) : (#[.int .i64 p.f.k, .int .u8 p.f.i, .int .u8 p.f.r, .int .u8 p.f.g, .int .u8 p.f.b, .int .i64 p.b.k, .int .u8 p.b.i, .int .u8 p.b.r, .int .u8 p.b.g, .int .u8 p.b.b, .int .u8 p.fl] : Array Value).all (·.oneCell') = true := by simp [Value.oneCell']
theorem wpList_load_penW {ops : Array Oper} {rest : List Oper} {op : Oper} {a : Act} {w : World} {Q : Exit → Act → World → Prop} {x : Operand} (ho : op.op = .load 58 x) (hw : Region.wanted op (yielded ops a.tmps) = true) (b o : Nat) (hx : a.eval x = .pointer (some ⟨b, o, none⟩)) {p : Pn} (hc : w.rangeAt b o (pcL p))
    (h : wpList Tryd.prog ops Q rest (a.put op.dst (.agg #[.int .i64 p.f.k, .int .u8 p.f.i, .int .u8 p.f.r, .int .u8 p.f.g, .int .u8 p.f.b, .int .i64 p.b.k, .int .u8 p.b.i, .int .u8 p.b.r, .int .u8 p.b.g, .int .u8 p.b.b, .int .u8 p.fl])) w) : wpList Tryd.prog ops Q (op :: rest) a w :=
  BigFrame.wpList_want hw fun _ hK => wp_load_mid 58 x ho b o hx (pcL p) _ hc Tryd.underlying58 rfl (by kernel_rfl) (hK _ _ h)
theorem wpList_store_pen {ops : Array Oper} {rest : List Oper} {op : Oper} {a : Act} {w : World} {Q : Exit → Act → World → Prop} {x y : Operand} (ho : op.op = .store 58 x y) (hgd : op.guard = none) (hd : op.dst = none) (b : Nat) (hx : a.eval x = .pointer (some ⟨b, 0, none⟩)) {c : Pn} (hb : PenIn w b c)
    (d : Pn) (hy : a.eval y = .agg #[.int .i64 d.f.k, .int .u8 d.f.i, .int .u8 d.f.r, .int .u8 d.f.g, .int .u8 d.f.b, .int .i64 d.b.k, .int .u8 d.b.i, .int .u8 d.b.r, .int .u8 d.b.g, .int .u8 d.b.b, .int .u8 d.fl]) (h : ∀ w', PenIn w' b d → Kept [b] w w' → wpList Tryd.prog ops Q rest a w') : wpList Tryd.prog ops Q (op :: rest) a w :=
  wpList_store_rowTo hgd 58 x y ho hd b #[.int .i64 d.f.k, .int .u8 d.f.i, .int .u8 d.f.r, .int .u8 d.f.g, .int .u8 d.f.b, .int .i64 d.b.k, .int .u8 d.b.i, .int .u8 d.b.r, .int .u8 d.b.g, .int .u8 d.b.b, .int .u8 d.fl] hx hy 58 _ hb (by kernel_rfl) rfl (oneP d) (h _ (setRow_heap w b _ _ _ _ hb) ((Kept.refl [b] w).setRow (.inl (by simp)) _))
theorem CelIn.there {w : World} {b : Nat} {c : Cl} (h : CelIn w b c) (o n : Nat) (hn : o + n ≤ 16) : w.there b o n := fun j hj => by
  refine ⟨?_, by unfold World.frozen?; rw [h]; simp⟩
  rw [cell_of_row w b (o + j) _ _ _ h, Array.getElem?_eq_getElem (by simp; omega)]
  rfl
theorem wpList_store_celP {ops : Array Oper} {rest : List Oper} {op : Oper} {a : Act} {w : World} {Q : Exit → Act → World → Prop} {x y : Operand} (ho : op.op = .store 58 x y) (hgd : op.guard = none) (hd : op.dst = none) (b : Nat) (hx : a.eval x = .pointer (some ⟨b, 5, none⟩)) {c : Cl} (hb : CelIn w b c)
    (p : Pn) (hy : a.eval y = .agg #[.int .i64 p.f.k, .int .u8 p.f.i, .int .u8 p.f.r, .int .u8 p.f.g, .int .u8 p.f.b, .int .i64 p.b.k, .int .u8 p.b.i, .int .u8 p.b.r, .int .u8 p.b.g, .int .u8 p.b.b, .int .u8 p.fl]) (h : ∀ w', CelIn w' b ⟨c.r, c.m0, c.m1, c.m2, c.w, p⟩ → Kept [b] w w' → wpList Tryd.prog ops Q rest a w') : wpList Tryd.prog ops Q (op :: rest) a w := by
  refine wpList_store_mid hgd 58 x y ho b 5 #[.int .i64 p.f.k, .int .u8 p.f.i, .int .u8 p.f.r, .int .u8 p.f.g, .int .u8 p.f.b, .int .i64 p.b.k, .int .u8 p.b.i, .int .u8 p.b.r, .int .u8 p.b.g, .int .u8 p.b.b, .int .u8 p.fl] hx hy (hb.there 5 11 (by omega)) (by kernel_rfl) (oneP p) ?_
  rw [hd]
  have h0 := heap_set w b 5 (.int .i64 p.f.k) _ _ hb
  have h1 := heap_set _ b 6 (.int .u8 p.f.i) _ _ h0
  have h2 := heap_set _ b 7 (.int .u8 p.f.r) _ _ h1
  have h3 := heap_set _ b 8 (.int .u8 p.f.g) _ _ h2
  have h4 := heap_set _ b 9 (.int .u8 p.f.b) _ _ h3
  have h5 := heap_set _ b 10 (.int .i64 p.b.k) _ _ h4
  have h6 := heap_set _ b 11 (.int .u8 p.b.i) _ _ h5
  have h7 := heap_set _ b 12 (.int .u8 p.b.r) _ _ h6
  have h8 := heap_set _ b 13 (.int .u8 p.b.g) _ _ h7
  have h9 := heap_set _ b 14 (.int .u8 p.b.b) _ _ h8
  have h10 := heap_set _ b 15 (.int .u8 p.fl) _ _ h9
  simp only [List.setIfInBounds_toArray, List.set_cons_succ, List.set_cons_zero] at h10
  have kk := fun (w' : World) (hk : Kept [b] w w') i v => hk.setCell (p := ⟨b, i, none⟩) (.inl (by simp)) v
  exact h _ h10 (kk _ (kk _ (kk _ (kk _ (kk _ (kk _ (kk _ (kk _ (kk _ (kk _ (kk _ (Kept.refl _ _) 5 _) 6 _) 7 _) 8 _) 9 _) 10 _) 11 _) 12 _) 13 _) 14 _) 15 _)
theorem wpList_store_celM {ops : Array Oper} {rest : List Oper} {op : Oper} {a : Act} {w : World} {Q : Exit → Act → World → Prop} {x y : Operand} (ho : op.op = .store 52 x y) (hgd : op.guard = none) (hd : op.dst = none) (b : Nat) (hx : a.eval x = .pointer (some ⟨b, 1, none⟩)) {c : Cl} (hb : CelIn w b c)
    (m0 m1 m2 : Int) (hy : a.eval y = .agg #[.int .i32 m0, .int .i32 m1, .int .i32 m2]) (h : ∀ w', CelIn w' b ⟨c.r, m0, m1, m2, c.w, c.p⟩ → Kept [b] w w' → wpList Tryd.prog ops Q rest a w') : wpList Tryd.prog ops Q (op :: rest) a w := by
  refine wpList_store_mid hgd 52 x y ho b 1 #[.int .i32 m0, .int .i32 m1, .int .i32 m2] hx hy (hb.there 1 3 (by omega)) (by kernel_rfl) (by simp [Value.oneCell']) ?_
  rw [hd]
  have h0 := heap_set w b 1 (.int .i32 m0) _ _ hb
  have h1 := heap_set _ b 2 (.int .i32 m1) _ _ h0
  have h2 := heap_set _ b 3 (.int .i32 m2) _ _ h1
  simp only [List.setIfInBounds_toArray, List.set_cons_succ, List.set_cons_zero] at h2
  have kk := fun (w' : World) (hk : Kept [b] w w') i v => hk.setCell (p := ⟨b, i, none⟩) (.inl (by simp)) v
  exact h _ h2 (kk _ (kk _ (kk _ (Kept.refl _ _) 1 _) 2 _) 3 _)
end Go.Proofs.YtkhdnaopdhnkaaaDoor
