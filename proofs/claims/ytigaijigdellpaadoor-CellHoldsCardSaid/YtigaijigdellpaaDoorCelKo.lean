/- Operations on boxes of pens and parts of cells; the examples' cells. -/
import Derived.Test.YtigaijigdellpaaDoorCelAsk
import Derived.Test.YtigaijigdellpaaDoorCelRow
import Derived.Test.YtigaijigdellpaaDoorCelTs
import Derived.Test.YtigaijigdellpaaDoorCelOp
namespace Go.Proofs.YtigaijigdellpaaDoor
open Go.RowKit
set_option linter.unusedVariables false

theorem oneP (p : Pn) : (#[.int .i64 p.f.k, .int .u8 p.f.i, .int .u8 p.f.r, .int .u8 p.f.g, .int .u8 p.f.b, .int .i64 p.b.k, .int .u8 p.b.i, .int .u8 p.b.r, .int .u8 p.b.g, .int .u8 p.b.b, .int .u8 p.fl] : Array Value).all (·.oneCell') = true := by simp [Value.oneCell']
theorem wpList_load_penW {ops : Array Oper} {rest : List Oper} {op : Oper} {a : Act} {w : World} {Q : Exit → Act → World → Prop} {x : Operand} (ho : op.op = .load 27 x) (hw : Region.wanted op (yielded ops a.tmps) = true) (b o : Nat) (hx : a.eval x = .pointer (some ⟨b, o, none⟩)) {p : Pn} (hc : w.rangeAt b o (pcL p))
    (h : wpList Tryd.prog ops Q rest (a.put op.dst (.agg #[.int .i64 p.f.k, .int .u8 p.f.i, .int .u8 p.f.r, .int .u8 p.f.g, .int .u8 p.f.b, .int .i64 p.b.k, .int .u8 p.b.i, .int .u8 p.b.r, .int .u8 p.b.g, .int .u8 p.b.b, .int .u8 p.fl])) w) : wpList Tryd.prog ops Q (op :: rest) a w :=
  BigFrame.wpList_want hw fun _ hK => wp_load_mid 27 x ho b o hx (pcL p) _ hc Tryd.underlying27 rfl (by kernel_rfl) (hK _ _ h)
theorem wpList_store_pen {ops : Array Oper} {rest : List Oper} {op : Oper} {a : Act} {w : World} {Q : Exit → Act → World → Prop} {x y : Operand} (ho : op.op = .store 27 x y) (hgd : op.guard = none) (hd : op.dst = none) (b : Nat) (hx : a.eval x = .pointer (some ⟨b, 0, none⟩)) {c : Pn} (hb : PenIn w b c)
    (d : Pn) (hy : a.eval y = .agg #[.int .i64 d.f.k, .int .u8 d.f.i, .int .u8 d.f.r, .int .u8 d.f.g, .int .u8 d.f.b, .int .i64 d.b.k, .int .u8 d.b.i, .int .u8 d.b.r, .int .u8 d.b.g, .int .u8 d.b.b, .int .u8 d.fl]) (h : ∀ w', PenIn w' b d → Kept [b] w w' → wpList Tryd.prog ops Q rest a w') : wpList Tryd.prog ops Q (op :: rest) a w :=
  wpList_store_rowTo hgd 27 x y ho hd b #[.int .i64 d.f.k, .int .u8 d.f.i, .int .u8 d.f.r, .int .u8 d.f.g, .int .u8 d.f.b, .int .i64 d.b.k, .int .u8 d.b.i, .int .u8 d.b.r, .int .u8 d.b.g, .int .u8 d.b.b, .int .u8 d.fl] hx hy 27 _ hb (by kernel_rfl) rfl (oneP d) (h _ (setRow_heap w b _ _ _ _ hb) ((Kept.refl [b] w).setRow (.inl (by simp)) _))
theorem CelIn.there {w : World} {b : Nat} {c : Cl} (h : CelIn w b c) (o n : Nat) (hn : o + n ≤ 16) : w.there b o n := fun j hj => by
  refine ⟨?_, by unfold World.frozen?; rw [h]; simp⟩
  rw [cell_of_row w b (o + j) _ _ _ h, Array.getElem?_eq_getElem (by simp; omega)]
  rfl
theorem wpList_store_celP {ops : Array Oper} {rest : List Oper} {op : Oper} {a : Act} {w : World} {Q : Exit → Act → World → Prop} {x y : Operand} (ho : op.op = .store 27 x y) (hgd : op.guard = none) (hd : op.dst = none) (b : Nat) (hx : a.eval x = .pointer (some ⟨b, 5, none⟩)) {c : Cl} (hb : CelIn w b c)
    (p : Pn) (hy : a.eval y = .agg #[.int .i64 p.f.k, .int .u8 p.f.i, .int .u8 p.f.r, .int .u8 p.f.g, .int .u8 p.f.b, .int .i64 p.b.k, .int .u8 p.b.i, .int .u8 p.b.r, .int .u8 p.b.g, .int .u8 p.b.b, .int .u8 p.fl]) (h : ∀ w', CelIn w' b ⟨c.r, c.m0, c.m1, c.m2, c.w, p⟩ → Kept [b] w w' → wpList Tryd.prog ops Q rest a w') : wpList Tryd.prog ops Q (op :: rest) a w := by
  refine wpList_store_mid hgd 27 x y ho b 5 #[.int .i64 p.f.k, .int .u8 p.f.i, .int .u8 p.f.r, .int .u8 p.f.g, .int .u8 p.f.b, .int .i64 p.b.k, .int .u8 p.b.i, .int .u8 p.b.r, .int .u8 p.b.g, .int .u8 p.b.b, .int .u8 p.fl] hx hy (hb.there 5 11 (by omega)) (by kernel_rfl) (oneP p) ?_
  rw [hd]
  have h0 := heap_set w b 5 (.int .i64 p.f.k) _ _ hb
  have h1 := heap_set _ b 6 (.int .u8 p.f.i) _ _ h0
  have h2 := heap_set _ b 7 (.int .u8 p.f.r) _ _ h1
  have h3 := heap_set _ b 8 (.int .u8 p.f.g) _ _ h2
  have h4 := heap_set _ b 9 (.int .u8 p.f.b) _ _ h3
  have h5 := heap_set _ b 10 (.int .i64 p.b.k) _ _ h4
  have h6 := heap_set _ b 11 (.int .u8 p.b.i) _ _ h5
  have h7 := heap_set _ b 12 (.int .u8 p.b.r) _ _ h6
  have h8 := heap_set _ b 13 (.int .u8 p.b.g) _ _ h7
  have h9 := heap_set _ b 14 (.int .u8 p.b.b) _ _ h8
  have h10 := heap_set _ b 15 (.int .u8 p.fl) _ _ h9
  simp only [List.setIfInBounds_toArray, List.set_cons_succ, List.set_cons_zero] at h10
  have kk := fun (w' : World) (hk : Kept [b] w w') i v => hk.setCell (p := ⟨b, i, none⟩) (.inl (by simp)) v
  exact h _ h10 (kk _ (kk _ (kk _ (kk _ (kk _ (kk _ (kk _ (kk _ (kk _ (kk _ (kk _ (Kept.refl _ _) 5 _) 6 _) 7 _) 8 _) 9 _) 10 _) 11 _) 12 _) 13 _) 14 _) 15 _)
theorem wpList_store_celM {ops : Array Oper} {rest : List Oper} {op : Oper} {a : Act} {w : World} {Q : Exit → Act → World → Prop} {x y : Operand} (ho : op.op = .store 28 x y) (hgd : op.guard = none) (hd : op.dst = none) (b : Nat) (hx : a.eval x = .pointer (some ⟨b, 1, none⟩)) {c : Cl} (hb : CelIn w b c)
    (m0 m1 m2 : Int) (hy : a.eval y = .agg #[.int .i32 m0, .int .i32 m1, .int .i32 m2]) (h : ∀ w', CelIn w' b ⟨c.r, m0, m1, m2, c.w, c.p⟩ → Kept [b] w w' → wpList Tryd.prog ops Q rest a w') : wpList Tryd.prog ops Q (op :: rest) a w := by
  refine wpList_store_mid hgd 28 x y ho b 1 #[.int .i32 m0, .int .i32 m1, .int .i32 m2] hx hy (hb.there 1 3 (by omega)) (by kernel_rfl) (by simp [Value.oneCell']) ?_
  rw [hd]
  have h0 := heap_set w b 1 (.int .i32 m0) _ _ hb
  have h1 := heap_set _ b 2 (.int .i32 m1) _ _ h0
  have h2 := heap_set _ b 3 (.int .i32 m2) _ _ h1
  simp only [List.setIfInBounds_toArray, List.set_cons_succ, List.set_cons_zero] at h2
  have kk := fun (w' : World) (hk : Kept [b] w w') i v => hk.setCell (p := ⟨b, i, none⟩) (.inl (by simp)) v
  exact h _ h2 (kk _ (kk _ (kk _ (Kept.refl _ _) 1 _) 2 _) 3 _)

/-- The examples' pens and cells. -/
def bP : Pn := ⟨zeroC, zeroC, 1⟩
def aC : Cl := ⟨97, 0, 0, 0, 1, zeroP⟩
def wdC : Cl := ⟨19968, 0, 0, 0, 2, zeroP⟩
def boldC : Cl := ⟨19968, 0, 0, 0, 2, bP⟩
def oneC4 : Cl := ⟨97, 769, 0, 0, 1, zeroP⟩
def twoC4 : Cl := ⟨97, 769, 770, 0, 1, zeroP⟩
def thrC4 : Cl := ⟨97, 769, 770, 771, 1, zeroP⟩
def xC : Cl := ⟨120, 0, 0, 0, 1, zeroP⟩
/-- The boxes of the first cells. -/
structure KnA (W : World) (b1 b2 b3 b4 b5 b6 b7 : Nat) : Prop where
  p1 : PenIn W b1 zeroP
  p2 : PenIn W b2 bP
  c3 : CelIn W b3 aC
  c4 : CelIn W b4 wdC
  c5 : CelIn W b5 (blankC zeroP)
  c6 : CelIn W b6 boldC
  c7 : CelIn W b7 (spacerC bP)
theorem KnA.kept {w w' : World} {b1 b2 b3 b4 b5 b6 b7 : Nat} (k : KnA w b1 b2 b3 b4 b5 b6 b7) (hk : Kept [] w w') : KnA w' b1 b2 b3 b4 b5 b6 b7 :=
  ⟨k.p1.kept hk (by simp), k.p2.kept hk (by simp), k.c3.kept hk (by simp), k.c4.kept hk (by simp), k.c5.kept hk (by simp), k.c6.kept hk (by simp), k.c7.kept hk (by simp)⟩
theorem PenIn.lt {w : World} {b : Nat} {p : Pn} (h : PenIn w b p) : b < w.heap.size := World.block_lt_of_cell? w _ h.at.1
theorem valid_ask (c : Cl) (v : Bool) (hv : validC c = v) (w : World) (ht : Tabs w) : Calls Tryd.prog 14 #[.agg #[.int .i32 c.r, .int .i32 c.m0, .int .i32 c.m1, .int .i32 c.m2, .int .i64 c.w, .int .i64 c.p.f.k, .int .u8 c.p.f.i, .int .u8 c.p.f.r, .int .u8 c.p.f.g, .int .u8 c.p.f.b, .int .i64 c.p.b.k, .int .u8 c.p.b.i, .int .u8 c.p.b.r, .int .u8 c.p.b.g, .int .u8 c.p.b.b, .int .u8 c.p.fl]] w fun e w' => e = .returned (.bool v) ∧ Kept [] w w' := by
  subst hv
  exact cvalid_any c w ht
theorem row_ask (l : List Cl) (v : Bool) (hv : rowI l = v) (a : Option Addr) (n c : Nat) (w : World) (ht : Tabs w) (hr : Rd w a n 16 (cellsV l)) (hn : n ≤ 1000) : Calls Tryd.prog 22 #[.slice a n c] w fun e w' => e = .returned (.bool v) ∧ Kept [] w w' := by
  subst hv
  exact Row_any a n c l w ht hr hn
theorem text_ask (c : Cl) (s : ByteArray) (hs : textC c = s) (w : World) : Calls Tryd.prog 18 #[.agg #[.int .i32 c.r, .int .i32 c.m0, .int .i32 c.m1, .int .i32 c.m2, .int .i64 c.w, .int .i64 c.p.f.k, .int .u8 c.p.f.i, .int .u8 c.p.f.r, .int .u8 c.p.f.g, .int .u8 c.p.f.b, .int .i64 c.p.b.k, .int .u8 c.p.b.i, .int .u8 c.p.b.r, .int .u8 c.p.b.g, .int .u8 c.p.b.b, .int .u8 c.p.fl]] w fun e w' => e = .returned (.string s) ∧ Kept [] w w' := by
  subst hs
  exact Text_any c w
theorem texts_ask (l : List Cl) (s : ByteArray) (hs : textsB l = s) (a : Option Addr) (n c : Nat) (w : World) (hr : Rd w a n 16 (cellsV l)) (hn : n ≤ 1000) : Calls Tryd.prog 24 #[.slice a n c] w fun e w' => e = .returned (.string s) ∧ Kept [] w w' := by
  subst hs
  exact Texts_any a n c l w hr hn
theorem text_one : textC oneC4 = ⟨#[97, 204, 129]⟩ := by kernel_rfl
theorem text_blank : textC (blankC zeroP) = ⟨#[32]⟩ := by kernel_rfl
theorem text_none : textC zeroK = ⟨#[]⟩ := by kernel_rfl
theorem texts_all : textsB [wdC, zeroK, blankC zeroP, xC] = ⟨#[228, 184, 128, 32, 120]⟩ := by kernel_rfl
theorem row_1 : rowI [zeroK] = false := by decide +kernel
theorem row_2 : rowI [wdC, spacerC bP] = false := by decide +kernel
theorem row_3 : rowI [wdC] = false := by decide +kernel
theorem row_4 : rowI [] = true := rfl
/-- What is left to do is said once, whatever way led there. -/
theorem share2 {F : World → Prop} {G : Value → Value → World → Prop} {goal : Prop} (k : (∀ a b W, F W → G a b W) → goal) (h : ∀ a b W, F W → G a b W) : goal := k h
theorem fix_1 : decide (fixI [boldC, zeroK] = [boldC, spacerC bP]) = true := by decide +kernel
theorem fix_2 : decide (fixI [spacerC bP, aC] = [blankC bP, aC]) = true := by decide +kernel
theorem fix_3 : decide (fixI [aC, boldC] = [aC, blankC bP]) = true := by decide +kernel
theorem fix_4 : decide (fixI [wdC, wdC, zeroK] = [blankC zeroP, wdC, zeroK]) = true := by decide +kernel
end Go.Proofs.YtigaijigdellpaaDoor
