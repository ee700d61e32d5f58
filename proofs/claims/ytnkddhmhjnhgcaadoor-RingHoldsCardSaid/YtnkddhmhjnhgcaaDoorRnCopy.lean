/- The program's Copy of layer 8. -/
import Derived.Test.YtnkddhmhjnhgcaaDoorRnEach
namespace Go.Proofs.YtnkddhmhjnhgcaaDoor
open Go.RowKit
set_option linter.unusedVariables false
set_option maxRecDepth 100000
attribute [local go_sem] Oper.semAt_some

def noDefer (o : Oper) : Bool := match o.op with | .defer _ => false | _ => true
theorem noDefer_all {l : List Oper} (h : l.all noDefer = true) : ∀ o ∈ l, NoDefer o := fun o ho c hc => by
  have := List.all_eq_true.1 h o ho
  unfold noDefer at this
  rw [hc] at this
  cases this
/-- A block of cells. -/
def IsC (w : World) (y : Nat) : Prop := ∃ o : Obj, w.heap[y]? = some o ∧ o.isCells = true
theorem IsC.of_cell {w : World} {b i : Nat} {v : Value} (h : w.cell? ⟨b, i, none⟩ = some v) : IsC w b := cells_of_cell h
theorem Mid.cells {w : World} {a : Option Addr} {n c size : Nat} {xs : List Value} (h : Mid w a n c size xs) (hs : 0 < size) : ∀ y ∈ blkC a c, IsC w y := fun y hy => by
  obtain ⟨h1, h2, h3, h4⟩ := h
  unfold blkC at hy
  split at hy
  · cases hy
  · rename_i hc
    rcases h4 with h4 | ⟨g, o, rfl, hr, ht⟩
    · exact absurd h4 hc
    · simp [blk] at hy
      subst hy
      obtain ⟨v, hv⟩ := Option.isSome_iff_exists.1 (ht 0 (Nat.mul_pos (by omega) hs)).1
      exact IsC.of_cell hv
theorem Own.cells {w : World} {base : Nat} {E : TypeId} {a : Option Addr} {n c size : Nat} {xs : List Value} (h : Own w base E a n c size xs) : ∀ y ∈ blk a, IsC w y := fun y hy => by
  rcases h.2 with ⟨hv, _⟩ | ⟨g, cap, cur, hv, _, hg, _⟩
  · injection hv with h1; subst h1; simp [blk] at hy
  · injection hv with h1 _ _
    subst h1
    simp [blk] at hy
    subst hy
    exact ⟨_, hg, rfl⟩
theorem PG.cells {w : World} {b : Nat} {s : Sh} {B : List Nat} (h : PG w b s B) : ∀ y ∈ B, IsC w y := fun y hy => by
  obtain ⟨a, n, c, vs, h, rfl⟩ := h
  rcases pgB_mem.1 hy with rfl | hy | hy
  · exact ⟨_, h.box, rfl⟩
  · exact h.mid.cells (by decide) y hy
  · obtain ⟨v, hv, hy⟩ := blkL_mem.1 hy
    obtain ⟨l, hl⟩ := h.own v hv
    exact hl.cells y hy
theorem RnRaw.cells {w : World} {b : Nat} {m p f x : Int} {P : Nat} {a : Option Addr} {n c : Nat} {ps : List PgX} (h : RnRaw w b m p f x P a n c ps) : ∀ y ∈ rnB b a c ps, IsC w y := fun y hy => by
  rcases rnB_mem.1 hy with rfl | hy | hy
  · exact ⟨_, h.box, rfl⟩
  · exact h.mid.cells (by decide) y hy
  · obtain ⟨q, hq, hy⟩ := blkP_mem.1 hy
    exact (h.pgs q hq).cells y hy
theorem IsC.ne {w : World} {y k : Nat} {o : Obj} (h : IsC w y) (hk : w.heap[k]? = some o) (ho : o.isCells = false) : y ≠ k := fun e => by
  obtain ⟨o', h1, h2⟩ := h
  subst e
  rw [hk] at h1
  cases h1
  rw [ho] at h2
  cases h2
theorem kept_put1 (w : World) (k : Nat) (o : Obj) : Kept [k] w (w.putObj k o) := ⟨rfl, rfl, rfl, by simp, fun i hi hn => World.putObj_heap_other (by simp at hn; exact hn)⟩
theorem keepsFrom_of {S : List Nat} {W W2 : World} (B : Nat) (h : Kept S W W2) (hS : ∀ y ∈ S, IsC W y) : KeepsFrom B W W2 := ⟨h.size, fun k o _ hk ho => (h.block k (Array.getElem?_eq_some_iff.1 hk).1 (fun hm => (hS k hm).ne hk ho rfl)).trans hk⟩
/-- The field pages is read, and stored. -/
theorem wp_load_rbP {op : Oper} {A : Act} {w : World} {K : Act → World → Prop} {Q : Exit → Act → World → Prop} {u : Operand} (ho : op.op = .load 71 u) (b : Nat) (hx : A.eval u = .pointer (some ⟨b, 4, none⟩)) {m p f x : Int} {a : Option Addr} {n c : Nat} (hb : RbIn w b m p f x a n c)
    (h : K (A.put op.dst (.slice a n c)) w) : op.wp Tryd.prog A w K Q := by
  have hc := hb.at.2.2.2.2
  have hrun : (Instr.loadAt 71 (.pointer (some ⟨b, 4, none⟩))).run Tryd.prog w = .ok (.slice a n c) w := by
    have hq : (Tryd.prog.info? 71).map (·.size) = some 1 := by kernel_rfl
    go_simp
  unfold Oper.wp execOp
  simp only [ho, hx, Sem.run_bind, Sem.run_pure, Result.andThen_ok, hrun]
  exact h
theorem wp_store_rbP {op : Oper} {A : Act} {w : World} {K : Act → World → Prop} {Q : Exit → Act → World → Prop} {u y : Operand} (ho : op.op = .store 71 u y) (hd : op.dst = none) (b : Nat) (hx : A.eval u = .pointer (some ⟨b, 4, none⟩)) {m p f x : Int} {a : Option Addr} {n c : Nat} (hb : RbIn w b m p f x a n c)
    (a' : Option Addr) (n' c' : Nat) (hy : A.eval y = .slice a' n' c') (h : ∀ w', RbIn w' b m p f x a' n' c' → Kept [b] w w' → K A w') : op.wp Tryd.prog A w K Q := by
  have hst := run_storeCells_cells (P := Tryd.prog) b 4 [.slice a' n' c'] 0 w (fun j hj => by simp at hj; subst hj; rw [hb.at.2.2.2.2]; rfl) (fun j hj => hb.froz _) (by simp [Value.oneCell'])
  have hrun : (Instr.storeAt 71 (.pointer (some ⟨b, 4, none⟩)) (.slice a' n' c')).run Tryd.prog w = .ok () (w.setCell ⟨b, 4, none⟩ (.slice a' n' c')) := by
    have hq : (Tryd.prog.info? 71).map (·.size) = some 1 := by kernel_rfl
    cases hi : Tryd.prog.info? 71 with
    | none => simp [hi] at hq
    | some i =>
      have hs : i.size = 1 := by simp [hi] at hq; omega
      simp only [Nat.add_zero] at hst
      simp only [Instr.storeAt, Instr.sureAddr, Sem.run_bind, Sem.run_pure, Result.andThen_ok]
      simp [storeVar, sizeOf, typeInfo, hi, Value.cells, hs, hst]
      rfl
  unfold Oper.wp execOp
  simp only [ho, hx, hy, Sem.run_bind, Sem.run_pure, Result.andThen_ok, hrun]
  have := h _ (hb.setP a' n' c') ((Kept.refl [b] w).setCell (.inl (by simp)) _)
  show K (A.put op.dst undef) _
  rw [hd]
  exact this
def Copy8Ret (r : Rg) (w : World) (e : Ending) (w' : World) : Prop := ∃ b' B', e = .returned (.pointer (some ⟨b', 0, none⟩)) ∧ RN w' b' r B' ∧ (∀ y ∈ B', w.heap.size ≤ y) ∧ Kept [] w w'
/-- What the copy is while its pages come. -/
def CopyI (w : World) (r : Rg) (cb : Nat) (pre : List (Nat × PgX)) (W : World) : Prop := ∃ a' n' c' qs, RnRaw W cb r.limit r.places r.first r.next r.places a' n' c' qs ∧ shs qs = pre.map (fun x => x.2.s) ∧ (∀ y ∈ rnB cb a' c' qs, w.heap.size ≤ y) ∧ Kept [] w W
theorem CopyI.keep {w : World} {r : Rg} {cb : Nat} {pre : List (Nat × PgX)} {W W2 : World} (h : CopyI w r cb pre W) (hk : Kept [] W W2) : CopyI w r cb pre W2 := by
  obtain ⟨a', n', c', qs, h1, h2, h3, h4⟩ := h
  exact ⟨a', n', c', qs, h1.keep hk, h2, h3, h4.trans hk (by simp)⟩
theorem CopyI.put {w : World} {r : Rg} {cb : Nat} {pre : List (Nat × PgX)} {W : World} {k : Nat} {o : Obj} (h : CopyI w r cb pre W) (hk : w.heap.size ≤ k) (ho : W.heap[k]? = some o) (hc : o.isCells = false) (o' : Obj) : CopyI w r cb pre (W.putObj k o') := by
  obtain ⟨a', n', c', qs, h1, h2, h3, h4⟩ := h
  exact ⟨a', n', c', qs, h1.kept (kept_put1 W k o') (fun y hy hm => by simp at hm; exact (h1.cells y hy).ne ho hc hm), h2, h3, h4.put hk o'⟩
theorem numP_snd : ∀ (f : Nat) (ps : List PgX), (numP f ps).map (fun x => x.2.s) = shs ps
  | _, [] => rfl
  | f, p :: ps => by simp [numP, numP_snd, shs]
theorem copy_round {w W w7 : World} {r : Rg} {cb : Nat} {pre : List (Nat × PgX)} {x : Nat × PgX} {a1 a6 : Option Addr} {n1 c1 c6 b4 : Nat} {qs : List PgX} {B4 T : List Nat} {B0 : Nat} (hkw : Kept [] w W) (hr : RnRaw W cb r.limit r.places r.first r.next r.places a1 n1 c1 qs) (hqs : shs qs = pre.map (fun x => x.2.s)) (hge : ∀ y ∈ rnB cb a1 c1 qs, w.heap.size ≤ y) (hT : ∀ y ∈ T, y < w.heap.size)
    (u1 : RnRaw w7 cb r.limit r.places r.first r.next r.places a6 (n1 + 1) c6 (qs ++ [⟨b4, x.2.s, B4⟩])) (u2 : Kept (rnB cb a1 c1 qs) W w7) (u3 : ∀ y ∈ rnB cb a6 c6 (qs ++ [⟨b4, x.2.s, B4⟩]), y ∈ rnB cb a1 c1 qs ∨ W.heap.size ≤ y) : KeepsFrom B0 W w7 ∧ KeptOff T W w7 ∧ CopyI w r cb (pre ++ [x]) w7 := by
  have hs := hkw.size
  refine ⟨keepsFrom_of B0 u2 hr.cells, ⟨_, u2, fun y hy hm => by have := hge y hy; have := hT y hm; omega⟩, a6, n1 + 1, c6, _, u1, by rw [shs_app, hqs]; simp, fun y hy => ?_, hkw.trans u2 (fun y hy => .inr (hge y hy))⟩
  rcases u3 y hy with h | h
  · exact hge y h
  · omega
theorem numP_mem : ∀ (f : Nat) (ps : List PgX) (x : Nat × PgX), x ∈ numP f ps → x.2 ∈ ps
  | _, [], x, h => by cases h
  | f, p :: ps, x, h => by
    rcases List.mem_cons.1 h with rfl | h
    · simp
    · exact List.mem_cons_of_mem _ (numP_mem _ ps x h)
end Go.Proofs.YtnkddhmhjnhgcaaDoor
