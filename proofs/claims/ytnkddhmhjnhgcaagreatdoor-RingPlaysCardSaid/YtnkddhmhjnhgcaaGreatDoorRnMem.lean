/- The program's rings in memory: a ring's box, its pages' slice and the pages lie apart; what becomes of that. -/
import Derived.Test.YtnkddhmhjnhgcaaGreatDoorRnMath
import Derived.Test.YtnkddhmhjnhgcaaGreatDoorSgB
namespace Go.Proofs.YtnkddhmhjnhgcaaGreatDoor
open Go.RowKit
set_option linter.unusedVariables false
set_option maxRecDepth 100000

section
variable {α : Type} {f : α → List Value} {k : Nat}
/-- One cell of one of them, and that it may be written. -/
theorem Mid.cellAt (h : RowOf f k) {w : World} {g o n c : Nat} {l : List α} (hm : Mid w (some ⟨g, o, none⟩) n c k (rowsV f l)) {i j : Nat} (hi : i < l.length) {u : Value} (hu : (f l[i])[j]? = some u) : w.cell? ⟨g, o + (i * k + j), none⟩ = some u ∧ w.frozen? ⟨g, o + (i * k + j), none⟩ = false := by
  have hj : j < k := by have := (List.getElem?_eq_some_iff.1 hu).1; rwa [h.len] at this
  have hr := (hm.rd.row h i hi) j u hu
  rw [Nat.add_assoc] at hr
  refine ⟨hr, ?_⟩
  have := (hm.thereAt h i hi j hj).2
  rwa [Nat.add_assoc] at this
theorem Mid.setOne (h : RowOf f k) {w : World} {g o n c : Nat} {l : List α} (hm : Mid w (some ⟨g, o, none⟩) n c k (rowsV f l)) {i j : Nat} (hi : i < l.length) (hj : j < k) {v : Value} {d : α} (hd : f d = (f l[i]).set j v) :
    Mid (w.setCell ⟨g, o + (i * k + j), none⟩ v) (some ⟨g, o, none⟩) n c k (rowsV f (l.set i d)) := by
  have hl := hm.rowLen h
  have hjl : j < (f l[i]).length := by rw [h.len]; exact hj
  have hold := (hm.cellAt h hi (List.getElem?_eq_getElem hjl)).1
  obtain ⟨q1, q2, q3, q4⟩ := hm
  refine ⟨by rw [rowsV_len h, List.length_set, hl], q2, q3, ?_⟩
  rcases q4 with q4 | ⟨g', o', ha, hr, hth⟩
  · exact .inl q4
  · injection ha with ha
    injection ha with e1 e2 _
    subst e1 e2
    refine .inr ⟨g, o, rfl, fun q u hu => ?_, fun q hq => ?_⟩
    · rw [rowsV_set h hj l i hi hd, List.getElem?_set] at hu
      split at hu
      · rename_i e
        subst e
        split at hu
        · injection hu with hu
          subst hu
          exact World.cell?_setCell_same _ _ _ hold
        · cases hu
      · rename_i e
        rw [World.cell?_setCell_other _ _ _ _ (by simp <;> omega)]
        exact hr q u hu
    · rw [World.frozen?_setCell]
      refine ⟨?_, (hth q hq).2⟩
      by_cases e : q = i * k + j
      · subst e
        rw [World.cell?_setCell_same _ _ _ hold]; rfl
      · rw [World.cell?_setCell_other _ _ _ _ (by simp <;> omega)]
        exact (hth q hq).1
end
/-- A ring of the program in a box. -/
def RbIn (W : World) (b : Nat) (m p f x : Int) (a : Option Addr) (n c : Nat) : Prop := W.heap[b]? = some (.cells #[.int .i64 m, .int .i64 p, .int .i64 f, .int .i64 x, .slice a n c] 58 (0, 0))
def rbL (m p f x : Int) (a : Option Addr) (n c : Nat) : List Value := [.int .i64 m, .int .i64 p, .int .i64 f, .int .i64 x, .slice a n c]
section
variable {w w' : World} {b : Nat} {m p f x : Int} {a : Option Addr} {n c : Nat}
theorem RbIn.new (w : World) (m p f x : Int) (a : Option Addr) (n c : Nat) : RbIn (w.alloc (.cells #[.int .i64 m, .int .i64 p, .int .i64 f, .int .i64 x, .slice a n c] 58)) w.heap.size m p f x a n c := heap_alloc_new w _
theorem RbIn.kept {S : List Nat} (h : RbIn w b m p f x a n c) (hk : Kept S w w') (hb : b ∉ S) : RbIn w' b m p f x a n c := hk.heap h hb
theorem RbIn.at (h : RbIn w b m p f x a n c) : w.cell? ⟨b, 0, none⟩ = some (.int .i64 m) ∧ w.cell? ⟨b, 1, none⟩ = some (.int .i64 p) ∧ w.cell? ⟨b, 2, none⟩ = some (.int .i64 f) ∧ w.cell? ⟨b, 3, none⟩ = some (.int .i64 x) ∧ w.cell? ⟨b, 4, none⟩ = some (.slice a n c) := by
  have e := fun j => cell_of_row w b j _ _ _ h
  exact ⟨e 0, e 1, e 2, e 3, e 4⟩
theorem RbIn.froz (h : RbIn w b m p f x a n c) (j : Nat) : w.frozen? ⟨b, j, none⟩ = false := frozen_of_row h j
theorem RbIn.lt (h : RbIn w b m p f x a n c) : b < w.heap.size := World.block_lt_of_cell? w _ h.at.1
theorem RbIn.setM (h : RbIn w b m p f x a n c) (m' : Int) : RbIn (w.setCell ⟨b, 0, none⟩ (.int .i64 m')) b m' p f x a n c := by
  unfold RbIn at *
  have := heap_setAt w b 0 (.int .i64 m') _ _ h
  simpa using this
theorem RbIn.setF (h : RbIn w b m p f x a n c) (f' : Int) : RbIn (w.setCell ⟨b, 2, none⟩ (.int .i64 f')) b m p f' x a n c := by
  unfold RbIn at *
  have := heap_setAt w b 2 (.int .i64 f') _ _ h
  simpa using this
theorem RbIn.setX (h : RbIn w b m p f x a n c) (x' : Int) : RbIn (w.setCell ⟨b, 3, none⟩ (.int .i64 x')) b m p f x' a n c := by
  unfold RbIn at *
  have := heap_setAt w b 3 (.int .i64 x') _ _ h
  simpa using this
theorem RbIn.setP (h : RbIn w b m p f x a n c) (a' : Option Addr) (n' c' : Nat) : RbIn (w.setCell ⟨b, 4, none⟩ (.slice a' n' c')) b m p f x a' n' c' := by
  unfold RbIn at *
  have := heap_setAt w b 4 (.slice a' n' c') _ _ h
  simpa using this
theorem RbIn.range (h : RbIn w b m p f x a n c) : w.rangeAt b 0 (rbL m p f x a n c) := fun j v hv => by
  rw [cell_of_row w b (0 + j) _ _ _ h, Nat.zero_add]
  simpa [rbL] using hv
end
theorem oneRb (m p f x : Int) (a : Option Addr) (n c : Nat) : (#[Value.int .i64 m, Value.int .i64 p, Value.int .i64 f, Value.int .i64 x, Value.slice a n c] : Array Value).all (·.oneCell') = true := by simp [Value.oneCell']
theorem wpList_store_rb {ops : Array Oper} {rest : List Oper} {op : Oper} {A : Act} {w : World} {Q : Exit → Act → World → Prop} {u y : Operand} (ho : op.op = .store 58 u y) (hgd : op.guard = none) (hd : op.dst = none) (b : Nat) (hx : A.eval u = .pointer (some ⟨b, 0, none⟩)) {m p f x : Int} {a : Option Addr} {n c : Nat} (hb : RbIn w b m p f x a n c)
    (m' p' f' x' : Int) (a' : Option Addr) (n' c' : Nat) (hy : A.eval y = .agg #[.int .i64 m', .int .i64 p', .int .i64 f', .int .i64 x', .slice a' n' c']) (h : ∀ w', RbIn w' b m' p' f' x' a' n' c' → Kept [b] w w' → wpList Tryz.prog ops Q rest A w') : wpList Tryz.prog ops Q (op :: rest) A w :=
  wpList_store_rowTo hgd 58 u y ho hd b #[.int .i64 m', .int .i64 p', .int .i64 f', .int .i64 x', .slice a' n' c'] hx hy 58 _ hb (by kernel_rfl) rfl (oneRb m' p' f' x' a' n' c') (h _ (setRow_heap w b _ _ _ _ hb) ((Kept.refl [b] w).setRow (.inl (by simp)) _))
theorem results_rb {fn : Func} {q : Tmp} {tmps : Array Value} {W : World} {b : Nat} {m p f x : Int} {a : Option Addr} {n c : Nat} (h : fn.results = #[.cell q 58]) (hp : tmps.getD q undef = .pointer (some ⟨b, 0, none⟩)) (hc : RbIn W b m p f x a n c) :
    (results fn tmps).run Tryz.prog W = .ok (.agg #[.int .i64 m, .int .i64 p, .int .i64 f, .int .i64 x, .slice a n c]) W := by
  have hl := run_loadVar_mid (P := Tryz.prog) W b 0 58 (rbL m p f x a n c) _ hc.range Tryz.underlying58 rfl (by kernel_rfl)
  rw [Array.getD_eq_getD_getElem?] at hp
  simp [results, h, hp, asAddr, hl, rbL]

/-- A page of a ring: its box, what it is, the blocks that it reaches. -/
structure PgX where
  b : Nat
  s : Sh
  B : List Nat
def ptV (q : Option Addr) : List Value := [.pointer q]
theorem rowPt : RowOf ptV 1 := ⟨by decide, fun _ => rfl, fun v u hu => by
  simp only [ptV, List.mem_cons, List.not_mem_nil, or_false] at hu
  subst hu
  rfl⟩
def ptL (ps : List PgX) : List (Option Addr) := ps.map fun p => some ⟨p.b, 0, none⟩
def ptsV (ps : List PgX) : List Value := rowsV ptV (ptL ps)
def blkP (ps : List PgX) : List Nat := ps.flatMap (·.B)
theorem blkP_mem {ps : List PgX} {y : Nat} : y ∈ blkP ps ↔ ∃ p ∈ ps, y ∈ p.B := by simp [blkP]
theorem blkP_app (ps qs : List PgX) : blkP (ps ++ qs) = blkP ps ++ blkP qs := by simp [blkP]
def Far (ps : List PgX) : Prop := ps.Pairwise (fun p q => ∀ y ∈ p.B, y ∉ q.B)
def shs (ps : List PgX) : List Sh := ps.map (·.s)
/-- A ring's box, its pages' slice, the pages: whatever lines they have. -/
structure RnRaw (w : World) (b : Nat) (m p f x : Int) (P : Nat) (a : Option Addr) (n c : Nat) (ps : List PgX) : Prop where
  box : RbIn w b m p f x a n c
  mid : Mid w a n c 1 (ptsV ps)
  pgs : ∀ q ∈ ps, PG w q.b q.s q.B
  pl : ∀ q ∈ ps, q.s.places = P
  d1 : b ∉ blkC a c
  d2 : b ∉ blkP ps
  d3 : ∀ y ∈ blkC a c, y ∉ blkP ps
  d4 : Far ps
/-- A ring of the program: its box, its pages' slice, the pages. -/
structure RnIs (w : World) (b : Nat) (r : Rg) (a : Option Addr) (n c : Nat) (ps : List PgX) : Prop extends RnRaw w b r.limit r.places r.first r.next r.places a n c ps where
  ls : lnsS (shs ps) = r.ls
  pa : (shs ps).map paS = r.ps
  wf : rgW r
def rnB (b : Nat) (a : Option Addr) (c : Nat) (ps : List PgX) : List Nat := b :: (blkC a c ++ blkP ps)
theorem rnB_mem {b : Nat} {a : Option Addr} {c : Nat} {ps : List PgX} {y : Nat} : y ∈ rnB b a c ps ↔ y = b ∨ y ∈ blkC a c ∨ y ∈ blkP ps := by simp [rnB]
section
variable {w w' : World} {b : Nat} {m p f x : Int} {P : Nat} {a : Option Addr} {n c : Nat} {ps : List PgX}
theorem RnRaw.kept {S : List Nat} (h : RnRaw w b m p f x P a n c ps) (hk : Kept S w w') (hS : ∀ y ∈ rnB b a c ps, y ∉ S) : RnRaw w' b m p f x P a n c ps :=
  ⟨h.box.kept hk (hS b (rnB_mem.2 (.inl rfl))), h.mid.kept hk (fun y hy => hS y (rnB_mem.2 (.inr (.inl hy)))), fun q hq => PG.kept _ _ _ _ _ S (h.pgs q hq) hk (fun y hy => hS y (rnB_mem.2 (.inr (.inr (blkP_mem.2 ⟨q, hq, hy⟩))))), h.pl, h.d1, h.d2, h.d3, h.d4⟩
theorem RnRaw.keep (h : RnRaw w b m p f x P a n c ps) (hk : Kept [] w w') : RnRaw w' b m p f x P a n c ps := h.kept hk (by simp)
theorem RnRaw.lt (h : RnRaw w b m p f x P a n c ps) : ∀ y ∈ rnB b a c ps, y < w.heap.size := fun y hy => by
  rcases rnB_mem.1 hy with rfl | hy | hy
  · exact h.box.lt
  · exact h.mid.lt (by decide) y hy
  · obtain ⟨q, hq, hy⟩ := blkP_mem.1 hy
    exact PG.lt _ _ _ _ (h.pgs q hq) y hy
theorem RnRaw.plen (h : RnRaw w b m p f x P a n c ps) : ps.length = n := by have := h.mid.rowLen rowPt; simpa [ptL] using this
/-- The box alone has changed. -/
theorem RnRaw.boxed {S : List Nat} {m' p' f' x' : Int} (h : RnRaw w b m p f x P a n c ps) (hb : RbIn w' b m' p' f' x' a n c) (hk : Kept S w w') (hS : ∀ y ∈ S, y = b) : RnRaw w' b m' p' f' x' P a n c ps :=
  ⟨hb, h.mid.kept hk (fun y hy hm => by rw [hS y hm] at hy; exact h.d1 hy), fun q hq => PG.kept _ _ _ _ _ S (h.pgs q hq) hk (fun y hy hm => by rw [hS y hm] at hy; exact h.d2 (blkP_mem.2 ⟨q, hq, hy⟩)), h.pl, h.d1, h.d2, h.d3, h.d4⟩
end
section
variable {w w' : World} {b : Nat} {r : Rg} {a : Option Addr} {n c : Nat} {ps : List PgX}
theorem RnIs.kept {S : List Nat} (h : RnIs w b r a n c ps) (hk : Kept S w w') (hS : ∀ y ∈ rnB b a c ps, y ∉ S) : RnIs w' b r a n c ps := ⟨h.toRnRaw.kept hk hS, h.ls, h.pa, h.wf⟩
theorem RnIs.keep (h : RnIs w b r a n c ps) (hk : Kept [] w w') : RnIs w' b r a n c ps := h.kept hk (by simp)
theorem RnIs.lt (h : RnIs w b r a n c ps) : ∀ y ∈ rnB b a c ps, y < w.heap.size := h.toRnRaw.lt
theorem RnIs.plen (h : RnIs w b r a n c ps) : ps.length = n := h.toRnRaw.plen
theorem RnIs.palen (h : RnIs w b r a n c ps) : r.ps.length = n := by rw [← h.pa]; simp [shs, h.plen]
theorem RnIs.llen (h : RnIs w b r a n c ps) : (lnsS (shs ps)).length = r.ls.length := by rw [h.ls]
theorem RnIs.nlen (h : RnIs w b r a n c ps) : r.next = r.first + r.ls.length := rfl
/-- Each page has a line. -/
theorem RnIs.one (h : RnIs w b r a n c ps) : ∀ p ∈ ps, 1 ≤ p.s.ls.length := by
  have hf := h.wf.full
  rw [← h.pa] at hf
  clear h
  induction ps with
  | nil => intro p hp; cases hp
  | cons q ps ih =>
    intro p hp
    rcases List.mem_cons.1 hp with rfl | hp
    · exact (fullP_head hf).1
    · exact ih (fullP_tail hf) p hp
theorem sum_ge : ∀ (ss : List Sh), (∀ s ∈ ss, 1 ≤ s.ls.length) → ss.length ≤ (lnsS ss).length
  | [], _ => Nat.zero_le _
  | s :: ss, h => by
    rw [lnsS_cons, List.length_append, List.length_cons]
    have h1 := h s (by simp)
    have h2 := sum_ge ss (fun t ht => h t (List.mem_cons_of_mem _ ht))
    omega
theorem RnIs.nle (h : RnIs w b r a n c ps) : n ≤ r.ls.length := by
  have h1 := sum_ge (shs ps) (fun s hs => by obtain ⟨p, hp, rfl⟩ := List.mem_map.1 hs; exact h.one p hp)
  rw [h.llen] at h1
  have h2 := h.plen
  simp [shs] at h1
  omega
theorem RnIs.nil (h : RnIs w b r a n c ps) : n = 0 ↔ r.ls = [] := by
  constructor
  · rintro rfl
    have : ps = [] := List.eq_nil_of_length_eq_zero h.plen
    rw [← h.ls, this]
    rfl
  · intro h0
    have := h.nle
    rw [h0] at this
    simpa using this
end
theorem Far.set {ps : List PgX} (h : Far ps) {k : Nat} {p p' : PgX} (hk : ps[k]? = some p) {N : Nat} (hlt : ∀ q ∈ ps, ∀ y ∈ q.B, y < N) (hB : ∀ y ∈ p'.B, y ∈ p.B ∨ N ≤ y) : Far (ps.set k p') := by
  obtain ⟨hl, rfl⟩ := List.getElem?_eq_some_iff.1 hk
  unfold Far at *
  rw [List.pairwise_iff_getElem] at h ⊢
  intro i j hi hj hij y hy hm
  simp only [List.length_set] at hi hj
  rw [List.getElem_set] at hy hm
  split at hy
  · rename_i e
    subst e
    rw [if_neg (by omega)] at hm
    rcases hB y hy with h1 | h1
    · exact h k j hl hj hij y h1 hm
    · have := hlt _ (List.getElem_mem hj) y hm; omega
  · split at hm
    · rename_i e
      subst e
      rcases hB y hm with h1 | h1
      · exact h i k hi hl hij y hy h1
      · have := hlt _ (List.getElem_mem hi) y hy; omega
    · exact h i j hi hj hij y hy hm
theorem Far.ne {ps : List PgX} (h : Far ps) {i j : Nat} (hi : i < ps.length) (hj : j < ps.length) (hij : i ≠ j) : ∀ y ∈ ps[i].B, y ∉ ps[j].B := by
  unfold Far at h
  rw [List.pairwise_iff_getElem] at h
  rcases Nat.lt_or_gt_of_ne hij with h1 | h1
  · exact h i j hi hj h1
  · exact fun y hy hm => h j i hj hi h1 y hm hy
theorem shs_set (ps : List PgX) (k : Nat) (p : PgX) : shs (ps.set k p) = (shs ps).set k p.s := by simp [shs, List.map_set]
theorem shs_get {ps : List PgX} {k : Nat} {s : Sh} (h : (shs ps)[k]? = some s) : ∃ p, ps[k]? = some p ∧ p.s = s := by
  simp only [shs, List.getElem?_map, Option.map_eq_some_iff] at h
  exact h
/-- One page has become another one: the rest of what a ring is in memory. -/
structure Paged (w w' : World) (ps : List PgX) (k : Nat) (p : PgX) (B' : List Nat) (s' : Sh) : Prop where
  pg : PG w' p.b s' B'
  kp : Kept p.B w w'
  nw : ∀ y ∈ B', y ∈ p.B ∨ w.heap.size ≤ y
theorem RnRaw.paged {w w' : World} {b : Nat} {m pl f x : Int} {P : Nat} {a : Option Addr} {n c : Nat} {ps : List PgX} (h : RnRaw w b m pl f x P a n c ps) {k : Nat} {p : PgX} {B' : List Nat} {s' : Sh} (hk : ps[k]? = some p) (hp : Paged w w' ps k p B' s') (hs : s'.places = p.s.places) : RnRaw w' b m pl f x P a n c (ps.set k ⟨p.b, s', B'⟩) := by
  obtain ⟨hl, hpe⟩ := List.getElem?_eq_some_iff.1 hk
  have hmem : p ∈ ps := hpe ▸ List.getElem_mem hl
  have hsub : ∀ y ∈ p.B, y ∈ blkP ps := fun y hy => blkP_mem.2 ⟨p, hmem, hy⟩
  have hlt := h.lt
  have hsz := hp.kp.size
  have hin : ∀ y ∈ blkP (ps.set k ⟨p.b, s', B'⟩), y ∈ blkP ps ∨ w.heap.size ≤ y := fun y hy => by
    obtain ⟨q, hq, hy⟩ := blkP_mem.1 hy
    rcases List.mem_or_eq_of_mem_set hq with hq | rfl
    · exact .inl (blkP_mem.2 ⟨q, hq, hy⟩)
    · exact (hp.nw y hy).imp (hsub y) id
  refine ⟨h.box.kept hp.kp (fun hm => h.d2 (hsub _ hm)), ?_, fun q hq => ?_, fun q hq => ?_, h.d1, fun hm => ?_, fun y hy hm => ?_, h.d4.set hk (fun q hq y hy => hlt y (rnB_mem.2 (.inr (.inr (blkP_mem.2 ⟨q, hq, hy⟩))))) hp.nw⟩
  · have hm := h.mid.kept hp.kp (fun y hy hm => h.d3 y hy (hsub y hm))
    have e : ptL (ps.set k ⟨p.b, s', B'⟩) = ptL ps := by
      unfold ptL
      apply List.ext_getElem?
      intro i
      rw [List.getElem?_map, List.getElem?_map, List.getElem?_set]
      split
      · rename_i e; subst e
        simp [hl, hpe]
      · rfl
    unfold ptsV
    rw [e]
    exact hm
  · obtain ⟨i, hi, rfl⟩ := List.getElem_of_mem hq
    simp only [List.length_set] at hi
    rw [List.getElem_set]
    split
    · exact hp.pg
    · rename_i hne
      exact PG.kept _ _ _ _ _ p.B (h.pgs _ (List.getElem_mem hi)) hp.kp (fun y hy hm => h.d4.ne hi hl (fun e => hne e.symm) y hy (hpe ▸ hm))
  · rcases List.mem_or_eq_of_mem_set hq with hq | rfl
    · exact h.pl q hq
    · exact hs.trans (h.pl p hmem)
  · rcases hin b hm with h1 | h1
    · exact h.d2 h1
    · have := h.box.lt; omega
  · rcases hin y hm with h1 | h1
    · exact h.d3 y hy h1
    · have := h.mid.lt (by decide) y hy; omega
theorem RnIs.paged {w w' : World} {b : Nat} {r r' : Rg} {a : Option Addr} {n c : Nat} {ps : List PgX} (h : RnIs w b r a n c ps) {k : Nat} {p : PgX} {B' : List Nat} {s' : Sh} (hk : ps[k]? = some p) (hp : Paged w w' ps k p B' s')
    (e1 : r'.limit = r.limit) (e2 : r'.places = r.places) (e3 : r'.first = r.first) (e4 : r'.next = r.next) (hs : s'.places = p.s.places) (hls : lnsS ((shs ps).set k s') = r'.ls) (hpa : ((shs ps).set k s').map paS = r'.ps) (hw : rgW r') : RnIs w' b r' a n c (ps.set k ⟨p.b, s', B'⟩) :=
  ⟨by rw [e1, e2, e3, e4]; exact h.toRnRaw.paged hk hp hs, by rw [shs_set]; exact hls, by rw [shs_set]; exact hpa, hw⟩
theorem RnIs.paged_nw {w w' : World} {b : Nat} {a : Option Addr} {c : Nat} {ps : List PgX} {k : Nat} {p : PgX} {B' : List Nat} {s' : Sh} (hk : ps[k]? = some p) (hp : Paged w w' ps k p B' s') : Kept (rnB b a c ps) w w' ∧ ∀ y ∈ rnB b a c (ps.set k ⟨p.b, s', B'⟩), y ∈ rnB b a c ps ∨ w.heap.size ≤ y := by
  obtain ⟨hl, hpe⟩ := List.getElem?_eq_some_iff.1 hk
  have hmem : p ∈ ps := hpe ▸ List.getElem_mem hl
  have hsub : ∀ y ∈ p.B, y ∈ blkP ps := fun y hy => blkP_mem.2 ⟨p, hmem, hy⟩
  refine ⟨hp.kp.mono (fun y hy => .inl (rnB_mem.2 (.inr (.inr (hsub y hy))))), fun y hy => ?_⟩
  rcases rnB_mem.1 hy with hy | hy | hy
  · exact .inl (rnB_mem.2 (.inl hy))
  · exact .inl (rnB_mem.2 (.inr (.inl hy)))
  · obtain ⟨q, hq, hy⟩ := blkP_mem.1 hy
    rcases List.mem_or_eq_of_mem_set hq with hq | rfl
    · exact .inl (rnB_mem.2 (.inr (.inr (blkP_mem.2 ⟨q, hq, hy⟩))))
    · exact (hp.nw y hy).imp (fun h => rnB_mem.2 (.inr (.inr (hsub y h)))) id
/-- The program's ring, and all its blocks. -/
def RN (w : World) (b : Nat) (r : Rg) (B : List Nat) : Prop := ∃ a n c ps, RnIs w b r a n c ps ∧ B = rnB b a c ps ∧ r.ls.length ≤ r.limit
theorem RN.kept {S : List Nat} {w w' : World} {b : Nat} {r : Rg} {B : List Nat} (h : RN w b r B) (hk : Kept S w w') (hS : ∀ y ∈ B, y ∉ S) : RN w' b r B := by
  obtain ⟨a, n, c, ps, h, rfl, hl⟩ := h
  exact ⟨a, n, c, ps, h.kept hk hS, rfl, hl⟩
theorem RN.lt {w : World} {b : Nat} {r : Rg} {B : List Nat} (h : RN w b r B) : ∀ y ∈ B, y < w.heap.size := by
  obtain ⟨a, n, c, ps, h, rfl, hl⟩ := h
  exact h.lt
theorem RN.ok {w : World} {b : Nat} {r : Rg} {B : List Nat} (h : RN w b r B) : rgOk r := by
  obtain ⟨a, n, c, ps, h, rfl, hl⟩ := h
  exact h.wf.ok hl
end Go.Proofs.YtnkddhmhjnhgcaaGreatDoor
