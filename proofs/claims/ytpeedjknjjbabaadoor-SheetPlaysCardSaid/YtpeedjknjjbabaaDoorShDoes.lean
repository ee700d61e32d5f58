/- The law's helper does: a call of the program's page and of the reference's. -/
import Derived.Test.YtpeedjknjjbabaaDoorShHs
namespace Go.Proofs.YtpeedjknjjbabaaDoor
open Go.RowKit
set_option linter.unusedVariables false
set_option linter.unusedSimpArgs false
set_option maxRecDepth 100000

theorem Hs.keepS {w0 w w' : World} {b : Nat} {s : Sh} {B : List Nat} {a : Option Addr} {n c : Nat} {vs : List LnA} {ls : List Ln} {S : List Nat} (h : Hs w0 w b s B a n c vs ls) (h2 : 2 ≤ w0.heap.size) (hk : Kept S w w') (hg : ∀ y ∈ S, w0.heap.size ≤ y) (h1 : ∀ y ∈ B, y ∉ S) (h3 : ∀ y ∈ blkN a n, y ∉ S) (h4 : ∀ y ∈ blks vs, y ∉ S) : Hs w0 w' b s B a n c vs ls :=
  ⟨h.tb.kept2 hk (fun x hx => by have := hg x hx; omega), h.pg.kept _ _ _ _ _ S hk h1, h.ge, h.kp.trans hk (fun x hx => .inr (hg x hx)), h.rd.keptN hk h3 h4, h.nc, h.cm, h.d1, h.d2⟩
/-- What the reference gives: another list, apart from the page. -/
theorem Hs.given {w0 w w' : World} {b : Nat} {s : Sh} {B : List Nat} {a : Option Addr} {n c : Nat} {vs : List LnA} {ls : List Ln} {a' : Option Addr} {n' c' : Nat} {vs' : List LnA} {ls' : List Ln} (h : Hs w0 w b s B a n c vs ls) (hr : LnsR w' a' n' vs' ls') (hnc : n' ≤ c') (hcm : c' ≤ maxLen) (hk : Kept [] w w') (h1 : ∀ y ∈ blkN a' n', y ∈ blkN a n ∨ w.heap.size ≤ y) (h2 : ∀ y ∈ blks vs', y ∈ blks vs ∨ w.heap.size ≤ y) : Hs w0 w' b s B a' n' c' vs' ls' := by
  have hlt := PG.lt _ _ _ _ h.pg
  exact (h.keep hk).list hr hnc hcm (fun y hy hm => (h1 y hy).elim (fun h3 => h.d1 y h3 hm) (fun h3 => by have := hlt y hm; omega)) (fun y hy hm => (h2 y hy).elim (fun h3 => h.d2 y h3 hm) (fun h3 => by have := hlt y hm; omega))
/-- A call of the law: what it is, a number, a line. -/
structure AcA where
  wh : Int
  nm : Int
  a : Option Addr
  n : Nat
  c : Nat
  s : Bool
def acV (u : AcA) : List Value := [.int .i64 u.wh, .int .i64 u.nm, .slice u.a u.n u.c, .bool u.s]
theorem rowAc : RowOf acV 4 := ⟨by decide, fun _ => rfl, fun v u hu => by
  simp only [acV, List.mem_cons, List.not_mem_nil, or_false] at hu
  rcases hu with rfl | rfl | rfl | rfl <;> rfl⟩
def AcIn (W : World) (b : Nat) (u : AcA) : Prop := W.heap[b]? = some (.cells #[.int .i64 u.wh, .int .i64 u.nm, .slice u.a u.n u.c, .bool u.s] 37 (0, 0))
theorem AcIn.new (w : World) (u : AcA) : AcIn (w.alloc (.cells #[.int .i64 u.wh, .int .i64 u.nm, .slice u.a u.n u.c, .bool u.s] 37)) w.heap.size u := heap_alloc_new w _
theorem AcIn.kept {S : List Nat} {w w' : World} {b : Nat} {u : AcA} (h : AcIn w b u) (hk : Kept S w w') (hb : b ∉ S) : AcIn w' b u := hk.heap h hb
theorem AcIn.at {w : World} {b : Nat} {u : AcA} (h : AcIn w b u) : w.cell? ⟨b, 0, none⟩ = some (.int .i64 u.wh) ∧ w.cell? ⟨b, 1, none⟩ = some (.int .i64 u.nm) ∧ w.cell? ⟨b, 2, none⟩ = some (.slice u.a u.n u.c) ∧ w.cell? ⟨b, 3, none⟩ = some (.bool u.s) := by
  have e := fun j => cell_of_row w b j _ _ _ h
  exact ⟨e 0, e 1, e 2, e 3⟩
theorem AcIn.lt {w : World} {b : Nat} {u : AcA} (h : AcIn w b u) : b < w.heap.size := World.block_lt_of_cell? w _ h.at.1
theorem AcIn.range {w : World} {b : Nat} {u : AcA} (h : AcIn w b u) : w.rangeAt b 0 (acV u) := fun j v hv => by
  rw [cell_of_row w b (0 + j) _ _ _ h, Nat.zero_add]
  simpa [acV] using hv
theorem oneAc (u : AcA) : (#[Value.int .i64 u.wh, Value.int .i64 u.nm, Value.slice u.a u.n u.c, Value.bool u.s] : Array Value).all (·.oneCell') = true := by simp [Value.oneCell']
theorem wpList_store_ac {ops : Array Oper} {rest : List Oper} {op : Oper} {A : Act} {w : World} {Q : Exit → Act → World → Prop} {x y : Operand} (ho : op.op = .store 37 x y) (hgd : op.guard = none) (hd : op.dst = none) (b : Nat) (hx : A.eval x = .pointer (some ⟨b, 0, none⟩)) {u : AcA} (hb : AcIn w b u)
    (v : AcA) (hy : A.eval y = .agg #[.int .i64 v.wh, .int .i64 v.nm, .slice v.a v.n v.c, .bool v.s]) (h : ∀ w', AcIn w' b v → Kept [b] w w' → wpList Tryd.prog ops Q rest A w') : wpList Tryd.prog ops Q (op :: rest) A w :=
  wpList_store_rowTo hgd 37 x y ho hd b #[.int .i64 v.wh, .int .i64 v.nm, .slice v.a v.n v.c, .bool v.s] hx hy 37 _ hb (by kernel_rfl) rfl (oneAc v) (h _ (setRow_heap w b _ _ _ _ hb) ((Kept.refl [b] w).setRow (.inl (by simp)) _))
theorem results_does {fn : Func} {p q u : Tmp} {tmps : Array Value} {W : World} {b : Nat} {pl g : Int} {a : Option Addr} {n c : Nat} (h : fn.results = #[.tmp p, .cell q 32, .tmp u]) (hq : tmps.getD q undef = .pointer (some ⟨b, 0, none⟩)) (hc : ShIn W b pl g a n c) {v v2 : Value} (hp : tmps.getD p undef = v) (hu : tmps.getD u undef = v2) :
    (results fn tmps).run Tryd.prog W = .ok (.tuple #[v, .agg #[.int .i64 pl, .int .i64 g, .slice a n c], v2]) W := by
  have hl := run_loadVar_mid (P := Tryd.prog) W b 0 32 (shL pl g a n c) _ hc.range Tryd.underlying32 rfl (by kernel_rfl)
  rw [Array.getD_eq_getD_getElem?] at hp hq hu
  simp [results, h, hp, hq, hu, asAddr, hl, shL]
/-- What does returns: the page and the list that go on, which lie apart; all that has changed lay in the page's blocks. -/
def DoesRet (w0 w : World) (B : List Nat) (a : Option Addr) (n : Nat) (vs : List LnA) (e : Ending) (w' : World) : Prop :=
  ∃ b' s' B' a' n' c' vs', e = .returned (.tuple #[.pointer (some ⟨b', 0, none⟩), .agg #[.int .i64 (s'.places : Nat), .int .i64 (s'.gone : Nat), .slice a' n' c'], .bool true]) ∧ Hs w0 w' b' s' B' a' n' c' vs' s'.ls ∧ Kept B w w' ∧ (∀ y ∈ B', y ∈ B ∨ w.heap.size ≤ y) ∧ (∀ y ∈ blkN a' n', y ∈ blkN a n ∨ w.heap.size ≤ y) ∧ (∀ y ∈ blks vs', y ∈ blks vs ∨ w.heap.size ≤ y)
end Go.Proofs.YtpeedjknjjbabaaDoor
