/- Words and runs in memory; words and runs that are compared. -/
import Derived.Test.YtpdjlollijbdeaaDoorPakMath
import Derived.Test.YtpdjlollijbdeaaDoorRowy
import Derived.Test.YtpdjlollijbdeaaDoorCelEq
import Derived.Test.YtpdjlollijbdeaaDoorCelSl
namespace Go.Proofs.YtpdjlollijbdeaaDoor
open Go.RowKit
set_option linter.unusedVariables false

def runL (r : Ru) : List Value := [.int .i64 r.n, .int .u64 r.w.a, .int .u64 r.w.b, .int .u64 r.w.c]
theorem rowRun : RowOf runL 4 := ⟨by decide, fun _ => rfl, fun x u hu => by
  simp only [runL, List.mem_cons, List.not_mem_nil, or_false] at hu
  rcases hu with rfl | rfl | rfl | rfl <;> rfl⟩
def runsV (l : List Ru) : List Value := rowsV runL l
theorem elRun : ElemT Tryd.prog 43 67 (.agg #[.int .i64 0, .int .u64 0, .int .u64 0, .int .u64 0]) 4 32 := ⟨Tryd.underlying43, by kernel_rfl, rfl, by decide, by decide⟩

/-- A box of words, of a run; a run in a slice. -/
def W3At (W : World) (b : Nat) (w : W3) : Prop := W.cell? ⟨b, 0, none⟩ = some (.int .u64 w.a) ∧ W.cell? ⟨b, 1, none⟩ = some (.int .u64 w.b) ∧ W.cell? ⟨b, 2, none⟩ = some (.int .u64 w.c)
theorem W3At.kept {S : List Nat} {w w' : World} {b : Nat} {c : W3} (h : W3At w b c) (hk : Kept S w w') (hb : b ∉ S) : W3At w' b c :=
  ⟨hk.cell h.1 hb, hk.cell h.2.1 hb, hk.cell h.2.2 hb⟩
theorem W3At.new (w : World) (c : W3) : W3At (w.alloc (.cells #[.int .u64 c.a, .int .u64 c.b, .int .u64 c.c] 34)) w.heap.size c := by
  have e := fun j => cell_of_row _ w.heap.size j _ _ _ (heap_alloc_new w (.cells #[.int .u64 c.a, .int .u64 c.b, .int .u64 c.c] 34))
  exact ⟨e 0, e 1, e 2⟩
def RunIn (W : World) (b : Nat) (r : Ru) : Prop := W.heap[b]? = some (.cells #[.int .i64 r.n, .int .u64 r.w.a, .int .u64 r.w.b, .int .u64 r.w.c] 67 (0, 0))
def RunAt (W : World) (b : Nat) (r : Ru) : Prop := W.cell? ⟨b, 0, none⟩ = some (.int .i64 r.n) ∧ W.cell? ⟨b, 1, none⟩ = some (.int .u64 r.w.a) ∧ W.cell? ⟨b, 2, none⟩ = some (.int .u64 r.w.b) ∧ W.cell? ⟨b, 3, none⟩ = some (.int .u64 r.w.c)
def RunAtO (W : World) (b o : Nat) (r : Ru) : Prop := W.cell? ⟨b, o, none⟩ = some (.int .i64 r.n) ∧ W.cell? ⟨b, o + 1, none⟩ = some (.int .u64 r.w.a) ∧ W.cell? ⟨b, o + 2, none⟩ = some (.int .u64 r.w.b) ∧ W.cell? ⟨b, o + 3, none⟩ = some (.int .u64 r.w.c)
theorem RunIn.new (w : World) (r : Ru) : RunIn (w.alloc (.cells #[.int .i64 r.n, .int .u64 r.w.a, .int .u64 r.w.b, .int .u64 r.w.c] 67)) w.heap.size r := heap_alloc_new w _
theorem RunIn.kept {S : List Nat} {w w' : World} {b : Nat} {r : Ru} (h : RunIn w b r) (hk : Kept S w w') (hb : b ∉ S) : RunIn w' b r := hk.heap h hb
theorem RunIn.at {w : World} {b : Nat} {r : Ru} (h : RunIn w b r) : RunAt w b r := by
  have e := fun j => cell_of_row w b j _ _ _ h
  exact ⟨e 0, e 1, e 2, e 3⟩
theorem RunAt.kept {S : List Nat} {w w' : World} {b : Nat} {r : Ru} (h : RunAt w b r) (hk : Kept S w w') (hb : b ∉ S) : RunAt w' b r :=
  ⟨hk.cell h.1 hb, hk.cell h.2.1 hb, hk.cell h.2.2.1 hb, hk.cell h.2.2.2 hb⟩
theorem RunAtO.kept {S : List Nat} {w w' : World} {b o : Nat} {r : Ru} (h : RunAtO w b o r) (hk : Kept S w w') (hb : b ∉ S) : RunAtO w' b o r :=
  ⟨hk.cell h.1 hb, hk.cell h.2.1 hb, hk.cell h.2.2.1 hb, hk.cell h.2.2.2 hb⟩
theorem RunIn.range {w : World} {b : Nat} {r : Ru} (h : RunIn w b r) : w.rangeAt b 0 (runL r) := fun j v hv => by
  rw [cell_of_row w b (0 + j) _ _ _ h, Nat.zero_add]
  simpa [runL] using hv
theorem run_at {w : World} {b o : Nat} {r : Ru} (h : w.rangeAt b o (runL r)) : RunAtO w b o r := ⟨h 0 _ rfl, h 1 _ rfl, h 2 _ rfl, h 3 _ rfl⟩
theorem Rd.run {w : World} {b o n : Nat} {l : List Ru} (hr : Rd w (some ⟨b, o, none⟩) n 4 (runsV l)) (i : Nat) (hi : i < l.length) : RunAtO w b (o + i * 4) l[i] := run_at (hr.row rowRun i hi)
theorem Rd.runs {w : World} {a : Option Addr} {n : Nat} {l : List Ru} (hr : Rd w a n 4 (runsV l)) : l.length = n := hr.rowLen rowRun
theorem Rd.runAddr {w : World} {a : Option Addr} {n : Nat} {l : List Ru} (hr : Rd w a n 4 (runsV l)) (hn : 0 < l.length) : ∃ b o, a = some ⟨b, o, none⟩ := hr.rowAddr rowRun hn

/-- Comparing. -/
theorem eqW3 (d : Nat) (p q : W3) (w : World) : (Op.equalIn (d + 2) 34 (.agg #[.int .u64 p.a, .int .u64 p.b, .int .u64 p.c]) (.agg #[.int .u64 q.a, .int .u64 q.b, .int .u64 q.c])).run Tryd.prog w = .ok (decide (p = q)) w := by
  have u3 := Tryd.underlying33
  have a3 := Tryd.isAgg33
  have z3 := Tryd.sizeOf33
  rw [Op.equalIn]
  simp only [Sem.run_bind, run_underlying Tryd.underlying34, Result.andThen_ok]
  simp only [Std.Legacy.Range.forIn_eq_forIn_range', Std.Legacy.Range.size, Nat.sub_zero, Nat.add_sub_cancel, Nat.div_one, List.range'_succ, List.range'_zero, List.forIn_cons, List.forIn_nil]
  go_simp
  obtain ⟨a0, a1, a2⟩ := p
  obtain ⟨b0, b1, b2⟩ := q
  simp only [W3.mk.injEq]
  by_cases h0 : a0 = b0 <;> by_cases h1 : a1 = b1 <;> by_cases h2 : a2 = b2 <;> simp [h0, h1, h2]
theorem eqRun (d : Nat) (p q : Ru) (w : World) : (Op.equalIn (d + 4) 67 (.agg #[.int .i64 p.n, .int .u64 p.w.a, .int .u64 p.w.b, .int .u64 p.w.c]) (.agg #[.int .i64 q.n, .int .u64 q.w.a, .int .u64 q.w.b, .int .u64 q.w.c])).run Tryd.prog w = .ok (decide (p = q)) w := by
  have hM : ∀ (a0 a1 a2 b0 b1 b2 : Int) w, (Op.equalIn (d + 3) 34 (.agg #[.int .u64 a0, .int .u64 a1, .int .u64 a2]) (.agg #[.int .u64 b0, .int .u64 b1, .int .u64 b2])).run Tryd.prog w = .ok (decide ((⟨a0, a1, a2⟩ : W3) = ⟨b0, b1, b2⟩)) w := fun a0 a1 a2 b0 b1 b2 w => eqW3 (d + 1) ⟨a0, a1, a2⟩ ⟨b0, b1, b2⟩ w
  rw [run_equalIn_struct w (d + 3) 67 _ _ (by kernel_rfl) (by kernel_rfl)]
  go_simp
  obtain ⟨c0, a0, a1, a2⟩ := p
  obtain ⟨e0, b0, b1, b2⟩ := q
  simp only [Ru.mk.injEq, W3.mk.injEq]
  by_cases h0 : c0 = e0 <;> by_cases h1 : a0 = b0 <;> by_cases h2 : a1 = b1 <;> by_cases h3 : a2 = b2 <;> simp [h0, h1, h2, h3]
theorem eql_W (p q : W3) (w : World) : (binOp .eql 34 (.agg #[.int .u64 p.a, .int .u64 p.b, .int .u64 p.c]) (.agg #[.int .u64 q.a, .int .u64 q.b, .int .u64 q.c])).run Tryd.prog w = .ok (.bool (decide (p = q))) w := by
  have h := eqW3 9998 p q w
  simp only [binOp]
  simp [Op.equal, Op.maxDepth, h]
theorem neq_W (p q : W3) (w : World) : (binOp .neq 34 (.agg #[.int .u64 p.a, .int .u64 p.b, .int .u64 p.c]) (.agg #[.int .u64 q.a, .int .u64 q.b, .int .u64 q.c])).run Tryd.prog w = .ok (.bool (!decide (p = q))) w := by
  have h := eqW3 9998 p q w
  simp only [binOp]
  simp [Op.equal, Op.maxDepth, h]
theorem neq_R (p q : Ru) (w : World) : (binOp .neq 67 (.agg #[.int .i64 p.n, .int .u64 p.w.a, .int .u64 p.w.b, .int .u64 p.w.c]) (.agg #[.int .i64 q.n, .int .u64 q.w.a, .int .u64 q.w.b, .int .u64 q.w.c])).run Tryd.prog w = .ok (.bool (!decide (p = q))) w := by
  have h := eqRun 9996 p q w
  simp only [binOp]
  simp [Op.equal, Op.maxDepth, h]
end Go.Proofs.YtpdjlollijbdeaaDoor
