/- Cells, pens, marks that are compared. -/
import Derived.Test.YtnkddhmhjnhgcaaGreatDoorCelMem
import Derived.Laws.StructEq
namespace Go.Proofs.YtnkddhmhjnhgcaaGreatDoor
open Go.RowKit
set_option linter.unusedVariables false

theorem ite_dec (p : Prop) [Decidable p] (w : World) : (if p then Result.ok true w else Result.ok false w) = Result.ok (decide p) w := by split <;> simp_all
theorem ite_step (p q : Prop) [Decidable p] [Decidable q] (w : World) : (if p then Result.ok (decide q) w else Result.ok false w) = Result.ok (decide (p ∧ q)) w := by split <;> simp_all
theorem ite_back (a b c q : Prop) [Decidable a] [Decidable b] [Decidable c] [Decidable q] (w : World) : (if a → b → ¬c then Result.ok false w else Result.ok (decide q) w) = Result.ok (decide (a ∧ b ∧ c ∧ q)) w := by
  by_cases h0 : a <;> by_cases h1 : b <;> by_cases h2 : c <;> simp [h0, h1, h2]
theorem eqM (d : Nat) (a0 a1 a2 b0 b1 b2 : Int) (w : World) : (Op.equalIn (d + 2) 78 (.agg #[.int .i32 a0, .int .i32 a1, .int .i32 a2]) (.agg #[.int .i32 b0, .int .i32 b1, .int .i32 b2])).run Tryz.prog w = .ok (decide (a0 = b0 ∧ a1 = b1 ∧ a2 = b2)) w := by
  have u3 := Tryz.underlying21
  have a3 := Tryz.isAgg21
  have z3 := Tryz.sizeOf21
  rw [Op.equalIn]
  simp only [Sem.run_bind, run_underlying Tryz.underlying78, Result.andThen_ok]
  simp only [Std.Legacy.Range.forIn_eq_forIn_range', Std.Legacy.Range.size, Nat.sub_zero, Nat.add_sub_cancel, Nat.div_one, List.range'_succ, List.range'_zero, List.forIn_cons, List.forIn_nil]
  go_simp
  by_cases h0 : a0 = b0 <;> by_cases h1 : a1 = b1 <;> by_cases h2 : a2 = b2 <;> simp [h0, h1, h2]
theorem eqPen (d : Nat) (p q : Pn) (w : World) : (Op.equalIn (d + 3) 84 (.agg #[.int .i64 p.f.k, .int .u8 p.f.i, .int .u8 p.f.r, .int .u8 p.f.g, .int .u8 p.f.b, .int .i64 p.b.k, .int .u8 p.b.i, .int .u8 p.b.r, .int .u8 p.b.g, .int .u8 p.b.b, .int .u8 p.fl]) (.agg #[.int .i64 q.f.k, .int .u8 q.f.i, .int .u8 q.f.r, .int .u8 q.f.g, .int .u8 q.f.b, .int .i64 q.b.k, .int .u8 q.b.i, .int .u8 q.b.r, .int .u8 q.b.g, .int .u8 q.b.b, .int .u8 q.fl])).run Tryz.prog w = .ok (decide (p = q)) w := by
  rw [run_equalIn_struct w (d + 2) 84 _ _ (by kernel_rfl) (by kernel_rfl)]
  go_simp
  simp only [ite_dec, ite_step]
  congr 1
  rw [decide_eq_decide]
  obtain ⟨⟨a0, a1, a2, a3, a4⟩, ⟨a5, a6, a7, a8, a9⟩, a10⟩ := p
  obtain ⟨⟨b0, b1, b2, b3, b4⟩, ⟨b5, b6, b7, b8, b9⟩, b10⟩ := q
  simp only [Pn.mk.injEq, Col.mk.injEq, and_assoc]
theorem eqCel (d : Nat) (p q : Cl) (w : World) : (Op.equalIn (d + 4) 86 (.agg #[.int .i32 p.r, .int .i32 p.m0, .int .i32 p.m1, .int .i32 p.m2, .int .i64 p.w, .int .i64 p.p.f.k, .int .u8 p.p.f.i, .int .u8 p.p.f.r, .int .u8 p.p.f.g, .int .u8 p.p.f.b, .int .i64 p.p.b.k, .int .u8 p.p.b.i, .int .u8 p.p.b.r, .int .u8 p.p.b.g, .int .u8 p.p.b.b, .int .u8 p.p.fl]) (.agg #[.int .i32 q.r, .int .i32 q.m0, .int .i32 q.m1, .int .i32 q.m2, .int .i64 q.w, .int .i64 q.p.f.k, .int .u8 q.p.f.i, .int .u8 q.p.f.r, .int .u8 q.p.f.g, .int .u8 q.p.f.b, .int .i64 q.p.b.k, .int .u8 q.p.b.i, .int .u8 q.p.b.r, .int .u8 q.p.b.g, .int .u8 q.p.b.b, .int .u8 q.p.fl])).run Tryz.prog w = .ok (decide (p = q)) w := by
  have hM : ∀ (a0 a1 a2 b0 b1 b2 : Int) w, (Op.equalIn (d + 3) 78 (.agg #[.int .i32 a0, .int .i32 a1, .int .i32 a2]) (.agg #[.int .i32 b0, .int .i32 b1, .int .i32 b2])).run Tryz.prog w = .ok (decide (a0 = b0 ∧ a1 = b1 ∧ a2 = b2)) w := fun a0 a1 a2 b0 b1 b2 w => eqM (d + 1) a0 a1 a2 b0 b1 b2 w
  rw [run_equalIn_struct w (d + 3) 86 _ _ (by kernel_rfl) (by kernel_rfl)]
  go_simp
  simp only [ite_dec, ite_step, ite_back]
  congr 1
  rw [decide_eq_decide]
  obtain ⟨c0, c1, c2, c3, c4, ⟨a0, a1, a2, a3, a4⟩, ⟨a5, a6, a7, a8, a9⟩, a10⟩ := p
  obtain ⟨e0, e1, e2, e3, e4, ⟨b0, b1, b2, b3, b4⟩, ⟨b5, b6, b7, b8, b9⟩, b10⟩ := q
  simp only [Cl.mk.injEq, Pn.mk.injEq, Col.mk.injEq, and_assoc]
/-- As the walk meets them. -/
theorem eql_M (a0 a1 a2 b0 b1 b2 : Int) (w : World) : (binOp .eql 78 (.agg #[.int .i32 a0, .int .i32 a1, .int .i32 a2]) (.agg #[.int .i32 b0, .int .i32 b1, .int .i32 b2])).run Tryz.prog w = .ok (.bool (decide (a0 = b0 ∧ a1 = b1 ∧ a2 = b2))) w := by
  have h := eqM 9998 a0 a1 a2 b0 b1 b2 w
  simp only [binOp]
  simp [Op.equal, Op.maxDepth, h]
theorem eql_K (p q : Cl) (w : World) : (binOp .eql 86 (.agg #[.int .i32 p.r, .int .i32 p.m0, .int .i32 p.m1, .int .i32 p.m2, .int .i64 p.w, .int .i64 p.p.f.k, .int .u8 p.p.f.i, .int .u8 p.p.f.r, .int .u8 p.p.f.g, .int .u8 p.p.f.b, .int .i64 p.p.b.k, .int .u8 p.p.b.i, .int .u8 p.p.b.r, .int .u8 p.p.b.g, .int .u8 p.p.b.b, .int .u8 p.p.fl]) (.agg #[.int .i32 q.r, .int .i32 q.m0, .int .i32 q.m1, .int .i32 q.m2, .int .i64 q.w, .int .i64 q.p.f.k, .int .u8 q.p.f.i, .int .u8 q.p.f.r, .int .u8 q.p.f.g, .int .u8 q.p.f.b, .int .i64 q.p.b.k, .int .u8 q.p.b.i, .int .u8 q.p.b.r, .int .u8 q.p.b.g, .int .u8 q.p.b.b, .int .u8 q.p.fl])).run Tryz.prog w = .ok (.bool (decide (p = q))) w := by
  have h := eqCel 9996 p q w
  simp only [binOp]
  simp [Op.equal, Op.maxDepth, h]
theorem neq_K (p q : Cl) (w : World) : (binOp .neq 86 (.agg #[.int .i32 p.r, .int .i32 p.m0, .int .i32 p.m1, .int .i32 p.m2, .int .i64 p.w, .int .i64 p.p.f.k, .int .u8 p.p.f.i, .int .u8 p.p.f.r, .int .u8 p.p.f.g, .int .u8 p.p.f.b, .int .i64 p.p.b.k, .int .u8 p.p.b.i, .int .u8 p.p.b.r, .int .u8 p.p.b.g, .int .u8 p.p.b.b, .int .u8 p.p.fl]) (.agg #[.int .i32 q.r, .int .i32 q.m0, .int .i32 q.m1, .int .i32 q.m2, .int .i64 q.w, .int .i64 q.p.f.k, .int .u8 q.p.f.i, .int .u8 q.p.f.r, .int .u8 q.p.f.g, .int .u8 q.p.f.b, .int .i64 q.p.b.k, .int .u8 q.p.b.i, .int .u8 q.p.b.r, .int .u8 q.p.b.g, .int .u8 q.p.b.b, .int .u8 q.p.fl])).run Tryz.prog w = .ok (.bool (!decide (p = q))) w := by
  have h := eqCel 9996 p q w
  simp only [binOp]
  simp [Op.equal, Op.maxDepth, h]
theorem neq_P (p q : Pn) (w : World) : (binOp .neq 84 (.agg #[.int .i64 p.f.k, .int .u8 p.f.i, .int .u8 p.f.r, .int .u8 p.f.g, .int .u8 p.f.b, .int .i64 p.b.k, .int .u8 p.b.i, .int .u8 p.b.r, .int .u8 p.b.g, .int .u8 p.b.b, .int .u8 p.fl]) (.agg #[.int .i64 q.f.k, .int .u8 q.f.i, .int .u8 q.f.r, .int .u8 q.f.g, .int .u8 q.f.b, .int .i64 q.b.k, .int .u8 q.b.i, .int .u8 q.b.r, .int .u8 q.b.g, .int .u8 q.b.b, .int .u8 q.fl])).run Tryz.prog w = .ok (.bool (!decide (p = q))) w := by
  have h := eqPen 9997 p q w
  simp only [binOp]
  simp [Op.equal, Op.maxDepth, h]
end Go.Proofs.YtnkddhmhjnhgcaaGreatDoor
