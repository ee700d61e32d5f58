/- The small functions of layer 5. -/
import Derived.Test.YtpdjlollijbdeaaDoorPakMem
namespace Go.Proofs.YtpdjlollijbdeaaDoor
open Go.RowKit
set_option linter.unusedVariables false

theorem runeOf_any (v : Int) (h : U64 v) (w : World) : Calls Tryd.prog 49 #[.int .u64 v] w fun e w' => e = .returned (.int .i32 (v % 2097152)) ∧ w' = w := by
  obtain ⟨h0, h1⟩ := h
  have hA : bits .and .u64 v 2097151 = v % 2097152 := and64 21 (by decide) (by decide) h0 h1
  go_enter Tryd.func49, Tryd.ntmps49
  go_wp2_with fail
  go_ret
  exact ⟨ret_int (by first | rfl | (rw [IntKind.wrap_i32]; omega)), rfl⟩

set_option maxHeartbeats 1000000 in
theorem marksOf_any (v : Int) (h : U64 v) (w : World) : Calls Tryd.prog 50 #[.int .u64 v] w fun e w' => e = .returned (.agg #[.int .i32 (v % 2097152), .int .i32 (v / 2097152 % 2097152), .int .i32 (v / 4398046511104 % 2097152)]) ∧ Kept [] w w' := by
  have h0 := h.1
  have h1 := h.2
  have hR0 := hide (fun w1 => runeOf_any v h w1)
  have hR1 := hide (fun w1 => runeOf_any (v / 2097152) ⟨by omega, by omega⟩ w1)
  have hR2 := hide (fun w1 => runeOf_any (v / 4398046511104) ⟨by omega, by omega⟩ w1)
  clear h
  go_enter Tryd.func50, Tryd.ntmps50
  go_upto_region 3 with fail
  refine wp_loop_rounds 4 ?_
  rw [rounds_succ]
  go_wp2_with fail
  refine (hR0.out _).mono ?_
  rintro e w1 ⟨rfl, rfl⟩
  go_wp2_with fail
  rw [rounds_succ]
  go_wp2_with fail
  refine (hR1.out _).mono ?_
  rintro e w1 ⟨rfl, rfl⟩
  go_wp2_with fail
  rw [rounds_succ]
  go_wp2_with fail
  refine (hR2.out _).mono ?_
  rintro e w1 ⟨rfl, rfl⟩
  go_wp2_with fail
  rw [rounds_succ]
  go_wp2_with fail
  refine bodyPost_ret (v := .agg #[.int .i32 (v % 2097152), .int .i32 (v / 2097152 % 2097152), .int .i32 (v / 4398046511104 % 2097152)]) (by simp [results, Tryd.results50, go_sem]) rfl ?_
  exact ⟨rfl, ((Kept.refl _ _).alloc _).alloc _⟩

theorem or_comm64 (x y : Int) : bits .or .u64 x y = bits .or .u64 y x := by
  show IntKind.u64.wrap ((BitVec.ofInt 64 x ||| BitVec.ofInt 64 y).toNat : Int) = IntKind.u64.wrap ((BitVec.ofInt 64 y ||| BitVec.ofInt 64 x).toNat : Int)
  rw [BitVec.or_comm]
theorem marks_math {a b c : Int} (ha : R21 a) (hb : R21 b) (hc : R21 c) : bits .or .u64 (bits .or .u64 (bits .or .u64 0 a) (b * 2097152)) (c * 4398046511104) = a + 2097152 * (b + 2097152 * c) := by
  obtain ⟨a0, a1⟩ := ha
  obtain ⟨b0, b1⟩ := hb
  obtain ⟨c0, c1⟩ := hc
  rw [or64 21 (x := 0) (y := a) (by omega) (by omega) (by omega) (by omega) (by omega) (by omega), or_comm64 (0 + a), or64 21 (x := b * 2097152) (y := 0 + a) (by omega) (by omega) (by omega) (by omega) (by omega) (by omega), or_comm64 _ (c * 4398046511104),
    or64 42 (x := c * 4398046511104) (by omega) (by omega) (by omega) (by omega) (by omega) (by omega)]
  omega
theorem word_math {r w : Int} (hr : R21 r) (h0 : 0 ≤ w) (h2 : w ≤ 2) : bits .or .u64 r (w * 2097152) = r + 2097152 * w := by
  obtain ⟨a0, a1⟩ := hr
  rw [or_comm64, or64 21 (x := w * 2097152) (by omega) (by omega) (by omega) (by omega) (by omega) (by omega)]
  omega
def W3In (W : World) (b : Nat) (w : W3) : Prop := W.heap[b]? = some (.cells #[.int .u64 w.a, .int .u64 w.b, .int .u64 w.c] 34 (0, 0))
theorem W3In.kept {S : List Nat} {w w' : World} {b : Nat} {c : W3} (h : W3In w b c) (hk : Kept S w w') (hb : b ∉ S) : W3In w' b c := hk.heap h hb
theorem W3In.at {w : World} {b : Nat} {c : W3} (h : W3In w b c) : W3At w b c := by
  have e := fun j => cell_of_row w b j _ _ _ h
  exact ⟨e 0, e 1, e 2⟩
def W3F (W : World) (b : Nat) (w : W3) : Prop := (W.cell? ⟨b, 0, none⟩ = some (.int .u64 w.a) ∧ W.cell? ⟨b, 1, none⟩ = some (.int .u64 w.b) ∧ W.cell? ⟨b, 2, none⟩ = some (.int .u64 w.c)) ∧ W.frozen? ⟨b, 0, none⟩ = false ∧ W.frozen? ⟨b, 1, none⟩ = false ∧ W.frozen? ⟨b, 2, none⟩ = false
theorem W3In.f {w : World} {b : Nat} {c : W3} (h : W3In w b c) : W3F w b c := by
  have e : ∀ i, w.frozen? ⟨b, i, none⟩ = false := fun i => by unfold World.frozen?; rw [h]; simp
  obtain ⟨h0, h1, h2⟩ := h.at
  exact ⟨⟨h0, h1, h2⟩, e 0, e 1, e 2⟩
theorem oneW (c : W3) : (#[.int .u64 c.a, .int .u64 c.b, .int .u64 c.c] : Array Value).all (·.oneCell') = true := by simp [Value.oneCell']
theorem wpList_store_w3 {ops : Array Oper} {rest : List Oper} {op : Oper} {a : Act} {w : World} {Q : Exit → Act → World → Prop} {x y : Operand} (ho : op.op = .store 34 x y) (hgd : op.guard = none) (hd : op.dst = none) (b : Nat) (hx : a.eval x = .pointer (some ⟨b, 0, none⟩)) {c : W3} (hb : W3In w b c)
    (d : W3) (hy : a.eval y = .agg #[.int .u64 d.a, .int .u64 d.b, .int .u64 d.c]) (h : ∀ w', W3In w' b d → Kept [b] w w' → wpList Tryd.prog ops Q rest a w') : wpList Tryd.prog ops Q (op :: rest) a w :=
  wpList_store_rowTo hgd 34 x y ho hd b #[.int .u64 d.a, .int .u64 d.b, .int .u64 d.c] hx hy 34 _ hb (by kernel_rfl) rfl (oneW d) (h _ (setRow_heap w b _ _ _ _ hb) ((Kept.refl [b] w).setRow (.inl (by simp)) _))
theorem wp_store_w3 {op : Oper} {a : Act} {w : World} {K : Act → World → Prop} {Q : Exit → Act → World → Prop} {x y : Operand} (ho : op.op = .store 34 x y) (hd : op.dst = none) (b : Nat) (hx : a.eval x = .pointer (some ⟨b, 0, none⟩)) {c : W3} (hb : W3In w b c)
    (d : W3) (hy : a.eval y = .agg #[.int .u64 d.a, .int .u64 d.b, .int .u64 d.c]) (h : ∀ w', W3In w' b d → Kept [b] w w' → K a w') : op.wp Tryd.prog a w K Q :=
  wp_store_row 34 x y ho b #[.int .u64 d.a, .int .u64 d.b, .int .u64 d.c] hx hy 34 _ hb (by kernel_rfl) rfl (oneW d) (by rw [hd]; exact h _ (setRow_heap w b _ _ _ _ hb) ((Kept.refl [b] w).setRow (.inl (by simp)) _))
def w3L (c : W3) : List Value := [.int .u64 c.a, .int .u64 c.b, .int .u64 c.c]
theorem W3In.range {w : World} {b : Nat} {c : W3} (h : W3In w b c) : w.rangeAt b 0 (w3L c) := fun j v hv => by
  rw [cell_of_row w b (0 + j) _ _ _ h, Nat.zero_add]
  simpa [w3L] using hv
theorem results_w3 {fn : Func} {p : Tmp} {tmps : Array Value} {W : World} {b : Nat} {c : W3} (h : fn.results = #[.cell p 34]) (hp : tmps.getD p undef = .pointer (some ⟨b, 0, none⟩)) (hc : W3In W b c) :
    (results fn tmps).run Tryd.prog W = .ok (.agg #[.int .u64 c.a, .int .u64 c.b, .int .u64 c.c]) W := by
  have hl := run_loadVar_mid (P := Tryd.prog) W b 0 34 (w3L c) _ hc.range Tryd.underlying34 rfl (by kernel_rfl)
  rw [Array.getD_eq_getD_getElem?] at hp
  simp [results, h, hp, asAddr, hl, w3L]
theorem results_w3e {fn : Func} {p u : Tmp} {tmps : Array Value} {W : World} {b : Nat} {c : W3} (h : fn.results = #[.cell p 34, .tmp u]) (hp : tmps.getD p undef = .pointer (some ⟨b, 0, none⟩)) (hc : W3In W b c) {v : Value} (hu : tmps.getD u undef = v) :
    (results fn tmps).run Tryd.prog W = .ok (.tuple #[.agg #[.int .u64 c.a, .int .u64 c.b, .int .u64 c.c], v]) W := by
  have hl := run_loadVar_mid (P := Tryd.prog) W b 0 34 (w3L c) _ hc.range Tryd.underlying34 rfl (by kernel_rfl)
  rw [Array.getD_eq_getD_getElem?] at hp hu
  simp [results, h, hp, hu, asAddr, hl, w3L]
theorem m3_at0 (a b c : Int) (w : World) : (Instr.index 22 (.agg #[.int .i32 a, .int .i32 b, .int .i32 c]) (.int .i64 0)).run Tryd.prog w = .ok (.int .i32 a) w := by kernel_rfl
theorem m3_at1 (a b c : Int) (w : World) : (Instr.index 22 (.agg #[.int .i32 a, .int .i32 b, .int .i32 c]) (.int .i64 1)).run Tryd.prog w = .ok (.int .i32 b) w := by kernel_rfl
theorem m3_at2 (a b c : Int) (w : World) : (Instr.index 22 (.agg #[.int .i32 a, .int .i32 b, .int .i32 c]) (.int .i64 2)).run Tryd.prog w = .ok (.int .i32 c) w := by kernel_rfl
set_option maxRecDepth 10000 in
set_option maxHeartbeats 1000000 in
theorem marksWord_any (a b c : Int) (ha : R21 a) (hb : R21 b) (hc : R21 c) (w : World) : Calls Tryd.prog 41 #[.agg #[.int .i32 a, .int .i32 b, .int .i32 c]] w fun e w' => e = .returned (.int .u64 (a + 2097152 * (b + 2097152 * c))) ∧ Kept [] w w' := by
  obtain ⟨a0, a1⟩ := ha
  obtain ⟨b0, b1⟩ := hb
  obtain ⟨c0, c1⟩ := hc
  have i0 := fun w => m3_at0 a b c w
  have i1 := fun w => m3_at1 a b c w
  have i2 := fun w => m3_at2 a b c w
  go_enter Tryd.func41, Tryd.ntmps41
  go_upto_region 3 with fail
  refine wp_loop_rounds 4 ?_
  rw [rounds_succ]
  go_wp2_with fail
  rw [rounds_succ]
  go_wp2_with fail
  rw [rounds_succ]
  go_wp2_with fail
  rw [rounds_succ]
  go_wp2_with fail
  go_ret
  exact ⟨ret_int (marks_math ⟨a0, a1⟩ ⟨b0, b1⟩ ⟨c0, c1⟩), (Kept.refl _ _).alloc _⟩
end Go.Proofs.YtpdjlollijbdeaaDoor
