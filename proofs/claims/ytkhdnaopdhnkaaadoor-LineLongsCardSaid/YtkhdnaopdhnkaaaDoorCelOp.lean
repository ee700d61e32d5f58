/- Loads of whole cells under a guard; what fixing leaves, element by element. -/
import Derived.Test.YtkhdnaopdhnkaaaDoorCelSl
namespace Go.Proofs.YtkhdnaopdhnkaaaDoor
open Go.RowKit
set_option linter.unusedVariables false

theorem wpList_load_celW {ops : Array Oper} {rest : List Oper} {op : Oper} {a : Act} {w : World} {Q : Exit → Act → World → Prop} {x : Operand} (ho : op.op = .load 60 x) (hw : Region.wanted op (yielded ops a.tmps) = true) (b o : Nat) (hx : a.eval x = .pointer (some ⟨b, o, none⟩)) {c : Cl} (hc : CelR w b o c)
    (h : wpList Tryd.prog ops Q rest (a.put op.dst (.agg #[.int .i32 c.r, .int .i32 c.m0, .int .i32 c.m1, .int .i32 c.m2, .int .i64 c.w, .int .i64 c.p.f.k, .int .u8 c.p.f.i, .int .u8 c.p.f.r, .int .u8 c.p.f.g, .int .u8 c.p.f.b, .int .i64 c.p.b.k, .int .u8 c.p.b.i, .int .u8 c.p.b.r, .int .u8 c.p.b.g, .int .u8 c.p.b.b, .int .u8 c.p.fl])) w) : wpList Tryd.prog ops Q (op :: rest) a w :=
  BigFrame.wpList_want hw fun _ hK => wp_load_mid 60 x ho b o hx (kcL c) _ hc Tryd.underlying60 rfl (by kernel_rfl) (hK _ _ h)
theorem Rd.celAt {w : World} {b o n : Nat} {l : List Cl} (h : Rd w (some ⟨b, o, none⟩) n 16 (cellsV l)) {i : Nat} {x : Cl} (hi : l[i]? = some x) : CelR w b (o + i * 16) x := by
  obtain ⟨h1, h2⟩ := List.getElem?_eq_some_iff.1 hi
  rw [← h2]
  exact h.cel i h1

/-- The cell before place k, as it is when the cells are fixed. -/
def prevC (b : Cl) (l : List Cl) (k : Nat) : Cl := match k with | 0 => b | k + 1 => (fixGo b l).getD k zeroK
theorem fixGo_get : ∀ (l : List Cl) (b : Cl) (k : Nat) (h : k < l.length), (fixGo b l)[k]? = some (fixOne (prevC b l k) l[k] (headS (l.drop (k + 1))))
  | [], b, k, h => by cases h
  | c :: l, b, 0, h => rfl
  | c :: l, b, k + 1, h => by
    have ih := fixGo_get l (fixOne b c (headS l)) k (by simpa using h)
    rw [fixGo, List.getElem?_cons_succ, ih, List.getElem_cons_succ, List.drop_succ_cons]
    cases k with
    | zero => rfl
    | succ k => rfl
/-- The cells while they are fixed: k of them are. -/
def flk (l : List Cl) (k : Nat) : List Cl := (fixI l).take k ++ l.drop k
theorem fixI_len (l : List Cl) : (fixI l).length = l.length := fix_len l zeroK
theorem flk_len (l : List Cl) (k : Nat) : (flk l k).length = l.length := by unfold flk; rw [List.length_append, List.length_take, List.length_drop, fixI_len]; omega
theorem flk_zero (l : List Cl) : flk l 0 = l := rfl
theorem flk_all (l : List Cl) : flk l l.length = fixI l := by unfold flk; rw [List.drop_of_length_le (Nat.le_refl _), List.append_nil, List.take_of_length_le (by rw [fixI_len]; exact Nat.le_refl _)]
theorem flk_prev (l : List Cl) (k : Nat) (h : k < l.length) : (flk l (k + 1))[k]? = some (prevC zeroK l (k + 1)) := by
  have hk : k < (fixI l).length := by rw [fixI_len]; exact h
  have e : prevC zeroK l (k + 1) = (fixI l).getD k zeroK := rfl
  unfold flk
  rw [List.getElem?_append_left (by rw [List.length_take, fixI_len]; omega), List.getElem?_take, if_pos (by omega), e, List.getD_eq_getElem?_getD, List.getElem?_eq_getElem hk]
  rfl
theorem flk_set (l : List Cl) (k : Nat) (h : k < l.length) {y : Cl} (hy : (fixI l)[k]? = some y) : (flk l k).set k y = flk l (k + 1) := by
  have hk : k < (fixI l).length := by rw [fixI_len]; exact h
  have e1 : (fixI l).take (k + 1) = (fixI l).take k ++ [y] := by
    rw [List.take_succ_eq_append_getElem hk]
    rw [List.getElem?_eq_getElem hk] at hy
    rw [Option.some.inj hy]
  have hlen : ((fixI l).take k).length = k := by rw [List.length_take]; omega
  unfold flk
  rw [e1, List.set_append_right _ _ (by rw [hlen]; exact Nat.le_refl _), hlen, Nat.sub_self, List.drop_eq_getElem_cons h, List.set_cons_zero, List.append_assoc]
  rfl
theorem flk_same (l : List Cl) (k : Nat) (h : k < l.length) (hy : (fixI l)[k]? = some l[k]) : flk l k = flk l (k + 1) := by
  have hk : k < (flk l k).length := by rw [flk_len]; exact h
  have e : (flk l k)[k] = l[k] := by
    have h0 : (flk l k)[k]? = some l[k] := by
      unfold flk
      rw [List.getElem?_append_right (by rw [List.length_take]; omega), List.length_take, fixI_len, Nat.min_eq_left (by omega), Nat.sub_self, List.getElem?_drop, Nat.add_zero, List.getElem?_eq_getElem h]
    rw [List.getElem?_eq_getElem hk] at h0
    exact Option.some.inj h0
  rw [← flk_set l k h hy, ← e, List.set_getElem_self]
theorem fix_at (l : List Cl) (k : Nat) (h : k < l.length) : (fixI l)[k]? = some (fixOne (prevC zeroK l k) l[k] (headS (l.drop (k + 1)))) := fixGo_get l zeroK k h
end Go.Proofs.YtkhdnaopdhnkaaaDoor
