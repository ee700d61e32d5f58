/- Lists of things that lie in memory one behind the other, each with so many cells. Nothing of the program is used here. -/
import Derived.Test.YtnkddhmhjnhgcaaGreatDoorUtil
import Derived.Deep.MidRow
import Derived.Deep.WholeRow
import Derived.Laws.CopyRow
import Derived.OwnWalk
import Derived.Laws.OwnMore
set_option linter.unusedVariables false
namespace Go.Proofs.YtnkddhmhjnhgcaaGreatDoor
open Go.RowKit

/-- f gives the cells of a thing: k of them. -/
structure RowOf {α : Type} (f : α → List Value) (k : Nat) : Prop where
  pos : 0 < k
  len : ∀ x, (f x).length = k
  one : ∀ x, ∀ u ∈ f x, u.oneCell' = true
def rowsV {α : Type} (f : α → List Value) (l : List α) : List Value := l.flatMap f
section
variable {α : Type} {f : α → List Value} {k : Nat}
theorem rowsV_cons (x : α) (l : List α) : rowsV f (x :: l) = f x ++ rowsV f l := rfl
theorem rowsV_len (h : RowOf f k) (l : List α) : (rowsV f l).length = l.length * k := by
  induction l with
  | nil => simp [rowsV]
  | cons x l ih => rw [rowsV_cons, List.length_append, ih, List.length_cons, h.len, Nat.add_mul, Nat.one_mul, Nat.add_comm]
theorem rowsV_app (l m : List α) : rowsV f (l ++ m) = rowsV f l ++ rowsV f m := by simp [rowsV]
theorem rowsV_oneCell (h : RowOf f k) (l : List α) : ∀ u ∈ rowsV f l, u.oneCell' = true := by
  intro u hu
  simp only [rowsV, List.mem_flatMap] at hu
  obtain ⟨x, _, hx⟩ := hu
  exact h.one x u hx
theorem rowsV_at (h : RowOf f k) : ∀ (l : List α) (i : Nat) (hi : i < l.length) (j : Nat), j < k → (rowsV f l)[i * k + j]? = (f l[i])[j]?
  | x :: l, 0, hi, j, hj => by
    rw [rowsV_cons, Nat.zero_mul, Nat.zero_add, List.getElem?_append_left (by rw [h.len]; exact hj)]
    rfl
  | x :: l, i + 1, hi, j, hj => by
    have e : (i + 1) * k = i * k + k := by rw [Nat.add_mul, Nat.one_mul]
    rw [rowsV_cons, List.getElem?_append_right (by rw [h.len]; omega), h.len, show (i + 1) * k + j - k = i * k + j by omega, rowsV_at h l i (by simpa using hi) j hj]
    rfl
/-- One cell of one of them is another one. -/
theorem rowsV_set (h : RowOf f k) {v : Value} {d : α} {j : Nat} (hj : j < k) : ∀ (l : List α) (i : Nat) (hi : i < l.length), f d = (f l[i]).set j v → rowsV f (l.set i d) = (rowsV f l).set (i * k + j) v
  | x :: l, 0, hi, hd => by
    rw [List.set_cons_zero, rowsV_cons, rowsV_cons, hd, Nat.zero_mul, Nat.zero_add, List.set_append_left _ _ (by rw [h.len]; exact hj)]
    rfl
  | x :: l, i + 1, hi, hd => by
    have e : (i + 1) * k = i * k + k := by rw [Nat.add_mul, Nat.one_mul]
    rw [List.set_cons_succ, rowsV_cons, rowsV_cons, rowsV_set h hj l i (by simpa using hi) hd, List.set_append_right _ _ (by rw [h.len]; omega), h.len, show (i + 1) * k + j - k = i * k + j by omega]
/-- One of them in a slice. -/
theorem Rd.row (h : RowOf f k) {w : World} {b o n : Nat} {l : List α} (hr : Rd w (some ⟨b, o, none⟩) n k (rowsV f l)) (i : Nat) (hi : i < l.length) : w.rangeAt b (o + i * k) (f l[i]) := fun j v hv => by
  have hj : j < k := by have := (List.getElem?_eq_some_iff.1 hv).1; rwa [h.len] at this
  have hm : (rowsV f l)[i * k + j]? = some v := (rowsV_at h l i hi j hj).trans hv
  rcases hr.2 with h0 | ⟨b', o', ha, hc⟩
  · rw [h0] at hm; cases hm
  · injection ha with ha
    injection ha with h1 h2 _
    subst h1 h2
    rw [show o + i * k + j = o + (i * k + j) by omega]
    exact hc _ _ hm
theorem Rd.rowAddr (h : RowOf f k) {w : World} {a : Option Addr} {n : Nat} {l : List α} (hr : Rd w a n k (rowsV f l)) (hn : 0 < l.length) : ∃ b o, a = some ⟨b, o, none⟩ := by
  rcases hr.2 with h0 | ⟨b, o, ha, _⟩
  · have := rowsV_len h l
    rw [h0] at this
    have := Nat.mul_pos hn h.pos
    simp at *
    omega
  · exact ⟨b, o, ha⟩
theorem Rd.rowLen (h : RowOf f k) {w : World} {a : Option Addr} {n : Nat} {l : List α} (hr : Rd w a n k (rowsV f l)) : l.length = n := by
  have := hr.1
  rw [rowsV_len h] at this
  exact Nat.eq_of_mul_eq_mul_right h.pos this
theorem Rd.rowNil (h : RowOf f k) {w : World} {n : Nat} {l : List α} (hr : Rd w none n k (rowsV f l)) : l = [] ∧ n = 0 := by
  have hl := hr.rowLen h
  rcases hr.2 with h0 | ⟨b, o, ha, _⟩
  · have := rowsV_len h l
    rw [h0] at this
    have hz : l.length = 0 := by
      rcases Nat.eq_zero_or_pos l.length with h1 | h1
      · exact h1
      · have := Nat.mul_pos h1 h.pos
        simp at *
        omega
    exact ⟨List.eq_nil_of_length_eq_zero hz, by omega⟩
  · cases ha
/-- A slice over a block of so many. -/
theorem Rd.ofBlock (h : RowOf f k) {w : World} {g : Nat} {cur : Array Value} {E : TypeId} {fr : Nat × Nat} {l : List α} (hg : w.heap[g]? = some (.cells cur E fr)) (hc : cur.toList = rowsV f l) : Rd w (some ⟨g, 0, none⟩) l.length k (rowsV f l) :=
  ⟨rowsV_len h l, .inr ⟨g, 0, rfl, fun j u hu => by rw [Nat.zero_add, cell_of_row w g j _ _ _ hg]; rw [← hc] at hu; simpa using hu⟩⟩
theorem heap_setAt (w : World) (b i : Nat) (v : Value) (cur : Array Value) (t : TypeId) (h : w.heap[b]? = some (.cells cur t (0, 0))) : (w.setCell ⟨b, i, none⟩ v).heap[b]? = some (.cells (cur.setIfInBounds i v) t (0, 0)) := by
  show (w.heap.modify b _)[b]? = _
  rw [Array.getElem?_modify, if_pos rfl, h]
  rfl
/-- What can be written in a slice of the call's own. -/
theorem Own.setAt (h : RowOf f k) {w : World} {base g n c : Nat} {E : TypeId} {l : List α} (ho : Own w base E (some ⟨g, 0, none⟩) n c k (rowsV f l)) {i j : Nat} (hi : i < l.length) (hj : j < k) {v : Value} {d : α} (hd : f d = (f l[i]).set j v) :
    Own (w.setCell ⟨g, i * k + j, none⟩ v) base E (some ⟨g, 0, none⟩) n c k (rowsV f (l.set i d)) := by
  have hln := ho.1
  rcases ho.2 with ⟨hv, _⟩ | ⟨g', cap, cur, hv, hb, hg, hnc, hcm, hsz, ht⟩
  · cases hv
  · injection hv with h1 h2 h3
    injection h1 with h1
    injection h1 with h1 _ _
    subst h1 h3
    refine ⟨?_, .inr ⟨g, _, _, rfl, hb, heap_setAt w g _ v cur E hg, hnc, hcm, by simpa using hsz, ?_⟩⟩
    · rw [rowsV_len h, List.length_set, ← rowsV_len h, hln]
    · rw [rowsV_set h hj l i hi hd, ← ht, Array.toList_setIfInBounds, List.take_set]
/-- The cell of a slice of the call's own, and that it may be written. -/
theorem Own.cellAt (h : RowOf f k) {w : World} {base g n c : Nat} {E : TypeId} {l : List α} (ho : Own w base E (some ⟨g, 0, none⟩) n c k (rowsV f l)) {i j : Nat} (hi : i < l.length) {v : Value} (hv : (f l[i])[j]? = some v) : w.cell? ⟨g, i * k + j, none⟩ = some v ∧ w.frozen? ⟨g, i * k + j, none⟩ = false := by
  have hr := (ho.rd.row h i hi) j v hv
  rw [Nat.zero_add] at hr
  refine ⟨hr, ?_⟩
  rcases ho.2 with ⟨hv, _⟩ | ⟨g', cap, cur, hv, hb, hg, _⟩
  · cases hv
  · injection hv with h1 h2 h3
    injection h1 with h1
    injection h1 with h1 _ _
    subst h1
    unfold World.frozen?
    rw [hg]
    simp
/-- What make leaves: so many zero things. -/
theorem made_is (h : RowOf f k) {cs : Array Value} {d : α} (hd : f d = cs.toList) (n : Nat) : (madeCells cs (n * k)).toList = rowsV f (List.replicate n d) := by
  have hk : cs.size = k := by have := h.len d; rw [hd] at this; simpa using this
  apply List.ext_getElem?
  intro j
  by_cases hj : j < n * k
  · have hdiv : j / k < n := (Nat.div_lt_iff_lt_mul h.pos).2 hj
    have hmod : j % k < k := Nat.mod_lt _ h.pos
    have e : j = j / k * k + j % k := by rw [Nat.mul_comm]; exact (Nat.div_add_mod j k).symm
    have e2 := rowsV_at h (List.replicate n d) (j / k) (by simpa using hdiv) (j % k) hmod
    rw [← e] at e2
    rw [e2, List.getElem_replicate, hd]
    have hm2 : j % cs.size < cs.size := by rw [hk]; exact hmod
    simp only [madeCells, Array.toList_map, List.getElem?_map, Array.getElem?_toList]
    rw [show (Array.range (n * k))[j]? = some j by simp [hj]]
    simp only [Option.map_some]
    rw [getElem!_pos cs (j % cs.size) hm2, Array.getElem?_eq_getElem (by omega)]
    simp only [hk]
  · rw [List.getElem?_eq_none (by simp [size_madeCells]; omega), List.getElem?_eq_none (by rw [rowsV_len h]; simp; omega)]
section
variable {P : Program}
theorem wpList_mk0 {w : World} {ops : Array Oper} {rest : List Oper} {o : Oper} {A : Act} {Q : Exit → Act → World → Prop} {l c : Operand} {base : Nat} {t e : TypeId} {z : Value} {size bytes : Nat} {C : Int} {n : Nat}
    (h : ∀ w', Own w' base e (some ⟨w.heap.size, 0, none⟩) 0 n size [] → Kept [] w w' → wpList P ops Q rest (A.put o.dst (.slice (some ⟨w.heap.size, 0, none⟩) 0 n)) w')
    (hgd : o.guard = none) (T : ElemT P t e z size bytes) (ho : o.op = .makeSlice t l c) (hl : A.eval l = .int .i64 0) (hc : A.eval c = .int .i64 C) (hC : C = (n : Int)) (hb : n * bytes ≤ 140737488355328) (hbase : base ≤ w.heap.size) : wpList P ops Q (o :: rest) A w := by
  obtain ⟨i, hi, hz0, hz1, hz2⟩ := info_parts T.info
  have h63 : n ≤ maxLen := by
    have : n * 1 ≤ n * bytes := Nat.mul_le_mul_left _ T.bpos
    unfold maxLen
    omega
  refine wpList_make_own (P := P) w hgd l c t ho base e i z size T.under hi hz0 hz1 .i64 .i64 C n hl hc hC (by rw [hz2, Nat.mul_comm]; omega) h63 hbase (fun w' h1 h2 => h w' h1 ((Kept.refl [] w).grown h2 (by simp)))
theorem wpList_mkF {w : World} {ops : Array Oper} {rest : List Oper} {o : Oper} {A : Act} {Q : Exit → Act → World → Prop} {l c : Operand} {base : Nat} {t e : TypeId} {z : Value} {size bytes : Nat} {L C : Int} {n : Nat}
    (h : ∀ w', Own w' base e (some ⟨w.heap.size, 0, none⟩) n n size (madeCells z.cells (n * size)).toList → Kept [] w w' → wpList P ops Q rest (A.put o.dst (.slice (some ⟨w.heap.size, 0, none⟩) n n)) w')
    (hgd : o.guard = none) (T : ElemT P t e z size bytes) (ho : o.op = .makeSlice t l c) (hl : A.eval l = .int .i64 L) (hc : A.eval c = .int .i64 C) (hL : L = (n : Int)) (hC : C = (n : Int)) (hb : n * bytes ≤ 140737488355328) (hbase : base ≤ w.heap.size) : wpList P ops Q (o :: rest) A w := by
  obtain ⟨i, hi, hz0, hz1, hz2⟩ := info_parts T.info
  have h63 : n ≤ maxLen := by
    have : n * 1 ≤ n * bytes := Nat.mul_le_mul_left _ T.bpos
    unfold maxLen
    omega
  refine wpList_make_full (P := P) w hgd l c t ho base e i z size T.under hi hz0 hz1 .i64 .i64 L C n hl hc hL hC (by rw [hz2, Nat.mul_comm]; omega) h63 hbase (fun w' h1 h2 => h w' h1 ((Kept.refl [] w).grown h2 (by simp)))
end
/-- What a part of a list is in memory. -/
theorem rows_part (h : RowOf f k) (l : List α) (lo hi : Nat) (h1 : lo ≤ hi) (h2 : hi ≤ l.length) (j : Nat) {u : Value} (hu : (rowsV f ((l.take hi).drop lo))[j]? = some u) : (rowsV f l)[lo * k + j]? = some u := by
  have e : l = l.take lo ++ ((l.take hi).drop lo ++ l.drop hi) := by
    rw [← List.append_assoc]
    have e1 : l.take lo = (l.take hi).take lo := by rw [List.take_take, Nat.min_eq_left h1]
    rw [e1, List.take_append_drop, List.take_append_drop]
  have hlen : (rowsV f (l.take lo)).length = lo * k := by rw [rowsV_len h, List.length_take, Nat.min_eq_left (by omega)]
  have hj := (List.getElem?_eq_some_iff.1 hu).1
  rw [e, rowsV_app, rowsV_app, List.getElem?_append_right (by omega), hlen, Nat.add_sub_cancel_left, List.getElem?_append_left hj]
  exact hu
section
variable {P : Program}
/-- b[lo:hi], wherever b lies. -/
theorem rows_slice_lh (h : RowOf f k) {t : TypeId} (ht : P.underlying t = some (.slice (P.elem t))) (hs : ∀ w, (sizeOf (P.elem t)).run P w = .ok k w) (a : Option Addr) (n c lo hi : Nat) (h1 : lo ≤ hi) (h2 : hi ≤ n) (h3 : n ≤ c) (hc : c ≤ maxLen) :
    ∃ a2 c2, hi - lo ≤ c2 ∧ c2 ≤ maxLen ∧ (∀ w, (Instr.slice t (.slice a n c) (some (.int .i64 lo)) (some (.int .i64 hi)) none).run P w = .ok (.slice a2 (hi - lo) c2) w) ∧
      ∀ w (l : List α), Rd w a n k (rowsV f l) → Rd w a2 (hi - lo) k (rowsV f ((l.take hi).drop lo)) := by
  refine ⟨if c = lo then a else a.map (·.add (lo * k)), c - lo, by omega, by omega, fun w => ?_, fun w l hr => ?_⟩
  · rw [run_slice_lh (P := P) w t a n c ht .i64 .i64 lo hi (by omega) (by omega) (by omega)]
    rw [hs]
    simp [Result.andThen, sliced]
  · have hl : l.length = n := hr.rowLen h
    refine ⟨by rw [rowsV_len h, List.length_drop, List.length_take, Nat.min_eq_left (by omega)], ?_⟩
    by_cases hz : lo = hi
    · left
      subst hz
      have : (l.take lo).drop lo = [] := List.drop_eq_nil_of_le (by rw [List.length_take]; omega)
      rw [this]
      rfl
    · rcases hr.2 with h0 | ⟨b, o, rfl, hcell⟩
      · exfalso
        have := rowsV_len h l
        rw [h0, hl] at this
        have := Nat.mul_pos (show 0 < n by omega) h.pos
        simp at *
        omega
      · right
        rw [if_neg (by omega)]
        refine ⟨b, o + lo * k, ?_, fun j u hu => ?_⟩
        · simp [Addr.add]
        · have := hcell _ u (rows_part h l lo hi h1 (by omega) j hu)
          rwa [show o + lo * k + j = o + (lo * k + j) by omega]
/-- b[:hi] -/
theorem rows_slice_h (h : RowOf f k) {t : TypeId} (ht : P.underlying t = some (.slice (P.elem t))) (hs : ∀ w, (sizeOf (P.elem t)).run P w = .ok k w) (a : Option Addr) (n c hi : Nat) (h2 : hi ≤ n) (h3 : n ≤ c) (hc : c ≤ maxLen) :
    ∃ a2 c2, hi ≤ c2 ∧ c2 ≤ maxLen ∧ (∀ w, (Instr.slice t (.slice a n c) none (some (.int .i64 hi)) none).run P w = .ok (.slice a2 hi c2) w) ∧
      ∀ w (l : List α), Rd w a n k (rowsV f l) → Rd w a2 hi k (rowsV f (l.take hi)) := by
  obtain ⟨a2, c2, q1, q2, hrun, hr⟩ := rows_slice_lh h ht hs a n c 0 hi (Nat.zero_le _) h2 h3 hc
  refine ⟨a2, c2, by omega, q2, fun w => ?_, fun w l hl => by simpa using hr w l hl⟩
  have := hrun w
  rw [run_slice_lh (P := P) w t a n c ht .i64 .i64 _ hi (by omega) (by omega) (by omega)] at this
  rw [run_slice_h (P := P) w t a n c ht .i64 hi (by omega) (by omega)]
  simpa using this
/-- b[lo:] -/
theorem rows_slice_l (h : RowOf f k) {t : TypeId} (ht : P.underlying t = some (.slice (P.elem t))) (hs : ∀ w, (sizeOf (P.elem t)).run P w = .ok k w) (a : Option Addr) (n c lo : Nat) (h1 : lo ≤ n) (h3 : n ≤ c) (hc : c ≤ maxLen) :
    ∃ a2 c2, n - lo ≤ c2 ∧ c2 ≤ maxLen ∧ (∀ w, (Instr.slice t (.slice a n c) (some (.int .i64 lo)) none none).run P w = .ok (.slice a2 (n - lo) c2) w) ∧
      ∀ w (l : List α), Rd w a n k (rowsV f l) → Rd w a2 (n - lo) k (rowsV f (l.drop lo)) := by
  obtain ⟨a2, c2, q1, q2, hrun, hr⟩ := rows_slice_lh h ht hs a n c lo n h1 (Nat.le_refl _) h3 hc
  refine ⟨a2, c2, q1, q2, fun w => ?_, fun w l hl => ?_⟩
  · have := hrun w
    rw [run_slice_lh (P := P) w t a n c ht .i64 .i64 lo n (by omega) (by omega) (by omega)] at this
    rw [run_slice_l (P := P) w t a n c ht .i64 lo (by omega) (by omega)]
    simpa using this
  · have hn : l.length = n := hl.rowLen h
    have := hr w l hl
    rwa [← hn, List.take_length, hn] at this
end
end
end Go.Proofs.YtnkddhmhjnhgcaaGreatDoor
