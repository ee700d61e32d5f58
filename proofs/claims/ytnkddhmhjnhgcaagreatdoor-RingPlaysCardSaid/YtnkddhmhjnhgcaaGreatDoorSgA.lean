/- A slice that may begin in the middle of a block, with what is behind it up to its capacity: it can be read, written, cut and appended to. Nothing of the program is used here. The program's pages in boxes; its small functions of layer 7. The program's pages in memory: a page's box, its lines' slice and the lines' cells lie apart; what becomes of that. -/
import Derived.Test.YtnkddhmhjnhgcaaGreatDoorRowy
import Derived.ArgAppend
import Derived.Test.YtnkddhmhjnhgcaaGreatDoorLnsMem
import Derived.Test.YtnkddhmhjnhgcaaGreatDoorLinVC
set_option linter.unusedVariables false
namespace Go.Proofs.YtnkddhmhjnhgcaaGreatDoor
open Go.RowKit

/-- The block of a slice with a capacity. -/
def blkC (a : Option Addr) (c : Nat) : List Nat := if c = 0 then [] else blk a
/-- A slice of n elements of so many cells, with the capacity c, which can be written. -/
def Mid (w : World) (a : Option Addr) (n c size : Nat) (xs : List Value) : Prop :=
  xs.length = n * size ∧ n ≤ c ∧ c ≤ maxLen ∧ (c = 0 ∨ ∃ g o, a = some ⟨g, o, none⟩ ∧ w.rangeAt g o xs ∧ w.there g o (c * size))
theorem Mid.nil (w : World) (size : Nat) : Mid w none 0 0 size [] := ⟨by simp, Nat.le_refl _, Nat.zero_le _, .inl rfl⟩
theorem Mid.rd {w : World} {a : Option Addr} {n c size : Nat} {xs : List Value} (h : Mid w a n c size xs) : Rd w a n size xs := by
  obtain ⟨h1, h2, h3, h4⟩ := h
  refine ⟨h1, ?_⟩
  rcases h4 with rfl | ⟨g, o, rfl, hr, _⟩
  · left
    apply List.eq_nil_of_length_eq_zero
    rw [h1, show n = 0 by omega, Nat.zero_mul]
  · exact .inr ⟨g, o, rfl, hr⟩
theorem Mid.caps {w : World} {a : Option Addr} {n c size : Nat} {xs : List Value} (h : Mid w a n c size xs) : n ≤ c ∧ c ≤ maxLen := ⟨h.2.1, h.2.2.1⟩
theorem Kept.there {S : List Nat} {w w' : World} (hk : Kept S w w') {g o n : Nat} (h : w.there g o n) (hg : g ∉ S) : w'.there g o n := fun j hj => by
  obtain ⟨h1, h2⟩ := h j hj
  obtain ⟨v, hv⟩ := Option.isSome_iff_exists.1 h1
  exact ⟨by rw [hk.cell hv hg]; rfl, hk.frozen hv h2 hg⟩
theorem Mid.kept {S : List Nat} {w w' : World} {a : Option Addr} {n c size : Nat} {xs : List Value} (h : Mid w a n c size xs) (hk : Kept S w w') (hS : ∀ y ∈ blkC a c, y ∉ S) : Mid w' a n c size xs := by
  obtain ⟨h1, h2, h3, h4⟩ := h
  refine ⟨h1, h2, h3, ?_⟩
  by_cases hc : c = 0
  · exact .inl hc
  · rcases h4 with h4 | ⟨g, o, rfl, hr, ht⟩
    · exact .inl h4
    · have hg : g ∉ S := hS g (by unfold blkC; rw [if_neg hc]; simp [blk])
      exact .inr ⟨g, o, rfl, fun j v hv => hk.cell (hr j v hv) hg, hk.there ht hg⟩
theorem Mid.lt {w : World} {a : Option Addr} {n c size : Nat} {xs : List Value} (h : Mid w a n c size xs) (hs : 0 < size) : ∀ y ∈ blkC a c, y < w.heap.size := by
  obtain ⟨h1, h2, h3, h4⟩ := h
  unfold blkC
  by_cases hc : c = 0
  · rw [if_pos hc]; intro y hy; cases hy
  · rw [if_neg hc]
    rcases h4 with h4 | ⟨g, o, rfl, hr, ht⟩
    · exact absurd h4 hc
    · intro y hy
      simp [blk] at hy
      subst hy
      obtain ⟨v, hv⟩ := Option.isSome_iff_exists.1 (ht 0 (Nat.mul_pos (by omega) hs)).1
      exact World.block_lt_of_cell? w _ hv
theorem frozen_of_row {w : World} {g : Nat} {cur : Array Value} {E : TypeId} (hg : w.heap[g]? = some (.cells cur E (0, 0))) (j : Nat) : w.frozen? ⟨g, j, none⟩ = false := by
  unfold World.frozen?
  rw [hg]
  simp
/-- A slice of the call's own is one. -/
theorem Own.mid {w : World} {base : Nat} {E : TypeId} {a : Option Addr} {n c size : Nat} {xs : List Value} (h : Own w base E a n c size xs) : Mid w a n c size xs := by
  have hr := h.rd
  have h1 := h.1
  rcases h.2 with ⟨hv, h0⟩ | ⟨g, cap, cur, hv, _, hg, hn, hm, hsz, ht⟩
  · injection hv with e1 e2 e3
    subst e1 e2 e3
    exact ⟨h1, Nat.le_refl _, Nat.zero_le _, .inl rfl⟩
  · injection hv with e1 _ e3
    subst e1 e3
    refine ⟨h1, hn, hm, .inr ⟨g, 0, rfl, fun j v hv => ?_, fun j hj => ⟨?_, frozen_of_row hg _⟩⟩⟩
    · rcases hr.2 with h0 | ⟨b, o, ha, hc⟩
      · rw [h0] at hv; cases hv
      · injection ha with ha
        injection ha with e4 e5 _
        subst e4 e5
        exact hc j v hv
    · rw [Nat.zero_add, cell_of_row w g j cur E (0, 0) hg, Array.getElem?_eq_getElem (by omega)]
      rfl
theorem kept_setCells (g : Nat) : ∀ (vs : List Value) (o : Nat) (w : World), Kept [g] w (w.setCells g o vs)
  | [], _, w => Kept.refl _ _
  | v :: r, o, w => by
    rw [World.setCells]
    exact ((Kept.refl [g] w).setCell (.inl (by simp)) v).trans (kept_setCells g r (o + 1) _) (fun y hy => .inl hy)
/-- One after another written on. -/
theorem rangeAt_app {w : World} {g o : Nat} {xs ys : List Value} (h1 : w.rangeAt g o xs) (h2 : w.rangeAt g (o + xs.length) ys) : w.rangeAt g o (xs ++ ys) := fun j v hv => by
  by_cases hj : j < xs.length
  · rw [List.getElem?_append_left hj] at hv
    exact h1 j v hv
  · rw [List.getElem?_append_right (by omega)] at hv
    have := h2 _ v hv
    rwa [show o + xs.length + (j - xs.length) = o + j by omega] at this
theorem there_mono {w : World} {g o n m : Nat} (h : w.there g o n) (hm : m ≤ n) : w.there g o m := fun j hj => h j (by omega)
theorem there_off {w : World} {g o n d m : Nat} (h : w.there g o n) (hm : d + m ≤ n) : w.there g (o + d) m := fun j hj => by
  have := h (d + j) (by omega)
  rwa [show o + (d + j) = o + d + j by omega] at this
section
variable {P : Program}
/-- append to it. -/
theorem run_app_mid (w : World) (t ty e : TypeId) {z : Value} {size bytes : Nat} (T : ElemT P t e z size bytes) (a : Option Addr) (n c : Nat) (xs : List Value) (hm : Mid w a n c size xs)
    (b : Option Addr) (m d : Nat) (ys : List Value) (hr : Rd w b m size ys) (h1 : ∀ u ∈ ys, u.oneCell' = true) (hm0 : 0 < m)
    (hbytes : (n + m) * bytes ≤ 140737488355328) :
    ∃ a' c' w', (Builtin.append_ #[t, t] ty #[.slice a n c, .slice b m d]).run P w = .ok (.slice a' (n + m) c') w' ∧ Mid w' a' (n + m) c' size (xs ++ ys) ∧ Kept (blkC a c) w w' ∧ (∀ g ∈ blkC a' c', g ∈ blkC a c ∨ w.heap.size ≤ g) := by
  obtain ⟨i, hi, hz0, hz1, hz2⟩ := info_parts T.info
  have h63 : n + m ≤ maxLen := by
    have : (n + m) * 1 ≤ (n + m) * bytes := Nat.mul_le_mul_left _ T.bpos
    unfold maxLen
    omega
  have hyl := hr.1
  have hne : ys ≠ [] := fun h0 => by
    rw [h0] at hyl
    have := Nat.mul_pos hm0 T.pos
    simp at hyl
    omega
  rcases hr.2 with h0 | ⟨bb, oo, rfl, hcy⟩
  · exact absurd h0 hne
  obtain ⟨hx1, hx2, hx3, hx4⟩ := hm
  have hadd : ∀ j, (⟨bb, oo, none⟩ : Addr).add j = ⟨bb, oo + j, none⟩ := fun j => Addr.add_mid _ _ _
  have grows : ∀ v' w', w'.ownsRow w.heap.size e size v' (n + m) (xs ++ ys) → w.grownBy w' none → ∃ a' c', v' = .slice a' (n + m) c' ∧ Mid w' a' (n + m) c' size (xs ++ ys) ∧ Kept (blkC a c) w w' ∧ (∀ g ∈ blkC a' c', g ∈ blkC a c ∨ w.heap.size ≤ g) := by
    intro v' w' ho hg
    rcases ho.2 with ⟨hv, h0⟩ | ⟨g, cap, cur, hv, hb, _⟩
    · omega
    · subst hv
      refine ⟨_, _, rfl, Own.mid ho, (Kept.refl _ w).grown hg (fun k hk => by cases hk), fun y hy => .inr ?_⟩
      unfold blkC at hy
      split at hy
      · cases hy
      · simp [blk] at hy; omega
  by_cases hc0 : c = 0
  · subst hc0
    obtain rfl : n = 0 := by omega
    obtain rfl : xs = [] := List.eq_nil_of_length_eq_zero (by rw [hx1, Nat.zero_mul])
    cases a with
    | none =>
      obtain ⟨v', w', hrun, h2, h3, _, _⟩ := run_append_own_at (P := P) w w.heap.size t ty e i z size bytes T.under hi hz0 hz1 hz2 T.zs T.pos (.slice none 0 0) 0 [] (World.ownsRow_nil w _ e size) ⟨bb, oo, none⟩ m d ys hyl (fun j u hu => by rw [hadd]; exact hcy j u hu) h1 h63 hbytes (Nat.le_refl _)
      obtain ⟨a', c', hv, rest⟩ := grows v' w' h2 (by simpa [Value.ownBlock] using h3)
      exact ⟨a', c', w', by rw [hrun, hv], rest⟩
    | some ad =>
      obtain ⟨v', w', hrun, h2, h3⟩ := run_append_arg_grows (P := P) w t ty e i z size bytes T.under hi hz0 hz1 hz2 T.zs T.pos ad 0 0 [] (by simp) (fun j u hu => by simp at hu) ⟨bb, oo, none⟩ m d ys hyl (fun j u hu => by rw [hadd]; exact hcy j u hu) (by omega) h63 hbytes
      obtain ⟨a', c', hv, rest⟩ := grows v' w' h2 h3
      exact ⟨a', c', w', by rw [hrun, hv], rest⟩
  · rcases hx4 with h0 | ⟨g, o, rfl, hrx, htx⟩
    · exact absurd h0 hc0
    by_cases hroom : n + m ≤ c
    · have hmul : n * size + m * size ≤ c * size := by rw [← Nat.add_mul]; exact Nat.mul_le_mul_right _ hroom
      have htn : w.there g (o + n * size) ys.length := there_off htx (by rw [hyl]; exact hmul)
      have hrun := run_append_room_cells (P := P) w t ty e i T.under hi g o n c ⟨bb, oo, none⟩ m d ys (by rw [hyl, hz1]) (fun j u hu => by rw [hadd]; exact hcy j u hu) h1 hroom (by rw [hz1]; exact fun j hj => (htn j hj).1) (by rw [hz1]; exact fun j hj => (htn j hj).2)
      rw [hz1] at hrun
      refine ⟨_, _, _, hrun, ⟨by rw [List.length_append, hx1, hyl, Nat.add_mul], hroom, hx3, .inr ⟨g, o, rfl, rangeAt_app ?_ ?_, World.there_setCells htx _ _ _⟩⟩, ?_, fun y hy => .inl hy⟩
      · exact World.rangeAt_setCells_apart hrx g _ _ (.inr (.inl (by omega)))
      · rw [hx1]; exact World.rangeAt_setCells_same w g _ ys htn
      · unfold blkC
        rw [if_neg hc0]
        exact kept_setCells g _ _ _
    · obtain ⟨v', w', hrun, h2, h3⟩ := run_append_arg_grows (P := P) w t ty e i z size bytes T.under hi hz0 hz1 hz2 T.zs T.pos ⟨g, o, none⟩ n c xs hx1 (fun j u hu => by rw [Addr.add_mid]; exact hrx j u hu) ⟨bb, oo, none⟩ m d ys hyl (fun j u hu => by rw [hadd]; exact hcy j u hu) (by omega) h63 hbytes
      obtain ⟨a', c', hv, rest⟩ := grows v' w' h2 h3
      exact ⟨a', c', w', by rw [hrun, hv], rest⟩
theorem wp_app_mid {w : World} {o : Oper} {A : Act} {K : Act → World → Prop} {Q : Exit → Act → World → Prop} {s x : Operand} {t e : TypeId} {z : Value} {size bytes : Nat}
    {a : Option Addr} {n c : Nat} {xs : List Value} {b : Option Addr} {m d : Nat} {ys : List Value}
    (h : ∀ a' c' w', Mid w' a' (n + m) c' size (xs ++ ys) → Kept (blkC a c) w w' → (∀ g ∈ blkC a' c', g ∈ blkC a c ∨ w.heap.size ≤ g) → K (A.put o.dst (.slice a' (n + m) c')) w')
    (T : ElemT P t e z size bytes) (ho : o.op = .call { callee := .builtin .append, args := #[s, x], argTypes := #[t, t] })
    (hs : A.eval s = .slice a n c) (hm : Mid w a n c size xs) (hx : A.eval x = .slice b m d) (hr : Rd w b m size ys) (h1 : ∀ u ∈ ys, u.oneCell' = true) (hm0 : 0 < m)
    (hbytes : (n + m) * bytes ≤ 140737488355328) : o.wp P A w K Q := by
  obtain ⟨a', c', w', hrun, h2, h3, h4⟩ := run_app_mid (P := P) w t o.type e T a n c xs hm b m d ys hr h1 hm0 hbytes
  unfold Oper.wp execOp
  simp only [ho, resolve, invoke, builtin, Sem.run_bind, Sem.run_pure, Result.andThen_ok, List.map_toArray, List.map_cons, List.map_nil, hs, hx, hrun]
  exact h a' c' w' h2 h3 h4
end
section
variable {α : Type} {f : α → List Value} {k : Nat} {P : Program}
theorem Mid.rowLen (h : RowOf f k) {w : World} {a : Option Addr} {n c : Nat} {l : List α} (hm : Mid w a n c k (rowsV f l)) : l.length = n := hm.rd.rowLen h
theorem add_block (x : Addr) (j : Nat) : (x.add j).block = x.block := by unfold Addr.add; split <;> rfl
/-- s[lo:] -/
theorem mid_slice_l (h : RowOf f k) {t : TypeId} (ht : P.underlying t = some (.slice (P.elem t))) (hs : ∀ w, (sizeOf (P.elem t)).run P w = .ok k w) (a : Option Addr) (n c lo : Nat) (h1 : lo ≤ n) (h3 : n ≤ c) (hc : c ≤ maxLen) :
    ∃ a2, (∀ w, (Instr.slice t (.slice a n c) (some (.int .i64 lo)) none none).run P w = .ok (.slice a2 (n - lo) (c - lo)) w) ∧ (∀ y ∈ blkC a2 (c - lo), y ∈ blkC a c) ∧
      ∀ w (l : List α), Mid w a n c k (rowsV f l) → Mid w a2 (n - lo) (c - lo) k (rowsV f (l.drop lo)) := by
  refine ⟨if c = lo then a else a.map (·.add (lo * k)), fun w => ?_, fun y hy => ?_, fun w l hm => ?_⟩
  · rw [run_slice_l (P := P) w t a n c ht .i64 lo (by omega) (by omega)]
    rw [hs]
    simp [Result.andThen, sliced]
  · unfold blkC at *
    split at hy
    · cases hy
    · rw [if_neg (by omega)] at hy
      rw [if_neg (by omega)]
      cases a with
      | none => cases hy
      | some x =>
        simp only [blk, Option.map_some, List.mem_singleton] at hy ⊢
        rw [hy, add_block]
  · have hl := hm.rowLen h
    obtain ⟨q1, q2, q3, q4⟩ := hm
    refine ⟨by rw [rowsV_len h, List.length_drop, hl], by omega, by omega, ?_⟩
    by_cases hz : c = lo
    · exact .inl (by omega)
    · rw [if_neg hz]
      rcases q4 with q4 | ⟨g, o, rfl, hr, hth⟩
      · omega
      · refine .inr ⟨g, o + lo * k, by simp [Addr.add], fun j u hu => ?_, there_off hth (by rw [← Nat.add_mul]; exact Nat.mul_le_mul_right _ (by omega))⟩
        have := hr _ u (rows_part h l lo n h1 (by omega) j (by rw [← hl, List.take_length]; exact hu))
        rwa [show o + lo * k + j = o + (lo * k + j) by omega]
/-- s[:hi] -/
theorem mid_slice_h (h : RowOf f k) {t : TypeId} (ht : P.underlying t = some (.slice (P.elem t))) (hs : ∀ w, (sizeOf (P.elem t)).run P w = .ok k w) (w0 : World) (a : Option Addr) (n c hi : Nat) (l : List α) (hm : Mid w0 a n c k (rowsV f l)) (h2 : hi ≤ n) :
    (∀ w, (Instr.slice t (.slice a n c) none (some (.int .i64 hi)) none).run P w = .ok (.slice a hi c) w) ∧
      ∀ w (l : List α), Mid w a n c k (rowsV f l) → Mid w a hi c k (rowsV f (l.take hi)) := by
  obtain ⟨q1, q2, q3, q4⟩ := hm
  refine ⟨fun w => ?_, fun w l hm => ?_⟩
  · rw [run_slice_h (P := P) w t a n c ht .i64 hi (by omega) (by omega)]
    rw [hs]
    rcases q4 with q4 | ⟨g, o, rfl, _, _⟩
    · simp [Result.andThen, sliced, q4]
    · simp [Result.andThen, sliced, Addr.add]
  · have hl := hm.rowLen h
    obtain ⟨q1, q2, q3, q4⟩ := hm
    refine ⟨by rw [rowsV_len h, List.length_take, Nat.min_eq_left (by omega)], by omega, by omega, ?_⟩
    rcases q4 with q4 | ⟨g, o, rfl, hr, hth⟩
    · exact .inl q4
    · refine .inr ⟨g, o, rfl, fun j u hu => ?_, hth⟩
      have := hr _ u (rows_part h l 0 hi (Nat.zero_le _) (by omega) j (by rw [List.drop_zero]; exact hu))
      rwa [Nat.zero_mul, Nat.zero_add] at this
theorem rowsV_split (h : RowOf f k) (l : List α) (i : Nat) (hi : i < l.length) : rowsV f l = rowsV f (l.take i) ++ (f l[i] ++ rowsV f (l.drop (i + 1))) := by
  have e : l = l.take i ++ l[i] :: l.drop (i + 1) := by rw [List.getElem_cons_drop, List.take_append_drop]
  conv => lhs; rw [e]
  rw [rowsV_app, rowsV_cons]
theorem rangeAt_left {w : World} {g o : Nat} {xs ys : List Value} (h : w.rangeAt g o (xs ++ ys)) : w.rangeAt g o xs := fun j v hv => h j v (by rw [List.getElem?_append_left (List.getElem?_eq_some_iff.1 hv).1]; exact hv)
theorem rangeAt_right {w : World} {g o : Nat} {xs ys : List Value} (h : w.rangeAt g o (xs ++ ys)) : w.rangeAt g (o + xs.length) ys := fun j v hv => by
  have := h (xs.length + j) v (by rw [List.getElem?_append_right (by omega), Nat.add_sub_cancel_left]; exact hv)
  rwa [show o + (xs.length + j) = o + xs.length + j by omega] at this
/-- One of them is written. -/
theorem Mid.setRow (h : RowOf f k) {w : World} {g o n c : Nat} {l : List α} (hm : Mid w (some ⟨g, o, none⟩) n c k (rowsV f l)) (i : Nat) (hi : i < l.length) (x : α) :
    Mid (w.setCells g (o + i * k) (f x)) (some ⟨g, o, none⟩) n c k (rowsV f (l.set i x)) := by
  have hl := hm.rowLen h
  obtain ⟨q1, q2, q3, q4⟩ := hm
  refine ⟨by rw [rowsV_len h, List.length_set, hl], q2, q3, ?_⟩
  rcases q4 with q4 | ⟨g', o', ha, hr, hth⟩
  · exact .inl q4
  · injection ha with ha
    injection ha with e1 e2 _
    subst e1 e2
    have hs := rowsV_split h l i hi
    rw [hs] at hr
    have hlen : (rowsV f (l.take i)).length = i * k := by rw [rowsV_len h, List.length_take, Nat.min_eq_left (by omega)]
    have hs2 := rowsV_split h (l.set i x) i (by simpa using hi)
    have e3 : (l.set i x)[i]'(by simpa using hi) = x := by simp
    have e4 : (l.set i x).take i = l.take i := by rw [List.take_set_of_le (Nat.le_refl _)]
    have e5 : (l.set i x).drop (i + 1) = l.drop (i + 1) := by rw [List.drop_set_of_lt (by omega)]
    rw [e3, e4, e5] at hs2
    rw [hs2]
    refine .inr ⟨g, o, rfl, rangeAt_app ?_ (rangeAt_app ?_ ?_), World.there_setCells hth _ _ _⟩
    · exact World.rangeAt_setCells_apart (rangeAt_left hr) g _ _ (.inr (.inl (by omega)))
    · rw [hlen]
      refine World.rangeAt_setCells_same w g _ _ (there_off hth ?_)
      rw [h.len, ← Nat.succ_mul]
      exact Nat.mul_le_mul_right _ (by omega)
    · have h5 := rangeAt_right (rangeAt_right hr)
      rw [hlen, h.len] at h5
      rw [hlen, h.len]
      exact World.rangeAt_setCells_apart h5 g _ _ (.inr (.inr (by rw [h.len]; exact Nat.le_refl _)))
/-- One of them can be written. -/
theorem Mid.thereAt (h : RowOf f k) {w : World} {g o n c : Nat} {l : List α} (hm : Mid w (some ⟨g, o, none⟩) n c k (rowsV f l)) (i : Nat) (hi : i < l.length) : w.there g (o + i * k) k := by
  have hl := hm.rowLen h
  obtain ⟨q1, q2, q3, q4⟩ := hm
  rcases q4 with q4 | ⟨g', o', ha, hr, hth⟩
  · omega
  · injection ha with ha
    injection ha with e1 e2 _
    subst e1 e2
    refine there_off hth ?_
    rw [← Nat.succ_mul]
    exact Nat.mul_le_mul_right _ (by omega)
/-- The first of them are cleared. -/
theorem run_clear_mid (h : RowOf f k) {t e : TypeId} {z : Value} {bytes : Nat} (T : ElemT P t e z k bytes) (hv : ∀ w, (zeroValue e).run P w = .ok z w) {d : α} (hd : f d = z.cells.toList) (w : World) (a : Option Addr) (n c hi : Nat) (l : List α) (hm : Mid w a n c k (rowsV f l)) (h2 : hi ≤ n) :
    ∃ w', (∀ ty, (Builtin.clear_ #[t] ty #[.slice a hi c]).run P w = .ok (.tuple #[]) w') ∧ Mid w' a n c k (rowsV f (List.replicate hi d ++ l.drop hi)) ∧ Kept (blkC a c) w w' := by
  have hl := hm.rowLen h
  have q := hm
  obtain ⟨q1, q2, q3, q4⟩ := q
  by_cases h0 : hi = 0
  · subst h0
    refine ⟨w, fun ty => ?_, by simpa using hm, Kept.refl _ _⟩
    cases a <;> simp [Builtin.clear_, run_underlying T.under]
  · rcases q4 with q4 | ⟨g, o, rfl, hr, hth⟩
    · omega
    have hz : (Builtin.zeroCells z.cells hi).toList = rowsV f (List.replicate hi d) := by
      have := made_is h hd hi
      rw [← this]
      unfold Builtin.zeroCells madeCells
      rw [T.zs]
    have hzl : (rowsV f (List.replicate hi d)).length = hi * k := by rw [rowsV_len h, List.length_replicate]
    have hthh : w.there g o (rowsV f (List.replicate hi d)).length := there_mono hth (by rw [hzl]; exact Nat.mul_le_mul_right _ (by omega))
    have hst := run_storeCells_cells (P := P) g o (rowsV f (List.replicate hi d)) 0 w (fun j hj => by rw [Nat.add_zero]; exact (hthh j hj).1) (fun j hj => by rw [Nat.add_zero]; exact (hthh j hj).2) (rowsV_oneCell h _)
    rw [Nat.add_zero] at hst
    refine ⟨w.setCells g o (rowsV f (List.replicate hi d)), fun ty => ?_, ⟨?_, q2, q3, .inr ⟨g, o, rfl, ?_, World.there_setCells hth _ _ _⟩⟩, ?_⟩
    · obtain ⟨m, rfl⟩ : ∃ m, hi = m + 1 := ⟨hi - 1, by omega⟩
      simp [Builtin.clear_, run_underlying T.under, hv, hz, hst]
    · rw [rowsV_len h, List.length_append, List.length_replicate, List.length_drop, hl]
      congr 1
      omega
    · rw [rowsV_app]
      refine rangeAt_app (World.rangeAt_setCells_same w g o _ hthh) ?_
      rw [hzl]
      have e : rowsV f l = rowsV f (l.take hi) ++ rowsV f (l.drop hi) := by rw [← rowsV_app, List.take_append_drop]
      rw [e] at hr
      have h5 := rangeAt_right hr
      rw [rowsV_len h, List.length_take, Nat.min_eq_left (by omega)] at h5
      exact World.rangeAt_setCells_apart h5 g _ _ (.inr (.inr (by rw [hzl]; exact Nat.le_refl _)))
    · unfold blkC
      rw [if_neg (by omega)]
      exact kept_setCells g _ _ _
end
end Go.Proofs.YtnkddhmhjnhgcaaGreatDoor
namespace Go.Proofs.YtnkddhmhjnhgcaaGreatDoor
open Go.RowKit
set_option linter.unusedVariables false
set_option maxRecDepth 100000

/-- A page of the program in a box. -/
def SgIn (W : World) (b : Nat) (p g : Int) (a : Option Addr) (n c : Nat) : Prop := W.heap[b]? = some (.cells #[.int .i64 p, .int .i64 g, .slice a n c] 102 (0, 0))
theorem SgIn.new (w : World) (p g : Int) (a : Option Addr) (n c : Nat) : SgIn (w.alloc (.cells #[.int .i64 p, .int .i64 g, .slice a n c] 102)) w.heap.size p g a n c := heap_alloc_new w _
theorem SgIn.kept {S : List Nat} {w w' : World} {b : Nat} {p g : Int} {a : Option Addr} {n c : Nat} (h : SgIn w b p g a n c) (hk : Kept S w w') (hb : b ∉ S) : SgIn w' b p g a n c := hk.heap h hb
theorem SgIn.at {w : World} {b : Nat} {p g : Int} {a : Option Addr} {n c : Nat} (h : SgIn w b p g a n c) : w.cell? ⟨b, 0, none⟩ = some (.int .i64 p) ∧ w.cell? ⟨b, 1, none⟩ = some (.int .i64 g) ∧ w.cell? ⟨b, 2, none⟩ = some (.slice a n c) := by
  have e := fun j => cell_of_row w b j _ _ _ h
  exact ⟨e 0, e 1, e 2⟩
theorem SgIn.froz {w : World} {b : Nat} {p g : Int} {a : Option Addr} {n c : Nat} (h : SgIn w b p g a n c) (j : Nat) : w.frozen? ⟨b, j, none⟩ = false := frozen_of_row h j
theorem SgIn.lt {w : World} {b : Nat} {p g : Int} {a : Option Addr} {n c : Nat} (h : SgIn w b p g a n c) : b < w.heap.size := World.block_lt_of_cell? w _ h.at.1
theorem SgIn.setLines {w : World} {b : Nat} {p g : Int} {a : Option Addr} {n c : Nat} (h : SgIn w b p g a n c) (a' : Option Addr) (n' c' : Nat) : SgIn (w.setCell ⟨b, 2, none⟩ (.slice a' n' c')) b p g a' n' c' := by
  unfold SgIn at *
  have := heap_setAt w b 2 (.slice a' n' c') _ _ h
  simpa using this
theorem SgIn.setGone {w : World} {b : Nat} {p g : Int} {a : Option Addr} {n c : Nat} (h : SgIn w b p g a n c) (g' : Int) : SgIn (w.setCell ⟨b, 1, none⟩ (.int .i64 g')) b p g' a n c := by
  unfold SgIn at *
  have := heap_setAt w b 1 (.int .i64 g') _ _ h
  simpa using this
theorem SgIn.range {w : World} {b : Nat} {p g : Int} {a : Option Addr} {n c : Nat} (h : SgIn w b p g a n c) : w.rangeAt b 0 [.int .i64 p, .int .i64 g, .slice a n c] := fun j v hv => by
  rw [cell_of_row w b (0 + j) _ _ _ h, Nat.zero_add]
  simpa using hv
theorem oneSg (p g : Int) (a : Option Addr) (n c : Nat) : (#[Value.int .i64 p, Value.int .i64 g, Value.slice a n c] : Array Value).all (·.oneCell') = true := by simp [Value.oneCell']
theorem wpList_store_sg {ops : Array Oper} {rest : List Oper} {op : Oper} {A : Act} {w : World} {Q : Exit → Act → World → Prop} {x y : Operand} (ho : op.op = .store 102 x y) (hgd : op.guard = none) (hd : op.dst = none) (b : Nat) (hx : A.eval x = .pointer (some ⟨b, 0, none⟩)) {p g : Int} {a : Option Addr} {n c : Nat} (hb : SgIn w b p g a n c)
    (p' g' : Int) (a' : Option Addr) (n' c' : Nat) (hy : A.eval y = .agg #[.int .i64 p', .int .i64 g', .slice a' n' c']) (h : ∀ w', SgIn w' b p' g' a' n' c' → Kept [b] w w' → wpList Tryz.prog ops Q rest A w') : wpList Tryz.prog ops Q (op :: rest) A w :=
  wpList_store_rowTo hgd 102 x y ho hd b #[.int .i64 p', .int .i64 g', .slice a' n' c'] hx hy 102 _ hb (by kernel_rfl) rfl (oneSg p' g' a' n' c') (h _ (setRow_heap w b _ _ _ _ hb) ((Kept.refl [b] w).setRow (.inl (by simp)) _))
theorem results_sg {fn : Func} {q : Tmp} {tmps : Array Value} {W : World} {b : Nat} {p g : Int} {a : Option Addr} {n c : Nat} (h : fn.results = #[.cell q 102]) (hp : tmps.getD q undef = .pointer (some ⟨b, 0, none⟩)) (hc : SgIn W b p g a n c) :
    (results fn tmps).run Tryz.prog W = .ok (.agg #[.int .i64 p, .int .i64 g, .slice a n c]) W := by
  have hl := run_loadVar_mid (P := Tryz.prog) W b 0 102 [.int .i64 p, .int .i64 g, .slice a n c] _ hc.range Tryz.underlying102 rfl (by kernel_rfl)
  rw [Array.getD_eq_getD_getElem?] at hp
  simp [results, h, hp, asAddr, hl]
/-- The field lines is stored. -/
theorem wp_store_sgL {op : Oper} {A : Act} {w : World} {K : Act → World → Prop} {Q : Exit → Act → World → Prop} {x y : Operand} (ho : op.op = .store 30 x y) (hd : op.dst = none) (b : Nat) (hx : A.eval x = .pointer (some ⟨b, 2, none⟩)) {p g : Int} {a : Option Addr} {n c : Nat} (hb : SgIn w b p g a n c)
    (a' : Option Addr) (n' c' : Nat) (hy : A.eval y = .slice a' n' c') (h : ∀ w', SgIn w' b p g a' n' c' → Kept [b] w w' → K A w') : op.wp Tryz.prog A w K Q := by
  have hst := run_storeCells_cells (P := Tryz.prog) b 2 [.slice a' n' c'] 0 w (fun j hj => by simp at hj; subst hj; rw [hb.at.2.2]; rfl) (fun j hj => hb.froz _) (by simp [Value.oneCell'])
  have hrun : (Instr.storeAt 30 (.pointer (some ⟨b, 2, none⟩)) (.slice a' n' c')).run Tryz.prog w = .ok () (w.setCell ⟨b, 2, none⟩ (.slice a' n' c')) := by
    have hq : (Tryz.prog.info? 30).map (·.size) = some 1 := by kernel_rfl
    cases hi : Tryz.prog.info? 30 with
    | none => simp [hi] at hq
    | some i =>
      have hs : i.size = 1 := by simp [hi] at hq; omega
      simp only [Nat.add_zero] at hst
      simp only [Instr.storeAt, Instr.sureAddr, Sem.run_bind, Sem.run_pure, Result.andThen_ok]
      simp [storeVar, sizeOf, typeInfo, hi, Value.cells, hs, hst]
      rfl
  unfold Oper.wp execOp
  simp only [ho, hx, hy, Sem.run_bind, Sem.run_pure, Result.andThen_ok, hrun]
  have := h _ (hb.setLines a' n' c') ((Kept.refl [b] w).setCell (.inl (by simp)) _)
  show K (A.put op.dst undef) _
  rw [hd]
  exact this
theorem wpList_store_sgL {ops : Array Oper} {rest : List Oper} {op : Oper} {A : Act} {w : World} {Q : Exit → Act → World → Prop} {x y : Operand} (ho : op.op = .store 30 x y) (hgd : op.guard = none) (hd : op.dst = none) (b : Nat) (hx : A.eval x = .pointer (some ⟨b, 2, none⟩)) {p g : Int} {a : Option Addr} {n c : Nat} (hb : SgIn w b p g a n c)
    (a' : Option Addr) (n' c' : Nat) (hy : A.eval y = .slice a' n' c') (h : ∀ w', SgIn w' b p g a' n' c' → Kept [b] w w' → wpList Tryz.prog ops Q rest A w') : wpList Tryz.prog ops Q (op :: rest) A w :=
  wpList_plain hgd fun _ hK => wp_store_sgL ho hd b hx hb a' n' c' hy (fun w' h1 h2 => hK _ _ (h w' h1 h2))

/-- What a pointer to a page leads to; a nil one to nothing. -/
def PtrS (w : World) (p : Option Addr) (pl g : Int) (a : Option Addr) (n c : Nat) : Prop := (p = none ∧ pl = 0 ∧ g = 0 ∧ a = none ∧ n = 0 ∧ c = 0) ∨ ∃ b, p = some ⟨b, 0, none⟩ ∧ SgIn w b pl g a n c
theorem PtrS.kept {w w' : World} {p : Option Addr} {pl g : Int} {a : Option Addr} {n c : Nat} (h : PtrS w p pl g a n c) (hk : Kept [] w w') : PtrS w' p pl g a n c := h.imp id fun ⟨b, h1, h2⟩ => ⟨b, h1, h2.kept hk (by simp)⟩
set_option maxHeartbeats 1000000 in
theorem orZero_any (p : Option Addr) (pl g : Int) (a : Option Addr) (n c : Nat) (w : World) (h : PtrS w p pl g a n c) :
    Calls Tryz.prog 73 #[.pointer p] w fun e w' => e = .returned (.agg #[.int .i64 pl, .int .i64 g, .slice a n c]) ∧ Kept [] w w' := by
  obtain ⟨W0, hW0⟩ : ∃ z : World, z = w.alloc (.cells #[.int .i64 0, .int .i64 0, .slice none 0 0] 102) := ⟨_, rfl⟩
  have hk0 : Kept [] w W0 := by rw [hW0]; exact (Kept.refl [] w).alloc _
  have hz0 : Hid (SgIn W0 w.heap.size 0 0 none 0 0) := hide (by rw [hW0]; exact SgIn.new w 0 0 none 0 0)
  rcases h with ⟨rfl, rfl, rfl, rfl, rfl, rfl⟩ | ⟨b, rfl, hb⟩
  · go_enter Tryz.func73, Tryz.ntmps73
    go_upto_region 1 with fail
    rw [← hW0]
    clear hW0
    go_wp2_with (refine wpList_store_sg rfl rfl rfl w.heap.size rfl hz0.out 0 0 none 0 0 rfl ?_; intro w7 hb7 hk7)
    refine bodyPost_ret (results_sg rfl rfl hb7) rfl ?_
    exact ⟨rfl, hk0.trans hk7 (by simp)⟩
  · have hb0 := hide (hb.kept hk0 (by simp))
    clear hb
    have hpp : ∀ w1, (binOp .eql 92 (.pointer (some ⟨b, 0, none⟩)) (.pointer none)).run Tryz.prog w1 = .ok (.bool false) w1 := fun w1 => by kernel_rfl
    go_enter Tryz.func73, Tryz.ntmps73
    go_upto_region 1 with fail
    rw [← hW0]
    clear hW0
    obtain ⟨q0, q1, q2⟩ := hb0.out.at
    go_wp2_with (refine wpList_store_sg rfl rfl rfl w.heap.size rfl hz0.out pl g a n c rfl ?_; intro w7 hb7 hk7)
    refine bodyPost_ret (results_sg rfl rfl hb7) rfl ?_
    exact ⟨rfl, hk0.trans hk7 (by simp)⟩

set_option maxHeartbeats 1000000 in
theorem Cap_any (p : Option Addr) (pl g : Int) (a : Option Addr) (n c : Nat) (w : World) (h : PtrS w p pl g a n c) :
    Calls Tryz.prog 77 #[.pointer p] w fun e w' => e = .returned (.int .i64 pl) ∧ Kept [] w w' := by
  have hO := hide (orZero_any p pl g a n c w h)
  clear h
  have hf : ∀ w1, (Instr.field 102 (.agg #[.int .i64 pl, .int .i64 g, .slice a n c]) 0).run Tryz.prog w1 = .ok (.int .i64 pl) w1 := fun w1 => by kernel_rfl
  go_enter Tryz.func77, Tryz.ntmps77
  go_wp2_with fail
  refine hO.out.mono ?_
  rintro e w1 ⟨rfl, hk⟩
  go_wp2_with fail
  go_ret
  exact ⟨rfl, hk⟩
set_option maxHeartbeats 1000000 in
theorem Gone_any (p : Option Addr) (pl g : Int) (a : Option Addr) (n c : Nat) (w : World) (h : PtrS w p pl g a n c) :
    Calls Tryz.prog 64 #[.pointer p] w fun e w' => e = .returned (.int .i64 g) ∧ Kept [] w w' := by
  have hO := hide (orZero_any p pl g a n c w h)
  clear h
  have hf : ∀ w1, (Instr.field 102 (.agg #[.int .i64 pl, .int .i64 g, .slice a n c]) 1).run Tryz.prog w1 = .ok (.int .i64 g) w1 := fun w1 => by kernel_rfl
  go_enter Tryz.func64, Tryz.ntmps64
  go_wp2_with fail
  refine hO.out.mono ?_
  rintro e w1 ⟨rfl, hk⟩
  go_wp2_with fail
  go_ret
  exact ⟨rfl, hk⟩
set_option maxHeartbeats 1000000 in
theorem Len_any (p : Option Addr) (pl g : Int) (a : Option Addr) (n c : Nat) (w : World) (h : PtrS w p pl g a n c) :
    Calls Tryz.prog 57 #[.pointer p] w fun e w' => e = .returned (.int .i64 n) ∧ Kept [] w w' := by
  have hO := hide (orZero_any p pl g a n c w h)
  clear h
  have hf : ∀ w1, (Instr.field 102 (.agg #[.int .i64 pl, .int .i64 g, .slice a n c]) 2).run Tryz.prog w1 = .ok (.slice a n c) w1 := fun w1 => by kernel_rfl
  go_enter Tryz.func57, Tryz.ntmps57
  go_wp2_with fail
  refine hO.out.mono ?_
  rintro e w1 ⟨rfl, hk⟩
  go_wp2_with fail
  go_ret
  exact ⟨rfl, hk⟩
set_option maxHeartbeats 1000000 in
theorem Room_any (p : Option Addr) (pl g : Int) (a : Option Addr) (n c : Nat) (w : World) (h : PtrS w p pl g a n c) (hg : 0 ≤ g) (hp : pl ≤ 100000) (hr : g + n ≤ pl) :
    Calls Tryz.prog 71 #[.pointer p] w fun e w' => e = .returned (.int .i64 (pl - g - n)) ∧ Kept [] w w' := by
  have h1 : IntKind.i64.wrap (pl - g) = pl - g := by rw [IntKind.wrap_i64]; omega
  have h2 : IntKind.i64.wrap (pl - g - (n : Int)) = pl - g - (n : Int) := by rw [IntKind.wrap_i64]; omega
  have h3 : wrap64 (pl - g) = pl - g := by unfold wrap64; omega
  have h4 : wrap64 (pl - g - (n : Int)) = pl - g - (n : Int) := by unfold wrap64; omega
  have hC := hide (Cap_any p pl g a n c w h)
  have hG := hide (fun w1 (hk : Kept [] w w1) => Gone_any p pl g a n c w1 (h.kept hk))
  have hL := hide (fun w1 (hk : Kept [] w w1) => Len_any p pl g a n c w1 (h.kept hk))
  clear h
  go_enter Tryz.func71, Tryz.ntmps71
  go_wp2_with fail
  refine hC.out.mono ?_
  rintro e w1 ⟨rfl, hk1⟩
  go_wp2_with fail
  refine (hG.out w1 hk1).mono ?_
  rintro e w2 ⟨rfl, hj2⟩
  have hk2 := hk1.trans hj2 (by simp)
  go_wp2_with fail
  refine (hL.out w2 hk2).mono ?_
  rintro e w3 ⟨rfl, hj3⟩
  have hk3 := hk2.trans hj3 (by simp)
  go_wp2_with fail
  go_ret
  exact ⟨rfl, hk3⟩
set_option maxHeartbeats 1000000 in
theorem made_any (p : Option Addr) (pl g : Int) (a : Option Addr) (n c : Nat) (w : World) (h : PtrS w p pl g a n c) (v : Bool) (hv : decide (0 < pl) = v) :
    Calls Tryz.prog 65 #[.pointer p] w fun e w' => e = .returned (.bool v) ∧ Kept [] w w' := by
  have hC := hide (Cap_any p pl g a n c w h)
  clear h
  have hv' := hide hv
  cases v
  · have h0 : ¬ (0 < pl) := by simpa using hv
    clear hv
    go_enter Tryz.func65, Tryz.ntmps65
    go_wp2_with fail
    refine hC.out.mono ?_
    rintro e w1 ⟨rfl, hk1⟩
    go_wp2_with fail
    go_ret
    exact ⟨ret_bool (by simp; try omega), hk1⟩
  · have h0 : 0 < pl := by simpa using hv
    clear hv
    go_enter Tryz.func65, Tryz.ntmps65
    go_wp2_with fail
    refine hC.out.mono ?_
    rintro e w1 ⟨rfl, hk1⟩
    go_wp2_with fail
    go_ret
    exact ⟨ret_bool (by simp; try omega), hk1⟩
set_option maxHeartbeats 1000000 in
theorem has_any (b : Nat) (pl g : Int) (a : Option Addr) (n c : Nat) (i : Int) (w : World) (h : SgIn w b pl g a n c) (v : Bool) (hv : decide (0 ≤ i ∧ i < n) = v) :
    Calls Tryz.prog 66 #[.pointer (some ⟨b, 0, none⟩), .int .i64 i] w fun e w' => e = .returned (.bool v) ∧ Kept [] w w' := by
  obtain ⟨q0, q1, q2⟩ := h.at
  clear h
  by_cases h0 : 0 ≤ i
  · by_cases h1 : i < (n : Int)
    · go_enter Tryz.func66, Tryz.ntmps66
      go_wp2_with fail
      go_ret
      exact ⟨ret_bool (by rw [← hv]; simp [h0, h1]), Kept.refl _ _⟩
    · go_enter Tryz.func66, Tryz.ntmps66
      go_wp2_with fail
      go_ret
      exact ⟨ret_bool (by rw [← hv]; simp [h0, h1]), Kept.refl _ _⟩
  · have h1 : i < 0 := by omega
    go_enter Tryz.func66, Tryz.ntmps66
    go_wp2_with fail
    go_ret
    exact ⟨ret_bool (by rw [← hv]; simp; try omega), Kept.refl _ _⟩
end Go.Proofs.YtnkddhmhjnhgcaaGreatDoor
namespace Go.Proofs.YtnkddhmhjnhgcaaGreatDoor
open Go.RowKit
set_option linter.unusedVariables false
set_option maxRecDepth 100000

theorem valid_len {l : List Cl} (h : validL l = true) : l.length ≤ 1000 := by unfold validL at h; simp at h; exact h.1
/-- A line's cells can be written. -/
def OwnL (w : World) (v : LnA) : Prop := ∃ l, Own w 0 86 v.a v.n v.c 16 (cellsV l)
theorem OwnL.kept {S : List Nat} {w w' : World} {v : LnA} (h : OwnL w v) (hk : Kept S w w') (hS : ∀ y ∈ blk v.a, y ∉ S) : OwnL w' v := h.imp fun l hl => hl.kept hk hS
theorem OwnL.lt {w : World} {v : LnA} (h : OwnL w v) : ∀ y ∈ blk v.a, y < w.heap.size := fun y hy => by obtain ⟨l, hl⟩ := h; exact (hl.ge y hy).2
theorem noA_own (w : World) : OwnL w noA := ⟨[], Own.nil w 0 _ 16⟩
/-- The blocks of lines. -/
def blkL (vs : List LnA) : List Nat := vs.flatMap fun v => blk v.a
theorem blkL_mem {vs : List LnA} {y : Nat} : y ∈ blkL vs ↔ ∃ v ∈ vs, y ∈ blk v.a := by simp [blkL]
theorem blks_L {vs : List LnA} : ∀ y ∈ blks vs, y ∈ blkL vs := fun y hy => by
  obtain ⟨v, hv, hy⟩ := List.mem_flatMap.1 hy
  unfold blkN at hy
  split at hy
  · cases hy
  · exact blkL_mem.2 ⟨v, hv, hy⟩
def Apart (vs : List LnA) : Prop := vs.Pairwise (fun u v => ∀ y ∈ blk u.a, y ∉ blk v.a)
/-- A page of the program: its box, its lines' slice, the lines' values. -/
structure PgIs (w : World) (b : Nat) (s : Sh) (a : Option Addr) (n c : Nat) (vs : List LnA) : Prop where
  box : SgIn w b s.places s.gone a n c
  mid : Mid w a n c 2 (rowsV lnV vs)
  lns : LnsAt w vs s.ls
  own : ∀ v ∈ vs, OwnL w v
  d1 : b ∉ blkC a c
  d2 : b ∉ blkL vs
  d3 : ∀ y ∈ blkC a c, y ∉ blkL vs
  d4 : Apart vs
  ok : shOk s
  p1 : 1 ≤ s.places
  p2 : s.places ≤ 1024
def pgB (b : Nat) (a : Option Addr) (c : Nat) (vs : List LnA) : List Nat := b :: (blkC a c ++ blkL vs)
def PG (w : World) (b : Nat) (s : Sh) (B : List Nat) : Prop := ∃ a n c vs, PgIs w b s a n c vs ∧ B = pgB b a c vs
theorem pgB_mem {b : Nat} {a : Option Addr} {c : Nat} {vs : List LnA} {y : Nat} : y ∈ pgB b a c vs ↔ y = b ∨ y ∈ blkC a c ∨ y ∈ blkL vs := by simp [pgB]
theorem PgIs.kept {S : List Nat} {w w' : World} {b : Nat} {s : Sh} {a : Option Addr} {n c : Nat} {vs : List LnA} (h : PgIs w b s a n c vs) (hk : Kept S w w') (hS : ∀ y ∈ pgB b a c vs, y ∉ S) : PgIs w' b s a n c vs :=
  ⟨h.box.kept hk (hS b (pgB_mem.2 (.inl rfl))), h.mid.kept hk (fun y hy => hS y (pgB_mem.2 (.inr (.inl hy)))), h.lns.kept hk (fun y hy => hS y (pgB_mem.2 (.inr (.inr (blks_L y hy))))), fun v hv => (h.own v hv).kept hk (fun y hy => hS y (pgB_mem.2 (.inr (.inr (blkL_mem.2 ⟨v, hv, hy⟩))))), h.d1, h.d2, h.d3, h.d4, h.ok, h.p1, h.p2⟩
theorem PgIs.lt {w : World} {b : Nat} {s : Sh} {a : Option Addr} {n c : Nat} {vs : List LnA} (h : PgIs w b s a n c vs) : ∀ y ∈ pgB b a c vs, y < w.heap.size := fun y hy => by
  rcases pgB_mem.1 hy with rfl | hy | hy
  · exact h.box.lt
  · exact h.mid.lt (by decide) y hy
  · obtain ⟨v, hv, hy⟩ := blkL_mem.1 hy
    exact (h.own v hv).lt y hy
theorem PgIs.vlen {w : World} {b : Nat} {s : Sh} {a : Option Addr} {n c : Nat} {vs : List LnA} (h : PgIs w b s a n c vs) : vs.length = n := h.mid.rowLen rowLn
theorem PgIs.llen {w : World} {b : Nat} {s : Sh} {a : Option Addr} {n c : Nat} {vs : List LnA} (h : PgIs w b s a n c vs) : s.ls.length = n := by rw [← h.lns.len, h.vlen]
theorem PG.kept (w w' : World) (b : Nat) (s : Sh) (B S : List Nat) (h : PG w b s B) (hk : Kept S w w') (hS : ∀ y ∈ B, y ∉ S) : PG w' b s B := by
  obtain ⟨a, n, c, vs, h, rfl⟩ := h
  exact ⟨a, n, c, vs, h.kept hk hS, rfl⟩
theorem PG.lt (w : World) (b : Nat) (s : Sh) (B : List Nat) (h : PG w b s B) : ∀ y ∈ B, y < w.heap.size := by
  obtain ⟨a, n, c, vs, h, rfl⟩ := h
  exact h.lt
theorem PG.ok (w : World) (b : Nat) (s : Sh) (B : List Nat) (h : PG w b s B) : shOk s ∧ 1 ≤ s.places ∧ s.places ≤ 1024 := by
  obtain ⟨a, n, c, vs, h, rfl⟩ := h
  exact ⟨h.ok, h.p1, h.p2⟩
theorem PG.start (w : World) (b : Nat) (k : Nat) (h1 : 1 ≤ k) (h2 : k ≤ 1024) (h : SgIn w b k 0 none 0 0) : PG w b ⟨k, 0, []⟩ [b] :=
  ⟨none, 0, 0, [], ⟨h, Mid.nil w 2, .nil, fun v hv => (by cases hv), by simp [blkC], by simp [blkL], by simp [blkC], List.Pairwise.nil, ⟨by simp, fun x hx => (by cases hx)⟩, h1, h2⟩, rfl⟩
theorem blkL_app (vs us : List LnA) : blkL (vs ++ us) = blkL vs ++ blkL us := by simp [blkL]
theorem blkL_one (v : LnA) : blkL [v] = blk v.a := by simp [blkL]
theorem blkL_sub {vs us : List LnA} (h : ∀ v ∈ us, v ∈ vs) : ∀ y ∈ blkL us, y ∈ blkL vs := fun y hy => by
  obtain ⟨v, hv, hy⟩ := blkL_mem.1 hy
  exact blkL_mem.2 ⟨v, h v hv, hy⟩
theorem Apart.app {vs us : List LnA} (h : Apart vs) (k : Apart us) (hd : ∀ y ∈ blkL vs, y ∉ blkL us) : Apart (vs ++ us) :=
  List.pairwise_append.2 ⟨h, k, fun u hu v hv y hy hm => hd y (blkL_mem.2 ⟨u, hu, hy⟩) (blkL_mem.2 ⟨v, hv, hm⟩)⟩
theorem Apart.one (v : LnA) : Apart [v] := List.pairwise_singleton _ _
theorem set_split {vs : List LnA} {i : Nat} (hi : i < vs.length) (v : LnA) : vs.set i v = vs.take i ++ v :: vs.drop (i + 1) := by
  rw [List.set_eq_take_append_cons_drop, if_pos hi]
theorem self_split {vs : List LnA} {i : Nat} (hi : i < vs.length) : vs = vs.take i ++ vs[i] :: vs.drop (i + 1) := by rw [List.getElem_cons_drop, List.take_append_drop]
theorem Apart.set {vs : List LnA} (h : Apart vs) {i : Nat} (hi : i < vs.length) {v : LnA} (hv : ∀ y ∈ blk v.a, y ∉ blkL vs) : Apart (vs.set i v) := by
  rw [set_split hi]
  have hs := self_split hi
  unfold Apart at h
  rw [hs] at h
  obtain ⟨h1, h2, h3⟩ := List.pairwise_append.1 h
  obtain ⟨h4, h5⟩ := List.pairwise_cons.1 h2
  refine List.pairwise_append.2 ⟨h1, List.pairwise_cons.2 ⟨fun u hu y hy hm => hv y hy (blkL_mem.2 ⟨u, List.mem_of_mem_drop hu, hm⟩), h5⟩, fun u hu x hx y hy hm => ?_⟩
  rcases List.mem_cons.1 hx with rfl | hx
  · exact hv y hm (blkL_mem.2 ⟨u, List.mem_of_mem_take hu, hy⟩)
  · exact h3 u hu x (List.mem_cons_of_mem _ hx) y hy hm

/-- Behind Push. -/
theorem PgIs.pushed {w w4 w5 w6 w7 : World} {b : Nat} {s : Sh} {a : Option Addr} {n c : Nat} {vs : List LnA} (h : PgIs w b s a n c vs) {x : Ln} (hv : validL x.l = true) (hroom : s.room ≠ 0)
    {a4 : Option Addr} {n4 c4 : Nat} {base : Nat} (hb : w.heap.size ≤ base) (ho4 : Own w4 base 86 a4 n4 c4 16 (cellsV x.l)) (hk4 : Kept [] w w4) (hk45 : Kept [] w4 w5)
    {a6 : Option Addr} {c6 : Nat} (hm6 : Mid w6 a6 (n + 1) c6 2 (rowsV lnV (vs ++ [⟨a4, n4, c4, x.s⟩]))) (hk6 : Kept (blkC a c) w5 w6) (hat6 : ∀ y ∈ blkC a6 c6, y ∈ blkC a c ∨ w5.heap.size ≤ y)
    (hb7 : SgIn w7 b s.places s.gone a6 (n + 1) c6) (hk7 : Kept [b] w6 w7) : ∃ B', PG w7 b (pushS s x).1 B' ∧ Kept (pgB b a c vs) w w7 ∧ ∀ y ∈ B', y ∈ pgB b a c vs ∨ w.heap.size ≤ y := by
  have e : (pushS s x).1 = ⟨s.places, s.gone, s.ls ++ [x]⟩ := by unfold pushS; rw [if_neg (by simp [hv]), if_neg hroom]
  have hok := push_ok (s := s) (x := x) h.ok
  rw [e] at hok ⊢
  have hk5 : Kept [] w w5 := hk4.trans hk45 (by simp)
  have hs4 := hk4.size
  have hs45 := hk45.size
  have hk06 : Kept (blkC a c) w w6 := (hk5.mono (by simp)).trans hk6 (fun y hy => .inl hy)
  have hbl := h.box.lt
  have hge4 : ∀ y ∈ blk a4, w.heap.size ≤ y := fun y hy => Nat.le_trans hb (ho4.ge y hy).1
  have hlt4 : ∀ y ∈ blk a4, y < w4.heap.size := fun y hy => (ho4.ge y hy).2
  have hltC : ∀ y ∈ blkC a c, y < w.heap.size := h.mid.lt (by decide)
  have hltL : ∀ y ∈ blkL vs, y < w.heap.size := fun y hy => h.lt y (pgB_mem.2 (.inr (.inr hy)))
  have ho7 : Own w7 base 86 a4 n4 c4 16 (cellsV x.l) := ((ho4.kept hk45 (by simp)).kept hk6 (fun y hy hm => by have := hge4 y hy; have := hltC y hm; omega)).kept hk7 (fun y hy hm => by simp at hm; have := hge4 y hy; omega)
  have hb6 : b ∉ blkC a6 c6 := fun hm => by
    rcases hat6 b hm with hm | hm
    · exact h.d1 hm
    · omega
  have hk07 : Kept (pgB b a c vs) w w7 := (hk06.mono (fun y hy => .inl (pgB_mem.2 (.inr (.inl hy))))).trans hk7 (fun y hy => by simp at hy; exact .inl (pgB_mem.2 (.inl hy)))
  have hS : ∀ {y}, y ∈ blkL vs → y ∉ blkC a c := fun hy hm => h.d3 _ hm hy
  have hSb : ∀ {y}, y ∈ blkL vs → y ∉ ([b] : List Nat) := fun hy hm => by simp at hm; subst hm; exact h.d2 hy
  refine ⟨pgB b a6 c6 (vs ++ [⟨a4, n4, c4, x.s⟩]), ⟨a6, n + 1, c6, _, ⟨hb7, hm6.kept hk7 (fun y hy hm => by simp at hm; subst hm; exact hb6 hy), ?_, fun v hv => ?_, hb6, ?_, ?_, ?_, hok, h.p1, h.p2⟩, rfl⟩, hk07, fun y hy => ?_⟩
  · exact ((h.lns.kept hk06 (fun y hy => hS (blks_L y hy))).kept hk7 (fun y hy => hSb (blks_L y hy))).app (.cons ⟨ho7.rd, rfl, ho7.caps.1, ho7.caps.2⟩ .nil)
  · rcases List.mem_append.1 hv with hv | hv
    · exact ((h.own v hv).kept hk06 (fun y hy => hS (blkL_mem.2 ⟨v, hv, hy⟩))).kept hk7 (fun y hy => hSb (blkL_mem.2 ⟨v, hv, hy⟩))
    · simp only [List.mem_singleton] at hv
      subst hv
      exact ⟨x.l, ho7.base (Nat.zero_le _)⟩
  · rw [blkL_app, blkL_one]
    intro hm
    rcases List.mem_append.1 hm with hm | hm
    · exact h.d2 hm
    · have := hge4 b hm; omega
  · intro y hy hm
    rw [blkL_app, blkL_one] at hm
    rcases List.mem_append.1 hm with hm | hm
    · rcases hat6 y hy with hy | hy
      · exact h.d3 y hy hm
      · have := hltL y hm; omega
    · have h1 := hge4 y hm
      have h2 := hlt4 y hm
      rcases hat6 y hy with hy | hy
      · have := hltC y hy; omega
      · omega
  · refine h.d4.app (Apart.one _) (fun y hy hm => ?_)
    rw [blkL_one] at hm
    have := hge4 y hm
    have := hltL y hy
    omega
  · rcases pgB_mem.1 hy with hy | hy | hy
    · exact .inl (pgB_mem.2 (.inl hy))
    · rcases hat6 y hy with hy | hy
      · exact .inl (pgB_mem.2 (.inr (.inl hy)))
      · exact .inr (by omega)
    · rw [blkL_app, blkL_one] at hy
      rcases List.mem_append.1 hy with hy | hy
      · exact .inl (pgB_mem.2 (.inr (.inr hy)))
      · exact .inr (hge4 y hy)

/-- Behind Set. -/
theorem PgIs.setted {w w4 w5 : World} {b : Nat} {s : Sh} {a : Option Addr} {n c : Nat} {vs : List LnA} (h : PgIs w b s a n c vs) {x : Ln} (hv : validL x.l = true) {i : Nat} (hi : i < n)
    {a4 : Option Addr} {n4 c4 : Nat} {base : Nat} (hb : w.heap.size ≤ base) (ho4 : Own w4 base 86 a4 n4 c4 16 (cellsV x.l)) (hk4 : Kept [] w w4)
    (hm5 : Mid w5 a n c 2 (rowsV lnV (vs.set i ⟨a4, n4, c4, x.s⟩))) (hk5 : Kept (blkC a c) w4 w5) : ∃ B', PG w5 b (setS s i x).1 B' ∧ Kept (pgB b a c vs) w w5 ∧ ∀ y ∈ B', y ∈ pgB b a c vs ∨ w.heap.size ≤ y := by
  have hl := h.llen
  have hvl := h.vlen
  have e : (setS s i x).1 = ⟨s.places, s.gone, s.ls.set i x⟩ := by unfold setS; rw [if_neg (by simp [hv]), if_neg (by omega)]; simp
  have hok := set_ok (s := s) (i := i) (x := x) h.ok
  rw [e] at hok ⊢
  have hbl := h.box.lt
  have hge4 : ∀ y ∈ blk a4, w.heap.size ≤ y := fun y hy => Nat.le_trans hb (ho4.ge y hy).1
  have hltC : ∀ y ∈ blkC a c, y < w.heap.size := h.mid.lt (by decide)
  have hltL : ∀ y ∈ blkL vs, y < w.heap.size := fun y hy => h.lt y (pgB_mem.2 (.inr (.inr hy)))
  have hk05 : Kept (blkC a c) w w5 := (hk4.mono (by simp)).trans hk5 (fun y hy => .inl hy)
  have ho5 := ho4.kept hk5 (fun y hy hm => by have := hge4 y hy; have := hltC y hm; omega)
  have hS : ∀ {y}, y ∈ blkL vs → y ∉ blkC a c := fun hy hm => h.d3 _ hm hy
  have hmem : ∀ y ∈ blkL (vs.set i ⟨a4, n4, c4, x.s⟩), y ∈ blkL vs ∨ y ∈ blk a4 := fun y hy => by
    obtain ⟨v, hv, hy⟩ := blkL_mem.1 hy
    rcases List.mem_or_eq_of_mem_set hv with hv | rfl
    · exact .inl (blkL_mem.2 ⟨v, hv, hy⟩)
    · exact .inr hy
  refine ⟨pgB b a c (vs.set i ⟨a4, n4, c4, x.s⟩), ⟨a, n, c, _, ⟨h.box.kept hk05 h.d1, hm5, ?_, fun v hv => ?_, h.d1, ?_, ?_, ?_, hok, h.p1, h.p2⟩, rfl⟩, hk05.mono (fun y hy => .inl (pgB_mem.2 (.inr (.inl hy)))), fun y hy => ?_⟩
  · exact (h.lns.kept hk05 (fun y hy => hS (blks_L y hy))).set (show LnAt w5 ⟨a4, n4, c4, x.s⟩ x from ⟨ho5.rd, rfl, ho5.caps.1, ho5.caps.2⟩) i
  · rcases List.mem_or_eq_of_mem_set hv with hv | rfl
    · exact (h.own v hv).kept hk05 (fun y hy => hS (blkL_mem.2 ⟨v, hv, hy⟩))
    · exact ⟨x.l, ho5.base (Nat.zero_le _)⟩
  · intro hm
    rcases hmem b hm with hm | hm
    · exact h.d2 hm
    · have := hge4 b hm; omega
  · intro y hy hm
    rcases hmem y hm with hm | hm
    · exact h.d3 y hy hm
    · have := hge4 y hm; have := hltC y hy; omega
  · exact h.d4.set (by omega) (fun y hy hm => by have := hge4 y hy; have := hltL y hm; omega)
  · rcases pgB_mem.1 hy with hy | hy | hy
    · exact .inl (pgB_mem.2 (.inl hy))
    · exact .inl (pgB_mem.2 (.inr (.inl hy)))
    · rcases hmem y hy with hy | hy
      · exact .inl (pgB_mem.2 (.inr (.inr hy)))
      · exact .inr (hge4 y hy)

/-- Behind a cut of the lines: what is left lies where it lay. -/
theorem PgIs.cut {w w5 : World} {b : Nat} {s : Sh} {a : Option Addr} {n c : Nat} {vs : List LnA} (h : PgIs w b s a n c vs) {s' : Sh} {us : List LnA} {a' : Option Addr} {n' c' : Nat}
    (hus : us.Sublist vs) (hsub : ∀ w, LnsAt w vs s.ls → LnsAt w us s'.ls) (hpl : s'.places = s.places) (hok : shOk s') (ha : ∀ y ∈ blkC a' c', y ∈ blkC a c)
    (hm5 : Mid w5 a' n' c' 2 (rowsV lnV us)) (hb5 : SgIn w5 b s'.places s'.gone a' n' c') (hk5 : Kept (b :: blkC a c) w w5) : PgIs w5 b s' a' n' c' us := by
  have hS : ∀ {y}, y ∈ blkL vs → y ∉ b :: blkC a c := fun hy hm => by
    rcases List.mem_cons.1 hm with rfl | hm
    · exact h.d2 hy
    · exact h.d3 _ hm hy
  have hL := blkL_sub (vs := vs) (us := us) (fun v hv => hus.subset hv)
  refine ⟨hb5, hm5, hsub w5 (h.lns.kept hk5 (fun y hy => hS (blks_L y hy))), fun v hv => (h.own v (hus.subset hv)).kept hk5 (fun y hy => hS (blkL_mem.2 ⟨v, hus.subset hv, hy⟩)), fun hm => h.d1 (ha b hm), fun hm => h.d2 (hL b hm), fun y hy hm => h.d3 y (ha y hy) (hL y hm), h.d4.sublist hus, hok, by rw [hpl]; exact h.p1, by rw [hpl]; exact h.p2⟩
end Go.Proofs.YtnkddhmhjnhgcaaGreatDoor
