/- Small words for memory: which blocks a call may have changed; a slice that reads as a list; append in these words. Nothing of the program is used here. -/
import Derived.WalkKit
import Derived.WalkSpells
import Derived.WalkLawsBesides
import Derived.BigQuiet
import Derived.Maps.AppendAt
import Derived.Deep.QuietTactic
namespace Go.Proofs.YtnkddhmhjnhgcaaGreatDoor
open Go.RowKit

theorem ret_int {k : IntKind} {a b : Int} (h : a = b) : Ending.returned (.int k a) = .returned (.int k b) := by rw [h]
theorem ret_bool {a b : Bool} (h : a = b) : Ending.returned (.bool a) = .returned (.bool b) := by rw [h]
theorem hide {p : Prop} (h : p) : Hid p := h

theorem quiet_left {P : Program} {f : FuncId} {args : Array Value} {w : World} {n : Nat} {v : Value}
    (h : Calls P f args (w.drewN n) fun e w' => e = .returned v ∧ w.drewN n = w') : Calls P f args (w.drewN n) fun e w'' => e = .returned v ∧ ∃ m, w'' = w.drewN m :=
  h.mono fun _ _ ⟨he, hm⟩ => ⟨he, n, hm.symm⟩
theorem quiet_left_add {P : Program} {f : FuncId} {args : Array Value} {w : World} {a n : Nat} {v : Value}
    (h : Calls P f args (w.drewN (a + n)) fun e w' => e = .returned v ∧ w.drewN (a + n) = w') : Calls P f args (w.drewN (a + n)) fun e w'' => e = .returned v ∧ ∃ m, w'' = w.drewN (a + m) :=
  h.mono fun _ _ ⟨he, hm⟩ => ⟨he, n, hm.symm⟩

/-- The block of a slice's address, if it has one. -/
def blk : Option Addr → List Nat
  | none => []
  | some x => [x.block]

/-- All blocks that were there, but for those in S, are as they were. -/
structure Kept (S : List Nat) (w w' : World) : Prop where
  os : w'.os = w.os
  tape : w'.tape = w.tape
  output : w'.output = w.output
  size : w.heap.size ≤ w'.heap.size
  block : ∀ k, k < w.heap.size → k ∉ S → w'.heap[k]? = w.heap[k]?

theorem Kept.refl (S : List Nat) (w : World) : Kept S w w := ⟨rfl, rfl, rfl, Nat.le_refl _, fun _ _ _ => rfl⟩

theorem Kept.trans {S T : List Nat} {a b c : World} (h : Kept S a b) (k : Kept T b c) (hT : ∀ x ∈ T, x ∈ S ∨ a.heap.size ≤ x) : Kept S a c :=
  ⟨k.os.trans h.os, k.tape.trans h.tape, k.output.trans h.output, Nat.le_trans h.size k.size, fun i hi hn =>
    (k.block i (Nat.lt_of_lt_of_le hi h.size) (fun hm => by rcases hT i hm with h1 | h1; exact hn h1; omega)).trans (h.block i hi hn)⟩

theorem Kept.mono {S T : List Nat} {a b : World} (h : Kept S a b) (hT : ∀ x ∈ S, x ∈ T ∨ a.heap.size ≤ x) : Kept T a b :=
  (Kept.refl T a).trans h hT

theorem Kept.drew {S : List Nat} {a w : World} (h : Kept S a w) : Kept S a w.drew := ⟨h.os, h.tape, h.output, h.size, h.block⟩
theorem Kept.drewN {S : List Nat} {a w : World} (h : Kept S a w) (n : Nat) : Kept S a (w.drewN n) := ⟨h.os, h.tape, h.output, h.size, h.block⟩

theorem Kept.alloc {S : List Nat} {a w : World} (h : Kept S a w) (o : Obj) : Kept S a (w.alloc o) :=
  ⟨h.os, h.tape, h.output, Nat.le_trans h.size (by simp), fun i hi hn => (Below.heap_alloc w o i (Nat.lt_of_lt_of_le hi h.size)).trans (h.block i hi hn)⟩

theorem Kept.setCell {S : List Nat} {a w : World} (h : Kept S a w) {p : Addr} (hp : p.block ∈ S ∨ a.heap.size ≤ p.block) (u : Value) : Kept S a (w.setCell p u) :=
  ⟨h.os, h.tape, h.output, by simpa [World.setCell] using h.size, fun i hi hn => (Below.heap_setCell w p u i (by
    rintro rfl
    rcases hp with hp | hp
    · exact hn hp
    · omega)).trans (h.block i hi hn)⟩

theorem Kept.grown {S : List Nat} {a w w' : World} {row : Option Nat} (h : Kept S a w) (hg : w.grownBy w' row) (hr : ∀ k, row = some k → k ∈ S ∨ a.heap.size ≤ k) : Kept S a w' :=
  ⟨hg.os.trans h.os, hg.tape.trans h.tape, hg.output.trans h.output, Nat.le_trans h.size hg.size, fun i hi hn =>
    (hg.block i (Nat.lt_of_lt_of_le hi h.size) (fun e => by rcases hr i e.symm with h1 | h1; exact hn h1; omega)).trans (h.block i hi hn)⟩

theorem Kept.below {S : List Nat} {w w' : World} (h : Kept S w w') (hS : ∀ x ∈ S, w.heap.size ≤ x) : Below w.heap.size w w' :=
  ⟨h.os, h.tape, h.output, h.size, fun k hk => h.block k hk (fun hm => by have := hS k hm; omega)⟩

theorem Kept.of_below {w w' : World} (h : Below w.heap.size w w') (S : List Nat) : Kept S w w' := ⟨h.os, h.tape, h.output, h.size, fun k hk _ => h.block k hk⟩

theorem Kept.cell {S : List Nat} {w w' : World} (h : Kept S w w') {p : Addr} {v : Value} (hc : w.cell? p = some v) (hp : p.block ∉ S) : w'.cell? p = some v :=
  (World.cell?_of_block (h.block p.block (World.block_lt_of_cell? w p hc) hp)).trans hc

theorem Kept.frozen {S : List Nat} {w w' : World} (h : Kept S w w') {p : Addr} {v : Value} {b : Bool} (hc : w.cell? p = some v) (hf : w.frozen? p = b) (hp : p.block ∉ S) : w'.frozen? p = b :=
  (World.frozen?_of_block (h.block p.block (World.block_lt_of_cell? w p hc) hp)).trans hf

theorem Kept.heap {S : List Nat} {w w' : World} (h : Kept S w w') {b : Nat} {o : Obj} (hc : w.heap[b]? = some o) (hp : b ∉ S) : w'.heap[b]? = some o := by
  have hlt : b < w.heap.size := by
    rcases Nat.lt_or_ge b w.heap.size with h1 | h1
    · exact h1
    · rw [Array.getElem?_eq_none h1] at hc; cases hc
  exact (h.block b hlt hp).trans hc

theorem heap_new_at {w : World} {o : Obj} {g : Nat} (h : g = w.heap.size) : (w.alloc o).heap[g]? = some o := by
  subst h
  exact heap_alloc_new w o
theorem cell_set_alloc {w : World} {b i : Nat} {u : Value} (h : w.cell? ⟨b, i, none⟩ = some u) (v : Value) (o : Obj) : ((w.setCell ⟨b, i, none⟩ v).alloc o).cell? ⟨b, i, none⟩ = some v := by
  have hlt : b < w.heap.size := World.block_lt_of_cell? w _ h
  have hs : (w.setCell ⟨b, i, none⟩ v).cell? ⟨b, i, none⟩ = some v := World.cell?_setCell_same _ _ _ h
  exact ((Kept.refl [] _).alloc o).cell hs (by simp)

/-- A slice's value leads to n elements of so many cells each, which hold xs. -/
def Rd (w : World) (a : Option Addr) (n size : Nat) (xs : List Value) : Prop :=
  xs.length = n * size ∧ (xs = [] ∨ ∃ b o, a = some ⟨b, o, none⟩ ∧ ∀ j u, xs[j]? = some u → w.cell? ⟨b, o + j, none⟩ = some u)

/-- A slice that is the call's own: n elements, in a row of a block from 'base' on. -/
def Own (w : World) (base : Nat) (E : TypeId) (a : Option Addr) (n c size : Nat) (xs : List Value) : Prop := w.ownsRow base E size (.slice a n c) n xs

def ints (k : IntKind) (l : List Int) : List Value := l.map (Value.int k)

theorem ints_len (k : IntKind) (l : List Int) : (ints k l).length = l.length := by simp [ints]
theorem ints_one (k : IntKind) (l : List Int) : ∀ u ∈ ints k l, u.oneCell' = true := by
  intro u hu
  simp [ints] at hu
  obtain ⟨x, _, rfl⟩ := hu
  rfl
theorem ints_append (k : IntKind) (l m : List Int) : ints k l ++ ints k m = ints k (l ++ m) := by simp [ints]

theorem ints_snoc (k : IntKind) (l : List Int) (x : Int) : ints k l ++ [Value.int k x] = ints k (l ++ [x]) := by simp [ints]

theorem Rd.kept {S : List Nat} {w w' : World} {a : Option Addr} {n size : Nat} {xs : List Value} (h : Rd w a n size xs) (hk : Kept S w w') (hS : ∀ g ∈ blk a, g ∉ S) : Rd w' a n size xs := by
  refine ⟨h.1, ?_⟩
  rcases h.2 with h0 | ⟨b, o, rfl, hc⟩
  · exact .inl h0
  · exact .inr ⟨b, o, rfl, fun j u hu => hk.cell (hc j u hu) (hS b (by simp [blk]))⟩

/-- The cell of an element of a slice of integers. -/
theorem Rd.at {w : World} {b o : Nat} {k : IntKind} {l : List Int} (h : ∀ j u, (ints k l)[j]? = some u → w.cell? ⟨b, o + j, none⟩ = some u) (i : Nat) (hi : i < l.length) : w.cell? ⟨b, o + i, none⟩ = some (.int k l[i]) :=
  h i _ (by simp [ints, List.getElem?_eq_getElem hi])
theorem take_snoc {l : List Int} {k : Nat} (h : k < l.length) : l.take (k + 1) = l.take k ++ [l[k]] := by
  rw [List.take_succ_eq_append_getElem h]

/-- A slice with elements lies in a block that is there. -/
theorem Rd.lt {w : World} {a : Option Addr} {n size : Nat} {xs : List Value} (h : Rd w a n size xs) (hne : xs ≠ []) : ∀ g ∈ blk a, g < w.heap.size := by
  rcases h.2 with h0 | ⟨b, o, rfl, hc⟩
  · exact absurd h0 hne
  · intro g hg
    simp [blk] at hg
    subst hg
    match xs, hne with
    | x :: r, _ => exact World.block_lt_of_cell? w _ (hc 0 x (by simp))
theorem ints_ne {k : IntKind} {l : List Int} (h : l ≠ []) : ints k l ≠ [] := by simpa [ints] using h

theorem Rd.nil (w : World) (a : Option Addr) (size : Nat) : Rd w a 0 size [] := ⟨by simp, .inl rfl⟩

theorem Own.nil (w : World) (base : Nat) (E : TypeId) (size : Nat) : Own w base E none 0 0 size [] := World.ownsRow_nil w base E size

theorem Own.len {w : World} {base : Nat} {E : TypeId} {a : Option Addr} {n c size : Nat} {xs : List Value} (h : Own w base E a n c size xs) : xs.length = n * size := h.1

theorem Own.rd {w : World} {base : Nat} {E : TypeId} {a : Option Addr} {n c size : Nat} {xs : List Value} (h : Own w base E a n c size xs) : Rd w a n size xs := by
  refine ⟨h.1, ?_⟩
  rcases h.2 with ⟨hv, h0⟩ | ⟨g, cap, cur, hv, _, hg, _, _, _, ht⟩
  · left
    apply List.eq_nil_of_length_eq_zero
    rw [h.1, h0, Nat.zero_mul]
  · injection hv with h1 h2 h3
    subst h1
    refine .inr ⟨g, 0, rfl, fun j u hu => ?_⟩
    rw [Nat.zero_add, cell_of_row w g j cur E (0, 0) hg]
    rw [← ht, List.getElem?_take] at hu
    split at hu
    · simpa using hu
    · cases hu

theorem Own.ge {w : World} {base : Nat} {E : TypeId} {a : Option Addr} {n c size : Nat} {xs : List Value} (h : Own w base E a n c size xs) : ∀ g ∈ blk a, base ≤ g ∧ g < w.heap.size := by
  intro g hg
  have := World.ownsRow.lt h g (by cases a <;> simp_all [blk, Value.ownBlock])
  exact this

theorem Own.kept {S : List Nat} {w w' : World} {base : Nat} {E : TypeId} {a : Option Addr} {n c size : Nat} {xs : List Value} (h : Own w base E a n c size xs) (hk : Kept S w w') (hS : ∀ g ∈ blk a, g ∉ S) : Own w' base E a n c size xs := by
  refine ⟨h.1, ?_⟩
  rcases h.2 with hn | ⟨g, cap, cur, hv, hb, hgg, rest⟩
  · exact .inl hn
  · refine .inr ⟨g, cap, cur, hv, hb, ?_, rest⟩
    injection hv with h1 h2 h3
    subst h1
    exact hk.heap hgg (hS g (by simp [blk]))

theorem Own.form {w : World} {base : Nat} {E : TypeId} {a : Option Addr} {n c size : Nat} {xs : List Value} (h : Own w base E a n c size xs) (hn : 0 < n) : ∃ g, a = some ⟨g, 0, none⟩ ∧ ∃ cur, w.heap[g]? = some (.cells cur E (0, 0)) := by
  rcases h.2 with ⟨_, h0⟩ | ⟨g, cap, cur, hv, _, hg, _⟩
  · omega
  · injection hv with h1 _ _
    exact ⟨g, h1, cur, hg⟩

theorem Own.alloc {w : World} {base : Nat} {E : TypeId} {a : Option Addr} {n c size : Nat} {xs : List Value} (h : Own w base E a n c size xs) (o : Obj) : Own (w.alloc o) base E a n c size xs :=
  h.kept ((Kept.refl [] w).alloc o) (by simp)

theorem Own.base {w : World} {base base' : Nat} {E : TypeId} {a : Option Addr} {n c size : Nat} {xs : List Value} (h : Own w base E a n c size xs) (hb : base' ≤ base) : Own w base' E a n c size xs := by
  refine ⟨h.1, ?_⟩
  rcases h.2 with hn | ⟨g, cap, cur, hv, hb', rest⟩
  · exact .inl hn
  · exact .inr ⟨g, cap, cur, hv, Nat.le_trans hb hb', rest⟩

/-- A slice's block is either one that there was, or new. -/
theorem Own.base_at {w : World} {base base' : Nat} {E : TypeId} {a : Option Addr} {n c size : Nat} {xs : List Value} (h : Own w base E a n c size xs) (hb : ∀ g ∈ blk a, base' ≤ g) : Own w base' E a n c size xs := by
  refine ⟨h.1, ?_⟩
  rcases h.2 with hn | ⟨g, cap, cur, hv, hb', rest⟩
  · exact .inl hn
  · refine .inr ⟨g, cap, cur, hv, ?_, rest⟩
    injection hv with h1 h2 h3
    subst h1
    exact hb g (by simp [blk])

/-- A whole block of one-cell elements that was made now: a slice over all of it. -/
theorem Own.of_block {w : World} {base : Nat} {E : TypeId} {g n : Nat} {cur : Array Value} (hb : base ≤ g) (hg : w.heap[g]? = some (.cells cur E (0, 0))) (hn : cur.size = n) (hm : n ≤ maxLen) : Own w base E (some ⟨g, 0, none⟩) n n 1 cur.toList := by
  refine ⟨by simp [hn], .inr ⟨g, n, cur, rfl, hb, hg, Nat.le_refl _, hm, by simp [hn], ?_⟩⟩
  rw [List.take_of_length_le (by simp [hn])]

theorem Rd.block {w : World} {g n : Nat} {cur : Array Value} {E : TypeId} {fr : Nat × Nat} (hg : w.heap[g]? = some (.cells cur E fr)) (hn : cur.size = n) : Rd w (some ⟨g, 0, none⟩) n 1 cur.toList := by
  refine ⟨by simp [hn], .inr ⟨g, 0, rfl, fun j u hu => ?_⟩⟩
  rw [Nat.zero_add, cell_of_row w g j cur E fr hg]
  simpa using hu

/-- What a function returns that returns a slice of the call's own: a list of integers; of what was there only the blocks S may have changed; the slice lies in a0's block, or in a new one. -/
def SliceRet (E : TypeId) (k : IntKind) (base : Nat) (S : List Nat) (w : World) (a0 : Option Addr) (l : List Int) (e : Ending) (w' : World) : Prop :=
  ∃ a n c, e = .returned (.slice a n c) ∧ Own w' base E a n c 1 (ints k l) ∧ Kept S w w' ∧ ∀ g ∈ blk a, g ∈ blk a0 ∨ w.heap.size ≤ g

section
variable {P : Program}

/-- append, whatever is appended, in these words. -/
theorem run_app (w : World) (t ty : TypeId) (base : Nat) (e : TypeId) (i : TypeInfo) (z : Value) (size bytes : Nat) (ht : P.underlying t = some (.slice e)) (hi : P.info? e = some i) (hz : i.zero = some z)
    (hsize : i.size = size) (hby : i.bytes = bytes) (hzs : z.cells.size = size) (hsz : 0 < size)
    (a : Option Addr) (n c : Nat) (xs : List Value) (hown : Own w base e a n c size xs)
    (b : Option Addr) (m d : Nat) (ys : List Value) (hr : Rd w b m size ys) (h1 : ∀ u ∈ ys, u.oneCell' = true)
    (h63 : n + m ≤ maxLen) (hbytes : (n + m) * bytes ≤ 140737488355328) (hbase : base ≤ w.heap.size) :
    ∃ a' c' w', (Builtin.append_ #[t, t] ty #[.slice a n c, .slice b m d]).run P w = .ok (.slice a' (n + m) c') w' ∧ Own w' base e a' (n + m) c' size (xs ++ ys) ∧ Kept (blk a) w w' ∧ (∀ g ∈ blk a', g ∈ blk a ∨ g = w.heap.size) := by
  have fin : ∀ v' w', w'.ownsRow base e size v' (n + m) (xs ++ ys) → w.grownBy w' (Value.slice a n c).ownBlock → (v'.ownBlock = (Value.slice a n c).ownBlock ∨ v'.ownBlock = some w.heap.size) →
      ∃ a' c', v' = .slice a' (n + m) c' ∧ Own w' base e a' (n + m) c' size (xs ++ ys) ∧ Kept (blk a) w w' ∧ (∀ g ∈ blk a', g ∈ blk a ∨ g = w.heap.size) := by
    intro v' w' ho hg hat
    have hk : Kept (blk a) w w' := (Kept.refl _ w).grown hg (fun k hk => by cases a <;> simp_all [blk, Value.ownBlock])
    rcases ho.2 with ⟨hv, h0⟩ | ⟨g, cap, cur, hv, _⟩
    · subst hv
      refine ⟨none, 0, by rw [h0], by rw [Own, h0]; rw [h0] at ho; exact ho, hk, by simp [blk]⟩
    · subst hv
      refine ⟨_, _, rfl, ho, hk, ?_⟩
      intro g' hg'
      simp [blk] at hg'
      subst hg'
      rcases hat with hat | hat
      · left; cases a <;> simp_all [blk, Value.ownBlock]
      · right; simpa [Value.ownBlock] using hat
  by_cases hm : m = 0
  · subst hm
    have hy : ys = [] := List.eq_nil_of_length_eq_zero (by rw [hr.1, Nat.zero_mul])
    subst hy
    cases b with
    | none =>
      have hrun : (Builtin.append_ #[t, t] ty #[.slice a n c, .slice none 0 d]).run P w = .ok (.slice a n c) w := by
        rcases hown.2 with ⟨hv, _⟩ | ⟨g, cap, cur, hv, _, _, hnc, _⟩
        · injection hv with q1 q2 q3
          subst q1 q2 q3
          simp [Builtin.append_, run_underlying ht, sizeOf, typeInfo, hi, Builtin.lenOf, Builtin.firstCells]
        · injection hv with q1 q2 q3
          subst q1 q3
          simp [Builtin.append_, run_underlying ht, sizeOf, typeInfo, hi, Builtin.lenOf, Builtin.firstCells, hnc, storeCells]
      obtain ⟨a', c', hv, rest⟩ := fin (.slice a n c) w (by simpa [Own] using hown) (World.grownBy.refl w _) (.inl rfl)
      exact ⟨a', c', w, by rw [hrun, hv], rest⟩
    | some ad =>
      obtain ⟨v', w', hrun, h2, h3, _, h5⟩ := run_append_own_at (P := P) w base t ty e i z size bytes ht hi hz hsize hby hzs hsz (.slice a n c) n xs hown ad 0 d [] (by simp) (by simp) (by simp) h63 hbytes hbase
      obtain ⟨a', c', hv, rest⟩ := fin v' w' h2 h3 h5
      exact ⟨a', c', w', by rw [hrun, hv], rest⟩
  · rcases hr.2 with h0 | ⟨bb, oo, rfl, hc⟩
    · exfalso
      have hq := hr.1
      rw [h0, List.length_nil] at hq
      rcases Nat.mul_eq_zero.1 hq.symm with h2 | h2 <;> omega
    · have hadd : ∀ j, (⟨bb, oo, none⟩ : Addr).add j = ⟨bb, oo + j, none⟩ := fun j => by unfold Addr.add; split <;> simp_all
      obtain ⟨v', w', hrun, h2, h3, _, h5⟩ := run_append_own_at (P := P) w base t ty e i z size bytes ht hi hz hsize hby hzs hsz (.slice a n c) n xs hown ⟨bb, oo, none⟩ m d ys hr.1 (fun j u hu => by rw [hadd]; exact hc j u hu) h1 h63 hbytes hbase
      obtain ⟨a', c', hv, rest⟩ := fin v' w' h2 h3 h5
      exact ⟨a', c', w', by rw [hrun, hv], rest⟩

/-- A slice type t, its elements' type, their zero, size and bytes. -/
structure ElemT (P : Program) (t E : TypeId) (z : Value) (size bytes : Nat) : Prop where
  under : P.underlying t = some (.slice E)
  info : (P.info? E).map (fun i => (i.zero, i.size, i.bytes)) = some (some z, size, bytes)
  zs : z.cells.size = size
  pos : 0 < size
  bpos : 0 < bytes

theorem run_appT (w : World) (ty : TypeId) (base : Nat) {t e : TypeId} {z : Value} {size bytes : Nat} (T : ElemT P t e z size bytes)
    {a : Option Addr} {n c : Nat} {xs : List Value} (hown : Own w base e a n c size xs)
    {b : Option Addr} {m : Nat} (d : Nat) {ys : List Value} (hr : Rd w b m size ys) (h1 : ∀ u ∈ ys, u.oneCell' = true) (hbytes : (n + m) * bytes ≤ 140737488355328) (hbase : base ≤ w.heap.size) :
    ∃ a' c' w', (Builtin.append_ #[t, t] ty #[.slice a n c, .slice b m d]).run P w = .ok (.slice a' (n + m) c') w' ∧ Own w' base e a' (n + m) c' size (xs ++ ys) ∧ Kept (blk a) w w' ∧ (∀ g ∈ blk a', g ∈ blk a ∨ w.heap.size ≤ g) := by
  obtain ⟨i, hi, hz0, hz1, hz2⟩ := info_parts T.info
  have h63 : n + m ≤ maxLen := by
    have : (n + m) * 1 ≤ (n + m) * bytes := Nat.mul_le_mul_left _ T.bpos
    unfold maxLen
    omega
  obtain ⟨a', c', w', hrun, h2, h3, h4⟩ := run_app (P := P) w t ty base e i z size bytes T.under hi hz0 hz1 hz2 T.zs T.pos a n c xs hown b m d ys hr h1 h63 hbytes hbase
  exact ⟨a', c', w', hrun, h2, h3, fun g hg => (h4 g hg).imp id (fun h => by omega)⟩

theorem wp_app {w : World} {o : Oper} {A : Act} {K : Act → World → Prop} {Q : Exit → Act → World → Prop} {s x : Operand} {base : Nat} {t e : TypeId} {z : Value} {size bytes : Nat}
    {a : Option Addr} {n c : Nat} {xs : List Value} {b : Option Addr} {m d : Nat} {ys : List Value}
    (h : ∀ a' c' w', Own w' base e a' (n + m) c' size (xs ++ ys) → Kept (blk a) w w' → (∀ g ∈ blk a', g ∈ blk a ∨ w.heap.size ≤ g) → K (A.put o.dst (.slice a' (n + m) c')) w')
    (T : ElemT P t e z size bytes) (ho : o.op = .call { callee := .builtin .append, args := #[s, x], argTypes := #[t, t] })
    (hs : A.eval s = .slice a n c) (hown : Own w base e a n c size xs) (hx : A.eval x = .slice b m d) (hr : Rd w b m size ys) (h1 : ∀ u ∈ ys, u.oneCell' = true)
    (hbytes : (n + m) * bytes ≤ 140737488355328) (hbase : base ≤ w.heap.size) : o.wp P A w K Q := by
  obtain ⟨a', c', w', hrun, h2, h3, h4⟩ := run_appT (P := P) w o.type base T hown d hr h1 hbytes hbase
  unfold Oper.wp execOp
  simp only [ho, resolve, invoke, builtin, Sem.run_bind, Sem.run_pure, Result.andThen_ok, List.map_toArray, List.map_cons, List.map_nil, hs, hx, hrun]
  exact h a' c' w' h2 h3 h4

theorem wpList_app {w : World} {ops : Array Oper} {rest : List Oper} {o : Oper} {A : Act} {Q : Exit → Act → World → Prop} {s x : Operand} {base : Nat} {t e : TypeId} {z : Value} {size bytes : Nat}
    {a : Option Addr} {n c : Nat} {xs : List Value} {b : Option Addr} {m d : Nat} {ys : List Value}
    (h : ∀ a' c' w', Own w' base e a' (n + m) c' size (xs ++ ys) → Kept (blk a) w w' → (∀ g ∈ blk a', g ∈ blk a ∨ w.heap.size ≤ g) → wpList P ops Q rest (A.put o.dst (.slice a' (n + m) c')) w')
    (hgd : o.guard = none) (T : ElemT P t e z size bytes) (ho : o.op = .call { callee := .builtin .append, args := #[s, x], argTypes := #[t, t] })
    (hs : A.eval s = .slice a n c) (hown : Own w base e a n c size xs) (hx : A.eval x = .slice b m d) (hr : Rd w b m size ys) (h1 : ∀ u ∈ ys, u.oneCell' = true)
    (hbytes : (n + m) * bytes ≤ 140737488355328) (hbase : base ≤ w.heap.size) : wpList P ops Q (o :: rest) A w :=
  wpList_plain hgd fun _ hK => wp_app (fun a' c' w' h2 h3 h4 => hK _ _ (h a' c' w' h2 h3 h4)) T ho hs hown hx hr h1 hbytes hbase

theorem step_app {w : World} {ops : Array Oper} {o : Oper} {A : Act} {K : Act → World → Prop} {Q : Exit → Act → World → Prop} {E : Prop} {s x : Operand} {base : Nat} {t e : TypeId} {z : Value} {size bytes : Nat}
    {a : Option Addr} {n c : Nat} {xs : List Value} {b : Option Addr} {m d : Nat} {ys : List Value}
    (h : ∀ a' c' w', Own w' base e a' (n + m) c' size (xs ++ ys) → Kept (blk a) w w' → (∀ g ∈ blk a', g ∈ blk a ∨ w.heap.size ≤ g) → K (A.put o.dst (.slice a' (n + m) c')) w')
    (hgd : o.guard = none) (T : ElemT P t e z size bytes) (ho : o.op = .call { callee := .builtin .append, args := #[s, x], argTypes := #[t, t] })
    (hs : A.eval s = .slice a n c) (hown : Own w base e a n c size xs) (hx : A.eval x = .slice b m d) (hr : Rd w b m size ys) (h1 : ∀ u ∈ ys, u.oneCell' = true)
    (hbytes : (n + m) * bytes ≤ 140737488355328) (hbase : base ≤ w.heap.size) :
    if Region.wanted o (yielded ops A.tmps) = true then Oper.wp P o A w K Q else E := by
  have hw : Region.wanted o (yielded ops A.tmps) = true := by simp [Region.wanted, hgd]
  rw [if_pos hw]
  exact wp_app h T ho hs hown hx hr h1 hbytes hbase

/-- string(bytes), whatever the bytes' slice is. -/
theorem run_bytes_string (w : World) (src e dst : TypeId) (hs : P.underlying src = some (.slice e)) (he : P.underlying e = some (.int .u8)) (hd : P.underlying dst = some .string)
    (a : Option Addr) (n c : Nat) (l : List Int) (hr : Rd w a n 1 (ints .u8 l)) : (convert src dst (.slice a n c)).run P w = .ok (.string (strOfNums l)) w := by
  have hl : l.length = n := by have := hr.1; rw [ints_len] at this; omega
  rcases hr.2 with h0 | ⟨b, o, rfl, hc⟩
  · have : l = [] := by simpa [ints] using h0
    subst this
    simp at hl
    subst hl
    cases a with
    | none => exact run_convert_bytes_nil w src e hs he 0 c dst hd
    | some ad =>
      obtain ⟨b, o, sp⟩ := ad
      rw [run_convert_bytes_string w src dst e _ 0 c hs he hd]
      simp [Conv.bytesToString, loadCells, loadCellsFrom, strOfNums]
      rfl
  · exact run_convert_bytes_arg w src e hs he b o n c l hl (fun i hi => hc i _ (by simp [ints, List.getD, List.getElem?_eq_getElem (show i < l.length by omega)])) dst hd
end

/-- A string's bytes as numbers. -/
def bytesL (s : ByteArray) : List Int := s.data.toList.map fun b => (b.toNat : Int)
theorem bytesL_len (s : ByteArray) : (bytesL s).length = s.size := by unfold bytesL; rw [List.length_map, Array.length_toList]; rfl
theorem bytesL_byte (s : ByteArray) : ∀ x ∈ bytesL s, 0 ≤ x ∧ x ≤ 255 := by
  intro x hx
  simp only [bytesL, List.mem_map] at hx
  obtain ⟨b, _, rfl⟩ := hx
  have := b.toNat_lt
  omega

/-- []byte(string): a slice in a new block. -/
theorem run_string_bytes {P : Program} (w : World) (src dst e : TypeId) (s : ByteArray) (hs : P.underlying src = some .string) (hd : P.underlying dst = some (.slice e)) (he : P.underlying e = some (.int .u8)) :
    ∃ c w', (convert src dst (.string s)).run P w = .ok (.slice (some ⟨w.heap.size, 0, none⟩) s.size c) w' ∧ Rd w' (some ⟨w.heap.size, 0, none⟩) s.size 1 (ints .u8 (bytesL s)) ∧ Kept [] w w' ∧ w.heap.size < w'.heap.size := by
  refine ⟨_, _, run_bytes_of_string w src dst e s hs hd he, ?_, (Kept.refl [] w).drew.alloc _, by simp⟩
  generalize grownCap w s.size 0 e = cap
  refine ⟨by rw [ints_len, bytesL_len, Nat.mul_one], .inr ⟨w.heap.size, 0, rfl, fun j u hu => ?_⟩⟩
  have hg := heap_alloc_new w.drew (.cells (bytesRow s cap) e ((bytesRow s cap).size, (bytesRow s cap).size + 1))
  have hj : j < s.data.size := by
    have hj' := (List.getElem?_eq_some_iff.1 hu).1
    rw [ints_len, bytesL_len] at hj'
    exact hj'
  have hc := cell_of_row (w.drew.alloc (.cells (bytesRow s cap) e ((bytesRow s cap).size, (bytesRow s cap).size + 1))) w.heap.size j _ _ _ hg
  rw [Nat.zero_add, hc, bytesRow_at s cap j hj]
  simp only [ints, bytesL, List.getElem?_map, Array.getElem?_toList, Array.getElem?_eq_getElem hj, Option.map_some, Option.some.injEq] at hu
  exact congrArg some hu
end Go.Proofs.YtnkddhmhjnhgcaaGreatDoor
