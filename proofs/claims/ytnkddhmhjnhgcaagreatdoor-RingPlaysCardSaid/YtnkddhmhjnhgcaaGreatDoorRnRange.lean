/- The program's Range of layer 8. -/
import Derived.Test.YtnkddhmhjnhgcaaGreatDoorRnTail
namespace Go.Proofs.YtnkddhmhjnhgcaaGreatDoor
open Go.RowKit
set_option linter.unusedVariables false
set_option maxRecDepth 100000
attribute [local go_sem] Oper.semAt_some

/-- Lines that are being gathered, in a slice whose box is lb; two numbers beside it. -/
structure LinesIs (w : World) (lb tb : Nat) (f t : Int) (ls : List Ln) (W : World) (a : Option Addr) (n c : Nat) (vs : List LnA) : Prop where
  box : Boxed W lb 30 (.slice a n c)
  own : Own W (w.heap.size + 2) 36 a n c 2 (rowsV lnV vs)
  lns : LnsAt W vs ls
  ow : ∀ v ∈ vs, ∃ x, Own W (w.heap.size + 2) 86 v.a v.n v.c 16 (cellsV x) ∧ x.length ≤ 1000
  ap : Apart vs
  d1 : ∀ v ∈ vs, ∀ y ∈ blk a, y ∉ blk v.a
  d2 : lb ∉ blk a
  d3 : ∀ v ∈ vs, lb ∉ blk v.a
  l2 : w.heap.size + 2 ≤ lb
  t1 : tb ≠ lb
  t2 : tb ∉ blk a
  cf : W.cell? ⟨w.heap.size, 0, none⟩ = some (.int .i64 f)
  ct : W.cell? ⟨w.heap.size + 1, 0, none⟩ = some (.int .i64 t)
  kw : Kept [] w W
  tlt : tb < W.heap.size
def LinesI (w : World) (lb tb : Nat) (f t : Int) (ls : List Ln) (W : World) : Prop := ∃ a n c vs, LinesIs w lb tb f t ls W a n c vs
section
variable {w W W2 : World} {lb tb : Nat} {f t : Int} {ls : List Ln} {a : Option Addr} {n c : Nat} {vs : List LnA}
theorem LinesIs.kept {S : List Nat} (h : LinesIs w lb tb f t ls W a n c vs) (hk : Kept S W W2) (h1 : lb ∉ S) (h2 : ∀ y ∈ blk a, y ∉ S) (h3 : ∀ v ∈ vs, ∀ y ∈ blk v.a, y ∉ S) (h4 : w.heap.size ∉ S) (h5 : w.heap.size + 1 ∉ S) (hw : Kept [] w W2) : LinesIs w lb tb f t ls W2 a n c vs :=
  ⟨hk.heap h.box h1, h.own.kept hk h2, h.lns.kept hk (fun y hy => by obtain ⟨v, hv, hy⟩ := List.mem_flatMap.1 hy; exact h3 v hv y (blkN_sub'' hy)), fun v hv => by obtain ⟨x, hx, hl⟩ := h.ow v hv; exact ⟨x, hx.kept hk (h3 v hv), hl⟩, h.ap, h.d1, h.d2, h.d3, h.l2, h.t1, h.t2, hk.cell h.cf h4, hk.cell h.ct h5, hw, Nat.lt_of_lt_of_le h.tlt hk.size⟩
theorem LinesI.keep (h : LinesI w lb tb f t ls W) (hk : Kept [] W W2) : LinesI w lb tb f t ls W2 := by
  obtain ⟨a, n, c, vs, h⟩ := h
  exact ⟨a, n, c, vs, h.kept hk (by simp) (by simp) (by simp) (by simp) (by simp) (h.kw.trans hk (by simp))⟩
theorem LinesI.put (h : LinesI w lb tb f t ls W) {k : Nat} {o : Obj} (hk : w.heap.size ≤ k) (ho : W.heap[k]? = some o) (hc : o.isCells = false) (o' : Obj) : LinesI w lb tb f t ls (W.putObj k o') := by
  obtain ⟨a, n, c, vs, h⟩ := h
  refine ⟨a, n, c, vs, h.kept (kept_put1 W k o') ?_ ?_ ?_ ?_ ?_ (h.kw.put hk o')⟩
  · simp only [List.mem_singleton]; exact IsC.ne ⟨_, h.box, rfl⟩ ho hc
  · intro y hy; simp only [List.mem_singleton]; exact (h.own.cells y hy).ne ho hc
  · intro v hv y hy; obtain ⟨x, hx, _⟩ := h.ow v hv; simp only [List.mem_singleton]; exact (hx.cells y hy).ne ho hc
  · simp only [List.mem_singleton]; exact (IsC.of_cell h.cf).ne ho hc
  · simp only [List.mem_singleton]; exact (IsC.of_cell h.ct).ne ho hc
/-- One line more. -/
theorem LinesIs.more {W5 W6 W7 : World} (h : LinesIs w lb tb f t ls W a n c vs) (hk5 : Kept [] W W5) {v : LnA} {x : Ln} {base : Nat} (hv : Own W5 base 86 v.a v.n v.c 16 (cellsV x.l)) (hb : W.heap.size ≤ base) (hvs : v.s = x.s) (hxl : x.l.length ≤ 1000)
    {a6 : Option Addr} {c6 : Nat} (ho6 : Own W6 (w.heap.size + 2) 36 a6 (n + 1) c6 2 (rowsV lnV (vs ++ [v]))) (hk6 : Kept (blk a) W5 W6) (hat6 : ∀ g ∈ blk a6, g ∈ blk a ∨ W5.heap.size ≤ g) (hb7 : Boxed W7 lb 30 (.slice a6 (n + 1) c6)) (hk7 : Kept [lb] W6 W7) :
    LinesIs w lb tb f t (ls ++ [x]) W7 a6 (n + 1) c6 (vs ++ [v]) ∧ Kept (lb :: blk a) W W7 := by
  have hs5 := hk5.size
  have hlb : lb < W.heap.size := h.box.lt
  have hk57 : Kept (lb :: blk a) W5 W7 := (hk6.mono (fun y hy => .inl (List.mem_cons_of_mem _ hy))).trans hk7 (fun y hy => by simp at hy; subst hy; exact .inl (by simp))
  have hkA : Kept (lb :: blk a) W W7 := (hk5.mono (by simp)).trans hk57 (fun y hy => .inl hy)
  have hal : ∀ y ∈ blk a, w.heap.size + 2 ≤ y ∧ y < W.heap.size := fun y hy => h.own.ge y hy
  have hvl : ∀ y ∈ blk v.a, W.heap.size ≤ y ∧ y < W5.heap.size := fun y hy => ⟨Nat.le_trans hb (hv.ge y hy).1, (hv.ge y hy).2⟩
  have hol : ∀ u ∈ vs, ∀ y ∈ blk u.a, w.heap.size + 2 ≤ y ∧ y < W.heap.size := fun u hu y hy => by obtain ⟨z, hz, _⟩ := h.ow u hu; exact hz.ge y hy
  have hnS : ∀ u ∈ vs, ∀ y ∈ blk u.a, y ∉ lb :: blk a := fun u hu y hy hm => by
    rcases List.mem_cons.1 hm with rfl | hm
    · exact h.d3 u hu hy
    · exact h.d1 u hu y hm hy
  have hvS : ∀ y ∈ blk v.a, y ∉ lb :: blk a := fun y hy hm => by
    have := (hvl y hy).1
    rcases List.mem_cons.1 hm with rfl | hm
    · omega
    · have := (hal y hm).2; omega
  have hl2 := h.l2
  have hsw := h.kw.size
  have hv7 := hv.kept hk57 hvS
  have hn0 : w.heap.size ∉ lb :: blk a := fun hm => by
    rcases List.mem_cons.1 hm with h1 | h1
    · omega
    · have := (hal _ h1).1; omega
  have hn1 : w.heap.size + 1 ∉ lb :: blk a := fun hm => by
    rcases List.mem_cons.1 hm with h1 | h1
    · omega
    · have := (hal _ h1).1; omega
  refine ⟨⟨hb7, ho6.kept hk7 (fun y hy hm => ?_), ?_, fun u hu => ?_, ?_, fun u hu y hy hm => ?_, fun hm => ?_, fun u hu hm => ?_, hl2, h.t1, fun hm => ?_, hkA.cell h.cf hn0, hkA.cell h.ct hn1, h.kw.trans hkA (fun y hy => ?_), Nat.lt_of_lt_of_le h.tlt hkA.size⟩, hkA⟩
  · simp at hm; subst hm
    rcases hat6 _ hy with h1 | h1
    · exact h.d2 h1
    · omega
  · refine (h.lns.kept hkA (fun y hy => ?_)).app (.cons ⟨hv7.rd, hvs, hv7.caps.1, hv7.caps.2⟩ .nil)
    obtain ⟨u, hu, hy⟩ := List.mem_flatMap.1 hy
    exact hnS u hu y (blkN_sub'' hy)
  · rcases List.mem_append.1 hu with hu | hu
    · obtain ⟨z, hz, hzl⟩ := h.ow u hu
      exact ⟨z, hz.kept hkA (hnS u hu), hzl⟩
    · simp only [List.mem_singleton] at hu
      subst hu
      exact ⟨x.l, hv7.base_at (fun g hg => by have := (hvl g hg).1; omega), hxl⟩
  · refine h.ap.app (Apart.one _) (fun y hy hm => ?_)
    rw [blkL_one] at hm
    obtain ⟨u, hu, hy⟩ := blkL_mem.1 hy
    have := (hvl y hm).1
    have := (hol u hu y hy).2
    omega
  · rcases List.mem_append.1 hu with hu | hu
    · rcases hat6 y hy with h1 | h1
      · exact h.d1 u hu y h1 hm
      · have := (hol u hu y hm).2; omega
    · simp only [List.mem_singleton] at hu
      subst hu
      rcases hat6 y hy with h1 | h1
      · exact hvS y hm (List.mem_cons_of_mem _ h1)
      · have := (hvl y hm).2; omega
  · rcases hat6 _ hm with h1 | h1
    · exact h.d2 h1
    · omega
  · rcases List.mem_append.1 hu with hu | hu
    · exact h.d3 u hu hm
    · simp only [List.mem_singleton] at hu
      subst hu
      exact hvS _ hm (by simp)
  · have := h.tlt
    rcases hat6 _ hm with h1 | h1
    · exact h.t2 h1
    · omega
  · rcases List.mem_cons.1 hy with h1 | h1
    · exact .inr (by omega)
    · exact .inr (by have := (hal _ h1).1; omega)
theorem LinesIs.cells (h : LinesIs w lb tb f t ls W a n c vs) : ∀ y ∈ lb :: blk a, IsC W y := fun y hy => by
  rcases List.mem_cons.1 hy with rfl | hy
  · exact ⟨_, h.box, rfl⟩
  · exact h.own.cells y hy
end
theorem wpList_bsLn {ops : Array Oper} {rest : List Oper} {o : Oper} {A : Act} {w : World} {Q : Exit → Act → World → Prop} (parts : Array (Nat × Operand)) (ho : o.op = .buildSlice 30 1 parts) (hgd : o.guard = none) (v : LnA)
    (hf : Instr.fill (fun i => some (i * 2, 2)) ((Array.range (1 * 2)).map ((Value.agg #[.slice none 0 0, .bool false]).cells[· % (Value.agg #[.slice none 0 0, .bool false]).cells.size]!)) (parts.map fun (i, x) => (i, A.eval x)).toList = some (rowsV lnV [v]).toArray)
    (h : ∀ g w', w.heap.size ≤ g → Rd w' (some ⟨g, 0, none⟩) 1 2 (rowsV lnV [v]) → Kept [] w w' → wpList Tryz.prog ops Q rest (A.put o.dst (.slice (some ⟨g, 0, none⟩) 1 1)) w') : wpList Tryz.prog ops Q (o :: rest) A w :=
  wpList_plain hgd fun _ hK => wp_bsLn 1 parts ho [v] rfl (by decide) (by decide) hf (fun g w' h1 h2 h3 => hK _ _ (h g w' h1 h2 h3))
/-- What Range returns. -/
def Range8Ret (r : Rg) (f t : Int) (w : World) (e : Ending) (w' : World) : Prop := ∃ a n c vs, e = .returned (.tuple #[.slice a n c, .int .i64 (rangeG r f t).2]) ∧ LnsR w' a n vs (rangeG r f t).1 ∧ n ≤ c ∧ c ≤ maxLen ∧ (∀ y ∈ blk a, w.heap.size ≤ y) ∧ (∀ v ∈ vs, ∃ x, Own w' w.heap.size 86 v.a v.n v.c 16 (cellsV x) ∧ x.length ≤ 1000) ∧ Apart vs ∧ (∀ v ∈ vs, ∀ y ∈ blk a, y ∉ blk v.a) ∧ Kept [] w w'
theorem Range8Ret.bad {r : Rg} {f t : Int} {w w' : World} {z : Int} (he : rangeG r f t = ([], z)) (hk : Kept [] w w') : Range8Ret r f t w (.returned (.tuple #[.slice none 0 0, .int .i64 z])) w' :=
  ⟨none, 0, 0, [], by rw [he], by rw [he]; exact LnsR.nil _ _, Nat.le_refl _, Nat.zero_le _, by simp [blk], fun v hv => (by cases hv), List.Pairwise.nil, fun v hv => (by cases hv), hk⟩
theorem numP_at : ∀ (F : Nat) (ps : List PgX) (pre : List (Nat × PgX)) (x : Nat × PgX) (post : List (Nat × PgX)), numP F ps = pre ++ x :: post → x.1 = F + (lnsS (pre.map (fun y => y.2.s))).length ∧ shs ps = pre.map (fun y => y.2.s) ++ x.2.s :: post.map (fun y => y.2.s)
  | F, [], pre, x, post, h => by cases pre <;> simp [numP] at h
  | F, p :: ps, [], x, post, h => by
    simp only [numP, List.nil_append, List.cons.injEq] at h
    obtain ⟨rfl, h⟩ := h
    refine ⟨by simp [lnsS], ?_⟩
    rw [← h, numP_snd]
    rfl
  | F, p :: ps, y :: pre, x, post, h => by
    simp only [numP, List.cons_append, List.cons.injEq] at h
    obtain ⟨rfl, h⟩ := h
    obtain ⟨h1, h2⟩ := numP_at _ ps pre x post h
    refine ⟨?_, ?_⟩
    · rw [h1, List.map_cons, lnsS_cons, List.length_append]; show _ = F + (p.s.ls.length + _); omega
    · show p.s :: shs ps = _
      rw [h2]; rfl
theorem wpListIn_app_round {P : Program} {l k : Nat} {w : World} {ops : Array Oper} {rest : List Oper} {o : Oper} {A : Act} {Q : Exit → Act → World → Prop} {s x : Operand} {base : Nat} {t e : TypeId} {z : Value} {size bytes : Nat}
    {a : Option Addr} {n c : Nat} {xs : List Value} {b : Option Addr} {m d : Nat} {ys : List Value}
    (h : ∀ a' c' w', Own w' base e a' (n + m) c' size (xs ++ ys) → Kept (blk a) w w' → (∀ g ∈ blk a', g ∈ blk a ∨ w.heap.size ≤ g) → wpListIn (Fence.wide.inRound l) k P ops Q rest (A.put o.dst (.slice a' (n + m) c')) w')
    (hgd : o.guard = none) (T : ElemT P t e z size bytes) (ho : o.op = .call { callee := .builtin .append, args := #[s, x], argTypes := #[t, t] })
    (hs : A.eval s = .slice a n c) (hown : Own w base e a n c size xs) (hx : A.eval x = .slice b m d) (hr : Rd w b m size ys) (h1 : ∀ u ∈ ys, u.oneCell' = true)
    (hbytes : (n + m) * bytes ≤ 140737488355328) (hbase : base ≤ w.heap.size) : wpListIn (Fence.wide.inRound l) k P ops Q (o :: rest) A w :=
  wpListIn_plain hgd fun K hK => wpIn_of_wp (fun c hc => by rw [ho] at hc; cases hc) (wp_app (fun a' c' w' h2 h3 h4 => hK _ _ (h a' c' w' h2 h3 h4)) T ho hs hown hx hr h1 hbytes hbase)
theorem wpListIn_bsLn_round {l k : Nat} {ops : Array Oper} {rest : List Oper} {o : Oper} {A : Act} {w : World} {Q : Exit → Act → World → Prop} (parts : Array (Nat × Operand)) (ho : o.op = .buildSlice 30 1 parts) (hgd : o.guard = none) (v : LnA)
    (hf : Instr.fill (fun i => some (i * 2, 2)) ((Array.range (1 * 2)).map ((Value.agg #[.slice none 0 0, .bool false]).cells[· % (Value.agg #[.slice none 0 0, .bool false]).cells.size]!)) (parts.map fun (i, x) => (i, A.eval x)).toList = some (rowsV lnV [v]).toArray)
    (h : ∀ g w', w.heap.size ≤ g → Rd w' (some ⟨g, 0, none⟩) 1 2 (rowsV lnV [v]) → Kept [] w w' → wpListIn (Fence.wide.inRound l) k Tryz.prog ops Q rest (A.put o.dst (.slice (some ⟨g, 0, none⟩) 1 1)) w') : wpListIn (Fence.wide.inRound l) k Tryz.prog ops Q (o :: rest) A w :=
  wpListIn_plain hgd fun K hK => wpIn_of_wp (fun c hc => by rw [ho] at hc; cases hc) (wp_bsLn 1 parts ho [v] rfl (by decide) (by decide) hf (fun g w' h1 h2 h3 => hK _ _ (h g w' h1 h2 h3)))
theorem meas_lt2 {k n : Nat} (h : k < n) : n - (intOf (.int .i64 (((k + 1 : Nat) : Int)))).toNat < n - (intOf (.int .i64 (k : Int))).toNat := by
  show n - (((k + 1 : Nat) : Int)).toNat < n - ((k : Int)).toNat
  omega
theorem gath_step {X ls : List Ln} {T0 i j : Nat} {x : Ln} (h0 : i - X.length ≤ j) (hx : ls[j]? = some x) : X.drop i ++ (ls.take (j + 1)).drop (i - X.length) = (X.drop i ++ (ls.take j).drop (i - X.length)) ++ [x] := by
  obtain ⟨hj, rfl⟩ := List.getElem?_eq_some_iff.1 hx
  rw [List.take_succ_eq_append_getElem hj, List.drop_append_of_le_length (by rw [List.length_take]; omega), List.append_assoc]
theorem gath_end {X ls : List Ln} {T0 i j : Nat} (hL : X.length < T0) (h1 : min (T0 - X.length) ls.length ≤ j) (h2 : j ≤ min (T0 - X.length) ls.length ∨ j = i - X.length) : ((X ++ ls).take T0).drop i = X.drop i ++ (ls.take j).drop (i - X.length) := by
  have e1 : (X ++ ls).take T0 = X ++ ls.take (T0 - X.length) := by rw [List.take_append, List.take_of_length_le (by omega)]
  rw [e1, List.drop_append]
  congr 1
  rcases h2 with h2 | h2
  · have hj : j = min (T0 - X.length) ls.length := by omega
    rw [hj]
    congr 1
    by_cases hc : T0 - X.length ≤ ls.length
    · rw [Nat.min_eq_left hc]
    · rw [Nat.min_eq_right (by omega), List.take_of_length_le (by omega), List.take_length]
  · rw [List.drop_eq_nil_of_le (by rw [List.length_take]; omega), List.drop_eq_nil_of_le (by rw [List.length_take]; omega)]
theorem gath_stop {X Y : List Ln} {T0 i : Nat} (hL : T0 ≤ X.length) : ((X ++ Y).take T0).drop i = (X.take T0).drop i := by rw [List.take_append_of_le_length hL]
theorem range_end {r : Rg} {f t : Int} {w W : World} {lb tb D : Nat} {ls : List Ln} {a : Option Addr} {n c : Nat} {vs : List LnA} (hres : rangeG r f t = (ls, 0)) (h : LinesIs w lb tb f t ls W a n c vs) (hD : w.heap.size ≤ D) (hK : W.heap[D]? = some (.deferred (some []))) : Range8Ret r f t w (.returned (.tuple #[.slice a n c, .int .i64 0])) (W.putObj D (.deferred none)) := by
  have k := kept_put1 W D (.deferred none)
  have hn : ∀ y, IsC W y → y ∉ [D] := fun y hy hm => by simp only [List.mem_singleton] at hm; exact hy.ne hK rfl hm
  have ho := h.own.kept k (fun y hy => hn y (h.own.cells y hy))
  have hvn : ∀ v ∈ vs, ∀ y ∈ blk v.a, y ∉ [D] := fun v hv y hy => by obtain ⟨x, hx, _⟩ := h.ow v hv; exact hn y (hx.cells y hy)
  refine ⟨a, n, c, vs, by rw [hres], ?_, ho.caps.1, ho.caps.2, fun y hy => by have := (ho.ge y hy).1; omega, fun v hv => ?_, h.ap, h.d1, h.kw.put hD _⟩
  · rw [hres]
    exact ⟨ho.rd, h.lns.kept k (fun y hy => by obtain ⟨v, hv, hy⟩ := List.mem_flatMap.1 hy; exact hvn v hv y (blkN_sub'' hy))⟩
  · obtain ⟨x, hx, hl⟩ := h.ow v hv
    exact ⟨x, (hx.kept k (hvn v hv)).base (by omega), hl⟩
/-- No panic. -/
def calm (Q : Exit → Act → World → Prop) : Exit → Act → World → Prop
  | .panic _, _, _ => False
  | e, a, w => Q e a w
theorem calm_le (Q : Exit → Act → World → Prop) : ∀ e a w, calm Q e a w → Q e a w := fun e a w h => by cases e <;> first | exact h | exact h.elim
set_option maxHeartbeats 16000000 in
theorem range_main (w : World) (b : Nat) (r : Rg) (a : Option Addr) (n c : Nat) (ps : List PgX) (h : RnIs w b r a n c ps) (hle : r.ls.length ≤ r.limit) (hn : r.next ≤ 1000000000) (f t : Int) (X : Nat) (hX : r.next = X) (W0 : World) (hW0 : W0 = (w.alloc (.cells #[.int .i64 f] 3)).alloc (.cells #[.int .i64 t] 3)) (hk0 : Kept [] w W0) (hs0 : W0.heap.size = w.heap.size + 2)
    (hcf : Hid (W0.cell? ⟨w.heap.size, 0, none⟩ = some (.int .i64 f))) (hct : Hid (W0.cell? ⟨w.heap.size + 1, 0, none⟩ = some (.int .i64 t))) (h1 : 0 ≤ f) (h2 : f < t) (h3 : t ≤ (X : Int)) (h4 : (r.first : Int) ≤ f) :
    Calls Tryz.prog 36 #[.pointer (some ⟨b, 0, none⟩), .int .i64 f, .int .i64 t] w (Range8Ret r f t w) := by
  have hM := hide (made_rn (h.keep hk0))
  have hH := hide h
  have hbX := hide (fun w1 (hk : Kept [] W0 w1) => by have := (h.keep (hk0.trans hk (by simp))).box; rw [hX] at this; exact this)
  have hF : ∀ {w' : World}, Kept [] W0 w' → (w'.cell? ⟨w.heap.size, 0, none⟩ = some (.int .i64 f) ∧ w'.cell? ⟨w.heap.size + 1, 0, none⟩ = some (.int .i64 t)) ∧ w'.cell? ⟨b, 2, none⟩ = some (.int .i64 (r.first : Nat)) ∧ w'.cell? ⟨b, 3, none⟩ = some (.int .i64 (X : Nat)) := fun hk => ⟨⟨hk.cell hcf.out (by simp), hk.cell hct.out (by simp)⟩, (hbX.out _ hk).at.2.2.1, (hbX.out _ hk).at.2.2.2.1⟩
  have hnl := h.nlen
  obtain ⟨j, hj⟩ : ∃ j : Nat, f = (r.first : Int) + (j : Int) := ⟨f.toNat - r.first, by omega⟩
  have hjl : j < r.ls.length := by omega
  obtain ⟨k, i, p, hp, hi, hpi, hjj, hfind⟩ := find8_any w b r a n c ps h j hjl hn
  have hkn := h.klt hp
  obtain ⟨F, hFd⟩ : ∃ F : Nat, r.first + (lnsS (shs (ps.take k))).length = F := ⟨_, rfl⟩
  rw [show (shs ps).take k = shs (ps.take k) by simp [shs, List.map_take]] at hjj
  have hFi : f = (F : Int) + (i : Int) := by omega
  have htl := lnsS_take_le ps k
  have hll := h.llen
  have hFX : F ≤ X := by omega
  have hT := hide (fun w1 (hk : Kept [] W0 w1) => tail8_any w1 b r a n c ps (h.keep (hk0.trans hk (by simp))) hn k i F f hkn hFi (by omega) (by omega) (fun w2 hk2 => hfind w2 ((hk0.trans hk (by simp)).trans hk2 (by simp)) f hj))
  obtain ⟨D, hD⟩ : ∃ D : Nat, t - f = (D : Int) := ⟨(t - f).toNat, by omega⟩
  obtain ⟨T0, hT0⟩ : ∃ T0 : Nat, t = (F : Int) + (T0 : Int) := ⟨(t - F).toNat, by omega⟩
  have hwD : IntKind.i64.wrap (t - f) = (D : Int) := by rw [IntKind.wrap_i64]; omega
  have hDle : D ≤ 1100000 := by have := h.wf.l2; omega
  have hsumq : r.first + (lnsS (shs ps)).length = X := by rw [h.llen, ← hnl, hX]
  have hqs : lnsS (shs ps) = lnsS (shs (ps.take k)) ++ lnsS (shs (ps.drop k)) := by
    have e : shs ps = shs (ps.take k) ++ shs (ps.drop k) := by unfold shs; rw [← List.map_append, List.take_append_drop]
    rw [e, lnsS_app]
  have hql : F + (lnsS (shs (ps.drop k))).length = X := by have := congrArg List.length hqs; rw [List.length_append] at this; omega
  have hres : rangeG r f t = (((lnsS (shs (ps.drop k))).take T0).drop i, 0) := by
    unfold rangeG
    rw [hX, if_neg (by omega), if_neg (by omega), ← h.ls, hqs]
    have e1 : f.toNat - r.first = (lnsS (shs (ps.take k))).length + i := by omega
    have e2 : t.toNat - r.first = (lnsS (shs (ps.take k))).length + T0 := by omega
    rw [e1, e2, List.take_length_add_append, List.drop_length_add_append]
  have hft : (f == t) = false := by simp; omega
  have hlt1 : ¬ f < 0 := by omega
  have hlt2 : ¬ f > t := by omega
  have hlt3 : ¬ t > (X : Int) := by omega
  have hlt4 : ¬ f < (r.first : Int) := by omega
  have hd1 : decide (f < 0) = false := by simpa using hlt1
  have hd2 : decide (t < f) = false := by simpa using hlt2
  have hd3 : decide ((X : Int) < t) = false := by simpa using hlt3
  have hd4 : decide (f < (r.first : Int)) = false := by simpa using hlt4
  have hi1 : i ≤ 1100000 := by have := h.wf.l2; omega
  have hdl : (lnsS (shs (ps.drop k))).length ≤ 1100000 := by have := h.wf.l2; omega
  have hnum := hide (And.intro hFi (And.intro hT0 (And.intro hql (And.intro hi1 hdl))))
  replace hres := hide hres
  replace hX := hide hX
  replace hs0 := hide hs0
  replace hD := hide hD
  clear hdl htl hll hFX hnl hj hjl hpi hjj hfind hFd hFi hT0 hsumq hqs hql hi hp h h1 h2 h3 h4 hi1
  refine (callsIn_wide (n := 0)).1 ?_
  refine callsIn_of_wp_marks Tryz.func36 rfl trivial ?_ rfl
  simp only [Tryz.ntmps36, List.size_toArray, List.length_cons, List.length_nil, Nat.reduceAdd, Nat.reduceSub, Array.replicate_succ, Array.replicate_zero, List.push_toArray, List.append_toArray, List.nil_append, List.cons_append]
  refine wpIn_wide.2 ?_
  refine wp_mono ?_ (calm_le _)
  go_upto_region 1 with fail
  rw [← hW0]
  clear hW0
  go_wp2_with fail
  refine hM.out.mono ?_
  rintro e w1 ⟨rfl, hk1⟩
  go_upto_region 3 with fail
  refine wp_region_held_drew (S := (fun w' => (w'.cell? ⟨w.heap.size, 0, none⟩ = some (.int .i64 f) ∧ w'.cell? ⟨w.heap.size + 1, 0, none⟩ = some (.int .i64 t)) ∧ w'.cell? ⟨b, 2, none⟩ = some (.int .i64 (r.first : Nat)) ∧ w'.cell? ⟨b, 3, none⟩ = some (.int .i64 (X : Nat)))) (by kernel_rfl) ?_ (fun hHeld => ?_)
  · (try dsimp only); (exact hF hk1.drew)
  refine wpAnyH_take (i := 0) (v := ?_) rfl (by kernel_rfl) (by kernel_rfl) (by kernel_rfl) (fun _ _ _ h => h) (Or.inl ⟨by rfl, ?_⟩) (by assumption) ?_
  rotate_left
  · (intro wq hSw; (try dsimp only at hSw); go_simp; try with_reducible rfl)
  try simp only [Act.put, List.getElem_toArray, List.getElem_cons_zero, List.setIfInBounds_toArray, List.set_cons_zero, List.set_cons_succ]
  refine wpAnyH_take (i := 1) (v := ?_) rfl (by kernel_rfl) (by kernel_rfl) (by kernel_rfl) (fun _ _ _ h => h) (Or.inl ⟨by rfl, ?_⟩) (by assumption) ?_
  rotate_left
  · (intro wq hSw; (try dsimp only at hSw); go_simp; try with_reducible rfl)
  try simp only [Act.put, List.getElem_toArray, List.getElem_cons_succ, List.getElem_cons_zero, List.setIfInBounds_toArray, List.set_cons_zero, List.set_cons_succ]
  refine wpAnyH_take (i := 2) (v := ?_) rfl (by kernel_rfl) (by kernel_rfl) (by kernel_rfl) (fun _ _ _ h => h) (Or.inl ⟨by rfl, ?_⟩) (by assumption) ?_
  rotate_left
  · (intro wq hSw; (try dsimp only at hSw); go_simp; try with_reducible rfl)
  try simp only [Act.put, List.getElem_toArray, List.getElem_cons_succ, List.getElem_cons_zero, List.setIfInBounds_toArray, List.set_cons_zero, List.set_cons_succ]
  refine wpAnyH_take (i := 3) (v := ?_) rfl (by kernel_rfl) (by kernel_rfl) (by kernel_rfl) (fun _ _ _ h => h) (Or.inl ⟨by rfl, ?_⟩) (by assumption) ?_
  rotate_left
  · (intro wq hSw; (try dsimp only at hSw); go_simp; try with_reducible rfl)
  try simp only [Act.put, List.getElem_toArray, List.getElem_cons_succ, List.getElem_cons_zero, List.setIfInBounds_toArray, List.set_cons_zero, List.set_cons_succ]
  refine wpAnyH_take (i := 4) (v := ?_) rfl (by kernel_rfl) (by kernel_rfl) (by kernel_rfl) (fun _ _ _ h => h) (Or.inl ⟨by rfl, ?_⟩) (by assumption) ?_
  rotate_left
  · (intro wq hSw; (try dsimp only at hSw); go_simp; try with_reducible rfl)
  try simp only [Act.put, List.getElem_toArray, List.getElem_cons_succ, List.getElem_cons_zero, List.setIfInBounds_toArray, List.set_cons_zero, List.set_cons_succ]
  refine wpAnyH_take (i := 5) (v := ?_) rfl (by kernel_rfl) (by kernel_rfl) (by kernel_rfl) (fun _ _ _ h => h) (Or.inl ⟨by rfl, ?_⟩) (by assumption) ?_
  rotate_left
  · (intro wq hSw; (try dsimp only at hSw); go_simp; try with_reducible rfl)
  try simp only [Act.put, List.getElem_toArray, List.getElem_cons_succ, List.getElem_cons_zero, List.setIfInBounds_toArray, List.set_cons_zero, List.set_cons_succ]
  refine wpAnyH_take (i := 6) (v := ?_) rfl (by kernel_rfl) (by kernel_rfl) (by kernel_rfl) (fun _ _ _ h => h) (Or.inl ⟨by rfl, ?_⟩) (by assumption) ?_
  rotate_left
  · (intro wq hSw; (try dsimp only at hSw); go_simp; try with_reducible rfl)
  try simp only [Act.put, List.getElem_toArray, List.getElem_cons_succ, List.getElem_cons_zero, List.setIfInBounds_toArray, List.set_cons_zero, List.set_cons_succ]
  refine wpAnyH_take (i := 7) (v := ?_) rfl (by kernel_rfl) (by kernel_rfl) (by kernel_rfl) (fun _ _ _ h => h) (Or.inl ⟨by rfl, ?_⟩) (by assumption) ?_
  rotate_left
  · (intro wq hSw; (try dsimp only at hSw); go_simp; try with_reducible rfl)
  try simp only [Act.put, List.getElem_toArray, List.getElem_cons_succ, List.getElem_cons_zero, List.setIfInBounds_toArray, List.set_cons_zero, List.set_cons_succ]
  refine wpAnyH_take (i := 8) (v := ?_) rfl (by kernel_rfl) (by kernel_rfl) (by kernel_rfl) (fun _ _ _ h => h) (Or.inl ⟨by rfl, ?_⟩) (by assumption) ?_
  rotate_left
  · (intro wq hSw; (try dsimp only at hSw); go_simp; try with_reducible rfl)
  try simp only [Act.put, List.getElem_toArray, List.getElem_cons_succ, List.getElem_cons_zero, List.setIfInBounds_toArray, List.set_cons_zero, List.set_cons_succ]
  refine wpAnyH_take (i := 9) (v := ?_) rfl (by kernel_rfl) (by kernel_rfl) (by kernel_rfl) (fun _ _ _ h => h) (Or.inl ⟨by rfl, ?_⟩) (by assumption) ?_
  rotate_left
  · (intro wq hSw; (try dsimp only at hSw); go_simp; try with_reducible rfl)
  try simp only [Act.put, List.getElem_toArray, List.getElem_cons_succ, List.getElem_cons_zero, List.setIfInBounds_toArray, List.set_cons_zero, List.set_cons_succ]
  refine wpAnyH_take (i := 10) (v := ?_) rfl (by kernel_rfl) (by kernel_rfl) (by kernel_rfl) (fun _ _ _ h => h) (Or.inl ⟨by rfl, ?_⟩) (by assumption) ?_
  rotate_left
  · (intro wq hSw; (try dsimp only at hSw); go_simp; try with_reducible rfl)
  try simp only [Act.put, List.getElem_toArray, List.getElem_cons_succ, List.getElem_cons_zero, List.setIfInBounds_toArray, List.set_cons_zero, List.set_cons_succ]
  refine wpAnyH_take (i := 11) (v := ?_) rfl (by kernel_rfl) (by kernel_rfl) (by kernel_rfl) (fun _ _ _ h => h) (Or.inl ⟨by rfl, ?_⟩) (by assumption) ?_
  rotate_left
  · (intro wq hSw; (try dsimp only at hSw); go_simp; try with_reducible rfl)
  try simp only [Act.put, List.getElem_toArray, List.getElem_cons_succ, List.getElem_cons_zero, List.setIfInBounds_toArray, List.set_cons_zero, List.set_cons_succ]
  refine wpAnyH_take (i := 12) (v := ?_) rfl (by kernel_rfl) (by kernel_rfl) (by kernel_rfl) (fun _ _ _ h => h) (Or.inl ⟨by rfl, ?_⟩) (by assumption) ?_
  rotate_left
  · (intro wq hSw; (try dsimp only at hSw); go_simp; try with_reducible rfl)
  try simp only [Act.put, List.getElem_toArray, List.getElem_cons_succ, List.getElem_cons_zero, List.setIfInBounds_toArray, List.set_cons_zero, List.set_cons_succ]
  refine wpAnyH_take (i := 13) (v := ?_) rfl (by kernel_rfl) (by kernel_rfl) (by kernel_rfl) (fun _ _ _ h => h) (Or.inl ⟨by rfl, ?_⟩) (by assumption) ?_
  rotate_left
  · (intro wq hSw; (try dsimp only at hSw); go_simp; try with_reducible rfl)
  try simp only [Act.put, List.getElem_toArray, List.getElem_cons_succ, List.getElem_cons_zero, List.setIfInBounds_toArray, List.set_cons_zero, List.set_cons_succ]
  refine wpAnyH_take (i := 14) (v := ?_) rfl (by kernel_rfl) (by kernel_rfl) (by kernel_rfl) (fun _ _ _ h => h) (Or.inl ⟨by rfl, ?_⟩) (by assumption) ?_
  rotate_left
  · (intro wq hSw; (try dsimp only at hSw); go_simp; try with_reducible rfl)
  try simp only [Act.put, List.getElem_toArray, List.getElem_cons_succ, List.getElem_cons_zero, List.setIfInBounds_toArray, List.set_cons_zero, List.set_cons_succ]
  refine wpAnyH_take (i := 15) (v := ?_) rfl (by kernel_rfl) (by kernel_rfl) (by kernel_rfl) (fun _ _ _ h => h) (Or.inl ⟨by rfl, ?_⟩) (by assumption) ?_
  rotate_left
  · (intro wq hSw; (try dsimp only at hSw); go_simp; try with_reducible rfl)
  try simp only [Act.put, List.getElem_toArray, List.getElem_cons_succ, List.getElem_cons_zero, List.setIfInBounds_toArray, List.set_cons_zero, List.set_cons_succ]
  refine wpAnyH_done (by kernel_rfl) ?_ _
  go_upto_region 5 with fail
  refine wp_region_held_drew (S := (fun w' => (w'.cell? ⟨w.heap.size, 0, none⟩ = some (.int .i64 f) ∧ w'.cell? ⟨w.heap.size + 1, 0, none⟩ = some (.int .i64 t)) ∧ w'.cell? ⟨b, 2, none⟩ = some (.int .i64 (r.first : Nat)) ∧ w'.cell? ⟨b, 3, none⟩ = some (.int .i64 (X : Nat)))) (by kernel_rfl) ?_ (fun hHeld => ?_)
  · (try dsimp only); (exact hF hk1.drew.drew)
  refine wpAnyH_take (i := 0) (v := ?_) rfl (by kernel_rfl) (by kernel_rfl) (by kernel_rfl) (fun _ _ _ h => h) (Or.inl ⟨by rfl, ?_⟩) (by assumption) ?_
  rotate_left
  · (intro wq hSw; (try dsimp only at hSw); go_simp; try with_reducible rfl)
  try simp only [Act.put, List.getElem_toArray, List.getElem_cons_zero, List.setIfInBounds_toArray, List.set_cons_zero, List.set_cons_succ]
  refine wpAnyH_take (i := 1) (v := ?_) rfl (by kernel_rfl) (by kernel_rfl) (by kernel_rfl) (fun _ _ _ h => h) (Or.inl ⟨by rfl, ?_⟩) (by assumption) ?_
  rotate_left
  · (intro wq hSw; (try dsimp only at hSw); go_simp; try with_reducible rfl)
  try simp only [Act.put, List.getElem_toArray, List.getElem_cons_succ, List.getElem_cons_zero, List.setIfInBounds_toArray, List.set_cons_zero, List.set_cons_succ]
  refine wpAnyH_take (i := 2) (v := ?_) rfl (by kernel_rfl) (by kernel_rfl) (by kernel_rfl) (fun _ _ _ h => h) (Or.inl ⟨by rfl, ?_⟩) (by assumption) ?_
  rotate_left
  · (intro wq hSw; (try dsimp only at hSw); go_simp; try with_reducible rfl)
  try simp only [Act.put, List.getElem_toArray, List.getElem_cons_succ, List.getElem_cons_zero, List.setIfInBounds_toArray, List.set_cons_zero, List.set_cons_succ]
  refine wpAnyH_take (i := 3) (v := ?_) rfl (by kernel_rfl) (by kernel_rfl) (by kernel_rfl) (fun _ _ _ h => h) (Or.inl ⟨by rfl, ?_⟩) (by assumption) ?_
  rotate_left
  · (intro wq hSw; (try dsimp only at hSw); go_simp; try with_reducible rfl)
  try simp only [Act.put, List.getElem_toArray, List.getElem_cons_succ, List.getElem_cons_zero, List.setIfInBounds_toArray, List.set_cons_zero, List.set_cons_succ]
  refine wpAnyH_take (i := 4) (v := ?_) rfl (by kernel_rfl) (by kernel_rfl) (by kernel_rfl) (fun _ _ _ h => h) (Or.inl ⟨by rfl, ?_⟩) (by assumption) ?_
  rotate_left
  · (intro wq hSw; (try dsimp only at hSw); go_simp; try with_reducible rfl)
  try simp only [Act.put, List.getElem_toArray, List.getElem_cons_succ, List.getElem_cons_zero, List.setIfInBounds_toArray, List.set_cons_zero, List.set_cons_succ]
  refine wpAnyH_take (i := 5) (v := ?_) rfl (by kernel_rfl) (by kernel_rfl) (by kernel_rfl) (fun _ _ _ h => h) (Or.inl ⟨by rfl, ?_⟩) (by assumption) ?_
  rotate_left
  · (intro wq hSw; (try dsimp only at hSw); go_simp; try with_reducible rfl)
  try simp only [Act.put, List.getElem_toArray, List.getElem_cons_succ, List.getElem_cons_zero, List.setIfInBounds_toArray, List.set_cons_zero, List.set_cons_succ]
  refine wpAnyH_take (i := 6) (v := ?_) rfl (by kernel_rfl) (by kernel_rfl) (by kernel_rfl) (fun _ _ _ h => h) (Or.inl ⟨by rfl, ?_⟩) (by assumption) ?_
  rotate_left
  · (intro wq hSw; (try dsimp only at hSw); go_simp; try with_reducible rfl)
  try simp only [Act.put, List.getElem_toArray, List.getElem_cons_succ, List.getElem_cons_zero, List.setIfInBounds_toArray, List.set_cons_zero, List.set_cons_succ]
  refine wpAnyH_done (by kernel_rfl) ?_ _
  have hk2 : Kept [] W0 w1.drew.drew := hk1.drew.drew
  generalize w1.drew.drew = w2 at *
  obtain ⟨⟨q0, q1⟩, _, _⟩ := hF hk2
  have hs2 := hk2.size
  have hs0' := hs0.out
  go_upto_region 10 with (refine wpList_mk0 (n := D) (base := w.heap.size + 2) ?_ rfl elLine rfl rfl rfl rfl (by omega) (by omega); intro w3 ho3 hj3)
  have hs3 := hj3.size
  have hj35 : Kept [] w3 (w3.alloc (.cells #[.slice (some ⟨w2.heap.size, 0, none⟩) 0 D] 30)) := (Kept.refl [] w3).alloc _
  have hb5 : Boxed (w3.alloc (.cells #[.slice (some ⟨w2.heap.size, 0, none⟩) 0 D] 30)) w3.heap.size 30 (.slice (some ⟨w2.heap.size, 0, none⟩) 0 D) := Boxed.new _ _ _
  have ho5 := ho3.kept hj35 (by simp)
  clear q0 q1
  generalize w3.alloc (.cells #[.slice (some ⟨w2.heap.size, 0, none⟩) 0 D] 30) = w5 at *
  have hk5 : Kept [] W0 w5 := (hk2.trans hj3 (by simp)).trans hj35 (by simp)
  have hlt3 := (ho3.ge w2.heap.size (by simp [blk])).2
  obtain ⟨⟨q0, q1⟩, _, _⟩ := hF hk5
  have hs5 := hb5.lt
  have ho5 := hide ho5
  have hb5 := hide hb5
  go_wp2_with fail
  refine (hT.out w5 hk5).mono ?_
  rintro e w6 ⟨tb, a6, rfl, hraw6, htb, hj6, hTs⟩
  have hTs := hide hTs
  have hk6 := hk5.trans hj6 (by simp)
  have hI0 : LinesI w w3.heap.size tb f t [] w6 := ⟨some ⟨w2.heap.size, 0, none⟩, 0, D, [], ⟨hj6.heap hb5.out (by simp), ho5.out.kept hj6 (by simp), .nil, fun v hv => (by cases hv), List.Pairwise.nil, fun v hv => (by cases hv), by simp [blk]; omega, fun v hv => (by cases hv), by omega, by omega, by simp [blk]; omega, (hF hk6).1.1, (hF hk6).1.2, hk0.trans hk6 (by simp), hraw6.box.lt⟩⟩
  have hTlt := hide hraw6.lt
  have hs6 := hj6.size
  have hqsum : F + (lnsS (shs (ps.drop k))).length ≤ 2000000000 := by have := hnum.out; have := hX.out; omega
  go_wp2_with fail
  refine (wpIn_wide (n := 0)).1 ?_
  refine' wp_range_iter (gf := 52) (recv := #[.pointer (some ⟨tb, 0, none⟩)]) (encs := encP) (T := rnB tb a6 (c - k) (ps.drop k)) (items := numP F (ps.drop k)) rfl (enters_of Tryz.func52 (by kernel_rfl) rfl) (each8_iter w6 tb _ _ _ F r.places a6 (n - k) (c - k) (ps.drop k) hraw6 hqsum) (fun _ => rfl) hTlt.out
    (fun pre W => LinesI w w3.heap.size tb f t (((lnsS (pre.map fun y => y.2.s)).take T0).drop i) W) (fun id pre W => id = 1 ∧ LinesI w w3.heap.size tb f t (((lnsS (shs (ps.drop k))).take T0).drop i) W) (fun pre W W2 h hk => h.keep hk) (fun _ _ _ _ h hk => ⟨h.1, h.2.keep hk⟩) (fun pre W k o o' h hk ho hc => h.put (by omega) ho hc o') (fun _ pre W k o o' h hk ho hc => ⟨h.1, h.2.put (by omega) ho hc o'⟩) (by simpa [lnsS] using hI0) (fun x => { tmps := #[.pointer (some ⟨b, 0, none⟩), .int .i64 f, .int .i64 t, undef, .pointer (some ⟨w.heap.size, 0, none⟩), .pointer (some ⟨w.heap.size + 1, 0, none⟩), .slice none 0 0, .int .i64 0, .pointer (some ⟨w3.heap.size, 0, none⟩), .int .i64 (x.1 : Nat), .pointer (some ⟨x.2.b, 0, none⟩), undef, undef, undef, .bool false, .pointer (some ⟨b, 0, none⟩), .bool true, .bool false, .bool false, .int .i64 f, .bool false, .bool false, .int .i64 f, .int .i64 t, .bool false, .bool false, .bool false, .int .i64 t, .pointer (some ⟨b, 0, none⟩), .pointer (some ⟨b, 0, none⟩), .pointer (some ⟨b, 3, none⟩), .int .i64 (X : Nat), .bool false, .bool false, .bool false, .int .i64 f, .pointer (some ⟨b, 0, none⟩), .pointer (some ⟨b, 0, none⟩), .pointer (some ⟨b, 2, none⟩), .int .i64 (r.first : Nat), .bool false, .bool false, .int .i64 f, .int .i64 t, .bool false, .int .i64 t, .int .i64 f, .int .i64 (D : Nat), .slice (some ⟨w2.heap.size, 0, none⟩) 0 D, .pointer (some ⟨b, 0, none⟩), .int .i64 f, .pointer (some ⟨tb, 0, none⟩), .func (.func 52) #[.pointer (some ⟨tb, 0, none⟩)] #[], .int .i64 (x.1 : Nat), .pointer (some ⟨x.2.b, 0, none⟩), undef, undef, undef, undef, undef, undef, undef, undef, undef, undef, undef, undef, undef, undef, undef, undef, undef, undef, undef, undef, undef, undef, undef, undef, undef, undef, undef, undef], defers := [] }) ?assign ?body ?done ?stop
  case assign =>
    intro l x W K hK
    unfold encP
    gi_wp2
    exact hK
  case body =>
    rintro l pre ⟨N, p⟩ post W hx hoff hI
    obtain ⟨hNe, hsh⟩ := numP_at F (ps.drop k) pre (N, p) post hx
    simp only at hNe hsh
    have hmem : p ∈ ps.drop k := numP_mem _ _ (N, p) (by rw [hx]; simp)
    have hone := hH.out.one p (List.mem_of_mem_drop hmem)
    have hrawW := hraw6.off hoff
    have hpgW := hrawW.pgs p hmem
    obtain ⟨hFi, hT0, hql, hi1, hdl⟩ := hnum.out
    have hall : lnsS (shs (ps.drop k)) = lnsS (pre.map fun y => y.2.s) ++ (p.s.ls ++ lnsS (post.map fun y => y.2.s)) := by rw [hsh, lnsS_app, lnsS_cons]
    have hLle := congrArg List.length hall
    rw [List.length_append, List.length_append] at hLle
    have hpm : lnsS ((pre ++ [(N, p)]).map fun y => y.2.s) = lnsS (pre.map fun y => y.2.s) ++ p.s.ls := by rw [List.map_append, lnsS_app]; simp [lnsS]
    have hXle := hX.out
    obtain ⟨Xs, hXs⟩ : ∃ Xs, lnsS (pre.map fun y => y.2.s) = Xs := ⟨_, rfl⟩
    rw [hXs] at hNe hall hLle hpm hI
    replace hpm := hide hpm
    have hall' := hide hall
    have hPLb := (PG.ok _ _ _ _ hpgW).1.1
    have hPLp := hrawW.pl p hmem
    have hp2 := hH.out.wf.p2
    clear hsh hXs
    have hcells : W.cell? ⟨w.heap.size, 0, none⟩ = some (.int .i64 f) ∧ W.cell? ⟨w.heap.size + 1, 0, none⟩ = some (.int .i64 t) := by obtain ⟨aI, nI, cI, vI, hh⟩ := hI; exact ⟨hh.cf, hh.ct⟩
    obtain ⟨u0, u1⟩ := hcells
    by_cases hge : (N : Int) ≥ t
    · have hfin : Hid (KeepsFrom w6.heap.size W W ∧ (1 : Nat) = 1 ∧ LinesI w w3.heap.size tb f t (((lnsS (shs (ps.drop k))).take T0).drop i) W) := hide ⟨KeepsFrom.refl _ _, rfl, by rw [hall, gath_stop (by omega)]; exact hI⟩
      clear hFi hT0 hNe hall hLle hXle hql hPLb hPLp
      gi_wp2
      exact ⟨hfin.out.1, rfl, hfin.out.2.2⟩
    · have hlt : ¬ (N : Int) ≥ t := hge
      have hLT : Xs.length < T0 := by omega
      obtain ⟨Z, hZ⟩ : ∃ Z : Int, f - (N : Int) = Z := ⟨_, rfl⟩
      obtain ⟨j0, hj0⟩ : ∃ j0 : Nat, i - Xs.length = j0 := ⟨_, rfl⟩
      obtain ⟨E2, hE2⟩ : ∃ E2 : Nat, T0 - Xs.length = E2 := ⟨_, rfl⟩
      obtain ⟨PL, hPL⟩ : ∃ PL : Nat, p.s.ls.length = PL := ⟨_, rfl⟩
      obtain ⟨e, he⟩ : ∃ e : Nat, min E2 PL = e := ⟨_, rfl⟩
      have hwZ : IntKind.i64.wrap (f - (N : Int)) = Z := by rw [IntKind.wrap_i64]; omega
      have hmx : max Z 0 = (j0 : Int) := by omega
      have hwE : IntKind.i64.wrap (t - (N : Int)) = (E2 : Int) := by rw [IntKind.wrap_i64]; omega
      have hmn : min (E2 : Int) (PL : Int) = (e : Int) := by omega
      have hmn2 : min (PL : Int) (E2 : Int) = (e : Int) := by omega
      have hPLc : PL ≤ 1024 := by omega
      have hst : LinesI w w3.heap.size tb f t (Xs.drop i ++ (p.s.ls.take j0).drop (i - Xs.length)) W := by
        rw [List.take_of_length_le (by omega : Xs.length ≤ T0)] at hI
        have e0 : (p.s.ls.take j0).drop (i - Xs.length) = [] := List.drop_eq_nil_of_le (by rw [List.length_take]; omega)
        rw [e0, List.append_nil]
        exact hI
      have hst := hide hst
      have hcalc := hide (And.intro hLT (And.intro hj0 (And.intro hE2 (And.intro hPL (And.intro he (by omega : Xs.length ≤ 1100000))))))
      have hPgw := hide (fun w1 (hk : KeptOff (rnB tb a6 (c - k) (ps.drop k)) W w1) => (hrawW.off hk).pgs p hmem)
      have hTw := hide (hTlt.out)
      clear hFi hT0 hNe hZ hj0 hE2 hPL he hql hLle hLT hI hpgW hrawW hone hall hXle hx hmem hi1 hPLb hPLp hp2
      have hfl : Hid (∀ wr j, LinesI w w3.heap.size tb f t (Xs.drop i ++ (p.s.ls.take j).drop (i - Xs.length)) wr → e ≤ j → (j ≤ e ∨ j = j0) → LinesI w w3.heap.size tb f t (((lnsS ((pre ++ [(N, p)]).map fun y => y.2.s)).take T0).drop i) wr) := hide (fun wr j h1 h2 h3 => by
        obtain ⟨c1, c2, c3, c4, c5, c6⟩ := hcalc.out
        rw [hpm.out, gath_end (j := j) c1 (by omega) (by omega)]
        exact h1)
      gi_wp2
      gi_loopw [11] (fun s11 wr => ∃ j : Nat, s11 = .int .i64 j ∧ j0 ≤ j ∧ (j ≤ e ∨ j = j0) ∧ LinesI w w3.heap.size tb f t (Xs.drop i ++ (p.s.ls.take j).drop (i - Xs.length)) wr ∧ KeepsFrom w6.heap.size W wr ∧ KeptOff (rnB tb a6 (c - k) (ps.drop k)) W wr) (fun s11 _ => e - (intOf s11).toNat)
      case atStart => exact ⟨j0, rfl, Nat.le_refl _, .inr rfl, hst.out, KeepsFrom.refl _ _, KeptOff.refl _ _⟩
      case round =>
        obtain ⟨j, rfl, hj1, hj2, hIj, hKF, hKO⟩ := hrel
        clear u0 u1
        have hIj' := hide hIj
        obtain ⟨aI, nI, cI, vI, hLI⟩ := hIj
        have hpgj := hPgw.out wr hKO
        have hLC := hide (fun w1 (hk : Kept [] wr w1) => (PG.kept _ _ _ _ _ [] hpgj hk (by simp)).lenC)
        rw [hcalc.out.2.2.2.1] at hLC
        have hu1 : ∀ {w' : World}, Kept [] wr w' → w'.cell? ⟨w.heap.size + 1, 0, none⟩ = some (.int .i64 t) := fun hk => hk.cell hLI.ct (by simp)
        gi_wp2
        by_cases hlt2 : j < e
        · have hji : (j : Int) < (e : Int) := Int.ofNat_lt.2 hlt2
          have hjd : decide ((j : Int) < (e : Int)) = true := by simpa using hji
          have hcs := hcalc.out
          have hjp : j < p.s.ls.length := by omega
          have hx : p.s.ls[j]? = some p.s.ls[j] := List.getElem?_eq_getElem hjp
          have hgS : getS p.s (j : Int) = (p.s.ls[j], 0) := by
            unfold getS
            rw [if_neg (by omega)]
            simp [hjp]
          have hxl := valid_len ((PG.ok _ _ _ _ hpgj).1.2 _ (List.getElem_mem hjp))
          have hGt := hide (fun w1 (hk : Kept [] wr w1) => by have := (PG.kept _ _ _ _ _ [] hpgj hk (by simp)).get (j : Int); unfold GetRet at this; rw [hgS] at this; exact this)
          have hst2 := hide (gath_step (X := Xs) (T0 := T0) (i := i) (by omega) hx)
          have hwj : Hid (wrap64 ((j : Int) + 1) = ((j + 1 : Nat) : Int)) := hide (by unfold wrap64; omega)
          have hnI : nI ≤ 2000000 := by
            have h1 := hLI.lns.len
            have h2 := hLI.own.len
            rw [rowsV_len rowLn] at h2
            rw [List.length_append, List.length_drop, List.length_drop, List.length_take] at h1
            omega
          generalize p.s.ls[j] = x at *
          clear hx hgS hcs hjp
          refine region_round_held (S := (fun w' => w'.cell? ⟨w.heap.size + 1, 0, none⟩ = some (.int .i64 t))) (fun ⟨_, _, h⟩ => h) (noDefer_all (by kernel_rfl)) (by kernel_rfl) ?_ (fun hHeld => ?_)
          · (try dsimp only); (first | exact hu1 k4 | exact hu1 (Kept.refl [] wr).drew)
          refine wpAnyH_take (i := 0) (v := ?_) rfl (by kernel_rfl) (by kernel_rfl) (by kernel_rfl) (fun _ _ _ h => h) (Or.inl ⟨by rfl, ?_⟩) (by assumption) ?_
          rotate_left
          · (intro wq hSw; (try dsimp only at hSw); go_simp; try with_reducible rfl)
          try simp only [Act.put, List.getElem_toArray, List.getElem_cons_zero, List.setIfInBounds_toArray, List.set_cons_zero, List.set_cons_succ]
          refine wpAnyH_take (i := 1) (v := ?_) rfl (by kernel_rfl) (by kernel_rfl) (by kernel_rfl) (fun _ _ _ h => h) (Or.inl ⟨by rfl, ?_⟩) (by assumption) ?_
          rotate_left
          · (intro wq hSw; (try dsimp only at hSw); go_simp; try with_reducible rfl)
          try simp only [Act.put, List.getElem_toArray, List.getElem_cons_succ, List.getElem_cons_zero, List.setIfInBounds_toArray, List.set_cons_zero, List.set_cons_succ]
          refine wpAnyH_take (i := 2) (v := ?_) rfl (by kernel_rfl) (by kernel_rfl) (by kernel_rfl) (fun _ _ _ h => h) (Or.inl ⟨by rfl, ?_⟩) (by assumption) ?_
          rotate_left
          · (intro wq hSw; (try dsimp only at hSw); go_simp; try with_reducible rfl)
          try simp only [Act.put, List.getElem_toArray, List.getElem_cons_succ, List.getElem_cons_zero, List.setIfInBounds_toArray, List.set_cons_zero, List.set_cons_succ]
          refine wpAnyH_take (i := 3) (v := ?_) rfl (by kernel_rfl) (by kernel_rfl) (by kernel_rfl) (fun _ _ _ h => h) (Or.inl ⟨by rfl, ?_⟩) (by assumption) ?_
          rotate_left
          · (intro wq hSw; (try dsimp only at hSw); go_simp; try with_reducible rfl)
          try simp only [Act.put, List.getElem_toArray, List.getElem_cons_succ, List.getElem_cons_zero, List.setIfInBounds_toArray, List.set_cons_zero, List.set_cons_succ]
          refine wpAnyH_take (i := 4) (v := ?_) rfl (by kernel_rfl) (by kernel_rfl) (by kernel_rfl) (fun _ _ _ h => h) (Or.inl ⟨by rfl, ?_⟩) (by assumption) ?_
          rotate_left
          · (intro wq hSw; (try dsimp only at hSw); go_simp; try with_reducible rfl)
          try simp only [Act.put, List.getElem_toArray, List.getElem_cons_succ, List.getElem_cons_zero, List.setIfInBounds_toArray, List.set_cons_zero, List.set_cons_succ]
          refine wpAnyH_ready (rs := [5]) (by kernel_rfl) (by simp) ?_
          refine AllReadyH.cons rfl (fun K hK => ?_) AllReadyH.nil
          go_simp
          refine (hLC.out _ (Kept.refl [] wr).drew).mono ?_; rintro e' w4 ⟨rfl, j4⟩; have k4 : Kept [] wr w4 := (Kept.refl [] wr).drew.trans j4 (by simp)
          try go_wp2_with fail
          refine hK.out _ _ ?_ (fun hHeld => ?_)
          · (try dsimp only); (first | exact hu1 k4 | exact hu1 (Kept.refl [] wr).drew)
          clear hK K
          try simp only [Act.put, List.getElem_toArray, List.getElem_cons_succ, List.getElem_cons_zero, List.setIfInBounds_toArray, List.set_cons_zero, List.set_cons_succ]
          refine wpAnyH_take (i := 6) (v := ?_) rfl (by kernel_rfl) (by kernel_rfl) (by kernel_rfl) (fun _ _ _ h => h) (Or.inl ⟨by rfl, ?_⟩) (by assumption) ?_
          rotate_left
          · (intro wq hSw; (try dsimp only at hSw); go_simp; try with_reducible rfl)
          try simp only [Act.put, List.getElem_toArray, List.getElem_cons_succ, List.getElem_cons_zero, List.setIfInBounds_toArray, List.set_cons_zero, List.set_cons_succ]
          refine wpAnyH_take (i := 7) (v := ?_) rfl (by kernel_rfl) (by kernel_rfl) (by kernel_rfl) (fun _ _ _ h => h) (Or.inl ⟨by rfl, ?_⟩) (by assumption) ?_
          rotate_left
          · (intro wq hSw; (try dsimp only at hSw); go_simp; try with_reducible rfl)
          try simp only [Act.put, List.getElem_toArray, List.getElem_cons_succ, List.getElem_cons_zero, List.setIfInBounds_toArray, List.set_cons_zero, List.set_cons_succ]
          refine wpAnyH_done (by kernel_rfl) ?_ _
          gi_wp2
          refine ⟨trivial, rfl, (callsIn_round (hGt.out w4 k4)).mono ?_⟩
          rintro e' w5 ⟨a5, n5, c5, rfl, ho5, h5a, h5b, j5⟩
          have k5 := k4.trans j5 (by simp)
          obtain ⟨p0, p1⟩ := (LinIn.new w5 a5 n5 c5 x.s).at
          have j6 : Kept [] w5 (w5.alloc (.cells #[.slice a5 n5 c5, .bool x.s] 36)) := (Kept.refl [] w5).alloc _
          have k6 := k5.trans j6 (by simp)
          have p2 := Boxed.cell (k6.heap hLI.box (by simp))
          have hOw := hide (fun w1 (hk : Kept [] wr w1) => hLI.own.kept hk (by simp))
          have hBx := hide (fun w1 (hk : Kept [] wr w1) => (hk.heap hLI.box (by simp) : Boxed w1 w3.heap.size 30 (.slice aI nI cI)))
          have hszr := hLI.kw.size
          have hl2 := hLI.l2
          have hlbr := hLI.box.lt
          gi_wp2_with (first | refine wpListIn_bsLn_round _ rfl rfl ⟨a5, n5, c5, x.s⟩ (by kernel_rfl) ?_; intro g7 w7 hg7 hr7 j7; have k7 := k6.trans j7 (by simp) | (gi_at_builtin; refine wpListIn_app_round (base := w.heap.size + 2) ?_ rfl elLine rfl rfl (hOw.out w7 k7) rfl hr7 (rowsV_oneCell rowLn _) (by omega) (by have := k7.size; omega); intro a8 c8 w8 ho8 j8 hat8; have hb8 : Boxed w8 w3.heap.size 30 (.slice aI nI cI) := j8.heap (hBx.out w7 k7) hLI.d2; have r0 := hb8.cell; have r1 := hb8.frozen))
          have hb9 := hb8.set (.slice a8 (nI + 1) c8)
          have j9 : Kept [w3.heap.size] w8 (w8.setCell ⟨w3.heap.size, 0, none⟩ (.slice a8 (nI + 1) c8)) := (Kept.refl _ _).setCell (.inl (by simp)) _
          obtain ⟨s1, s2⟩ := hLI.more (v := ⟨a5, n5, c5, x.s⟩) (x := x) k7 (ho5.kept (j6.trans j7 (by simp)) (by simp)) k4.size rfl hxl (by rw [rowsV_app]; exact ho8) j8 hat8 hb9 j9
          go_roundw
          case rel =>
            refine ⟨j + 1, rfl, by omega, .inl (by omega), ?_, hKF.trans (keepsFrom_of _ s2 hLI.cells), hKO.trans ⟨_, s2, fun y hy hm => ?_⟩⟩
            · rw [hst2.out]
              exact ⟨_, _, _, _, s1⟩
            · rcases hTs.out y hm with h1 | h1
              · rcases List.mem_cons.1 hy with h3 | h3
                · exact hLI.t1 (h1.symm.trans h3)
                · exact hLI.t2 (h1 ▸ h3)
              · have h5 := hH.out.lt y h1
                rcases List.mem_cons.1 hy with h3 | h3
                · omega
                · have := (hLI.own.ge y h3).1; omega
          case measure => exact meas_lt2 hlt2
        · have hji : ¬ ((j : Int) < (e : Int)) := by omega
          have hjd : decide ((j : Int) < (e : Int)) = false := by simpa using hji
          refine region_round_held (S := (fun w' => w'.cell? ⟨w.heap.size + 1, 0, none⟩ = some (.int .i64 t))) (fun ⟨_, _, h⟩ => h) (noDefer_all (by kernel_rfl)) (by kernel_rfl) ?_ (fun hHeld => ?_)
          · (try dsimp only); (first | exact hu1 k4 | exact hu1 (Kept.refl [] wr).drew)
          refine wpAnyH_take (i := 0) (v := ?_) rfl (by kernel_rfl) (by kernel_rfl) (by kernel_rfl) (fun _ _ _ h => h) (Or.inl ⟨by rfl, ?_⟩) (by assumption) ?_
          rotate_left
          · (intro wq hSw; (try dsimp only at hSw); go_simp; try with_reducible rfl)
          try simp only [Act.put, List.getElem_toArray, List.getElem_cons_zero, List.setIfInBounds_toArray, List.set_cons_zero, List.set_cons_succ]
          refine wpAnyH_take (i := 1) (v := ?_) rfl (by kernel_rfl) (by kernel_rfl) (by kernel_rfl) (fun _ _ _ h => h) (Or.inl ⟨by rfl, ?_⟩) (by assumption) ?_
          rotate_left
          · (intro wq hSw; (try dsimp only at hSw); go_simp; try with_reducible rfl)
          try simp only [Act.put, List.getElem_toArray, List.getElem_cons_succ, List.getElem_cons_zero, List.setIfInBounds_toArray, List.set_cons_zero, List.set_cons_succ]
          refine wpAnyH_take (i := 2) (v := ?_) rfl (by kernel_rfl) (by kernel_rfl) (by kernel_rfl) (fun _ _ _ h => h) (Or.inl ⟨by rfl, ?_⟩) (by assumption) ?_
          rotate_left
          · (intro wq hSw; (try dsimp only at hSw); go_simp; try with_reducible rfl)
          try simp only [Act.put, List.getElem_toArray, List.getElem_cons_succ, List.getElem_cons_zero, List.setIfInBounds_toArray, List.set_cons_zero, List.set_cons_succ]
          refine wpAnyH_take (i := 3) (v := ?_) rfl (by kernel_rfl) (by kernel_rfl) (by kernel_rfl) (fun _ _ _ h => h) (Or.inl ⟨by rfl, ?_⟩) (by assumption) ?_
          rotate_left
          · (intro wq hSw; (try dsimp only at hSw); go_simp; try with_reducible rfl)
          try simp only [Act.put, List.getElem_toArray, List.getElem_cons_succ, List.getElem_cons_zero, List.setIfInBounds_toArray, List.set_cons_zero, List.set_cons_succ]
          refine wpAnyH_take (i := 4) (v := ?_) rfl (by kernel_rfl) (by kernel_rfl) (by kernel_rfl) (fun _ _ _ h => h) (Or.inl ⟨by rfl, ?_⟩) (by assumption) ?_
          rotate_left
          · (intro wq hSw; (try dsimp only at hSw); go_simp; try with_reducible rfl)
          try simp only [Act.put, List.getElem_toArray, List.getElem_cons_succ, List.getElem_cons_zero, List.setIfInBounds_toArray, List.set_cons_zero, List.set_cons_succ]
          refine wpAnyH_ready (rs := [5]) (by kernel_rfl) (by simp) ?_
          refine AllReadyH.cons rfl (fun K hK => ?_) AllReadyH.nil
          go_simp
          refine (hLC.out _ (Kept.refl [] wr).drew).mono ?_; rintro e' w4 ⟨rfl, j4⟩; have k4 : Kept [] wr w4 := (Kept.refl [] wr).drew.trans j4 (by simp)
          try go_wp2_with fail
          refine hK.out _ _ ?_ (fun hHeld => ?_)
          · (try dsimp only); (first | exact hu1 k4 | exact hu1 (Kept.refl [] wr).drew)
          clear hK K
          try simp only [Act.put, List.getElem_toArray, List.getElem_cons_succ, List.getElem_cons_zero, List.setIfInBounds_toArray, List.set_cons_zero, List.set_cons_succ]
          refine wpAnyH_take (i := 6) (v := ?_) rfl (by kernel_rfl) (by kernel_rfl) (by kernel_rfl) (fun _ _ _ h => h) (Or.inl ⟨by rfl, ?_⟩) (by assumption) ?_
          rotate_left
          · (intro wq hSw; (try dsimp only at hSw); go_simp; try with_reducible rfl)
          try simp only [Act.put, List.getElem_toArray, List.getElem_cons_succ, List.getElem_cons_zero, List.setIfInBounds_toArray, List.set_cons_zero, List.set_cons_succ]
          refine wpAnyH_take (i := 7) (v := ?_) rfl (by kernel_rfl) (by kernel_rfl) (by kernel_rfl) (fun _ _ _ h => h) (Or.inl ⟨by rfl, ?_⟩) (by assumption) ?_
          rotate_left
          · (intro wq hSw; (try dsimp only at hSw); go_simp; try with_reducible rfl)
          try simp only [Act.put, List.getElem_toArray, List.getElem_cons_succ, List.getElem_cons_zero, List.setIfInBounds_toArray, List.set_cons_zero, List.set_cons_succ]
          refine wpAnyH_done (by kernel_rfl) ?_ _
          gi_wp2
          exact ⟨hKF.trans (keepsFrom_of _ k4 (fun y hy => by cases hy)), hKO.trans (.of k4), (hfl.out _ _ hIj'.out (by omega) hj2).keep k4⟩
  case done =>
    rintro D2 W hD2 hI hK
    rw [numP_snd] at hI
    obtain ⟨aI, nI, cI, vI, hLI⟩ := hI
    have r0 := hLI.box.cell
    have hret : Hid (Range8Ret r f t w (.returned (.tuple #[.slice aI nI cI, .int .i64 0])) (W.putObj D2 (.deferred none))) := hide (range_end hres.out hLI (by omega) hK)
    go_wp2_with fail
    refine ⟨by simp, .inl ⟨_, _, rfl, run_takeDeferred hK, ?_⟩⟩
    exact ⟨.tuple #[.slice aI nI cI, .int .i64 0], by simp [results, Tryz.results36, go_sem], hret.out⟩
  case stop =>
    rintro D2 id pre W hD2 ⟨rfl, hI⟩ hK
    obtain ⟨aI, nI, cI, vI, hLI⟩ := hI
    have r0 := hLI.box.cell
    have hret : Hid (Range8Ret r f t w (.returned (.tuple #[.slice aI nI cI, .int .i64 0])) (W.putObj D2 (.deferred none))) := hide (range_end hres.out hLI (by omega) hK)
    refine wpIn_wide.2 ?_
    go_wp2_with fail
    refine ⟨by simp, .inl ⟨_, _, rfl, run_takeDeferred hK, ?_⟩⟩
    exact ⟨.tuple #[.slice aI nI cI, .int .i64 0], by simp [results, Tryz.results36, go_sem], hret.out⟩
set_option maxHeartbeats 16000000 in
theorem Range8_any (w : World) (b : Nat) (r : Rg) (a : Option Addr) (n c : Nat) (ps : List PgX) (h : RnIs w b r a n c ps) (hle : r.ls.length ≤ r.limit) (hn : r.next ≤ 1000000000) (f t : Int) :
    Calls Tryz.prog 36 #[.pointer (some ⟨b, 0, none⟩), .int .i64 f, .int .i64 t] w (Range8Ret r f t w) := by
  obtain ⟨W0, hW0⟩ : ∃ z : World, z = (w.alloc (.cells #[.int .i64 f] 3)).alloc (.cells #[.int .i64 t] 3) := ⟨_, rfl⟩
  have hk0 : Kept [] w W0 := by rw [hW0]; exact ((Kept.refl [] w).alloc _).alloc _
  have hs0 : W0.heap.size = w.heap.size + 2 := by rw [hW0]; simp
  have hcf : Hid (W0.cell? ⟨w.heap.size, 0, none⟩ = some (.int .i64 f)) := hide (by
    have h1 := cell_of_row (w.alloc (.cells #[.int .i64 f] 3)) w.heap.size 0 _ _ _ (heap_alloc_new w (.cells #[.int .i64 f] 3))
    rw [hW0]
    exact ((Kept.refl [] _).alloc _).cell h1 (by simp))
  have hct : Hid (W0.cell? ⟨w.heap.size + 1, 0, none⟩ = some (.int .i64 t)) := hide (by
    have h1 := heap_alloc_new (w.alloc (.cells #[.int .i64 f] 3)) (.cells #[.int .i64 t] 3)
    rw [World.size_alloc] at h1
    rw [hW0]
    exact cell_of_row _ (w.heap.size + 1) 0 _ _ _ h1)
  have hM := hide (made_rn (h.keep hk0))
  have hH := hide h
  obtain ⟨X, hX⟩ : ∃ X : Nat, r.next = X := ⟨_, rfl⟩
  have hbX := hide (fun w1 (hk : Kept [] W0 w1) => by have := (h.keep (hk0.trans hk (by simp))).box; rw [hX] at this; exact this)
  have hF : ∀ {w' : World}, Kept [] W0 w' → (w'.cell? ⟨w.heap.size, 0, none⟩ = some (.int .i64 f) ∧ w'.cell? ⟨w.heap.size + 1, 0, none⟩ = some (.int .i64 t)) ∧ w'.cell? ⟨b, 2, none⟩ = some (.int .i64 (r.first : Nat)) ∧ w'.cell? ⟨b, 3, none⟩ = some (.int .i64 (X : Nat)) := fun hk => ⟨⟨hk.cell hcf.out (by simp), hk.cell hct.out (by simp)⟩, (hbX.out _ hk).at.2.2.1, (hbX.out _ hk).at.2.2.2.1⟩
  have hbad := hide (fun (z : Int) w1 (he : rangeG r f t = ([], z)) (hk : Kept [] w w1) => Range8Ret.bad (w := w) (w' := w1) he hk)
  have hnl := h.nlen
  clear h
  by_cases h1 : f < 0
  · have he := hide (show rangeG r f t = ([], 3) by unfold rangeG; rw [if_pos (.inl h1)])
    have hd1 : decide (f < 0) = true := by simpa using h1
    replace hX := hide hX
    replace hs0 := hide hs0
    clear hnl
    go_enter Tryz.func36, Tryz.ntmps36
    go_upto_region 1 with fail
    rw [← hW0]
    clear hW0
    go_wp2_with fail
    refine hM.out.mono ?_
    rintro e w1 ⟨rfl, hk1⟩
    go_upto_region 3 with fail
    refine wp_region_held_drew (S := (fun w' => (w'.cell? ⟨w.heap.size, 0, none⟩ = some (.int .i64 f) ∧ w'.cell? ⟨w.heap.size + 1, 0, none⟩ = some (.int .i64 t)) ∧ w'.cell? ⟨b, 2, none⟩ = some (.int .i64 (r.first : Nat)) ∧ w'.cell? ⟨b, 3, none⟩ = some (.int .i64 (X : Nat)))) (by kernel_rfl) ?_ (fun hHeld => ?_)
    · (try dsimp only); (exact hF hk1.drew)
    refine wpAnyH_take (i := 0) (v := ?_) rfl (by kernel_rfl) (by kernel_rfl) (by kernel_rfl) (fun _ _ _ h => h) (Or.inl ⟨by rfl, ?_⟩) (by assumption) ?_
    rotate_left
    · (intro wq hSw; (try dsimp only at hSw); go_simp; try with_reducible rfl)
    try simp only [Act.put, List.getElem_toArray, List.getElem_cons_zero, List.setIfInBounds_toArray, List.set_cons_zero, List.set_cons_succ]
    refine wpAnyH_take (i := 1) (v := ?_) rfl (by kernel_rfl) (by kernel_rfl) (by kernel_rfl) (fun _ _ _ h => h) (Or.inl ⟨by rfl, ?_⟩) (by assumption) ?_
    rotate_left
    · (intro wq hSw; (try dsimp only at hSw); go_simp; try with_reducible rfl)
    try simp only [Act.put, List.getElem_toArray, List.getElem_cons_succ, List.getElem_cons_zero, List.setIfInBounds_toArray, List.set_cons_zero, List.set_cons_succ]
    refine wpAnyH_take (i := 2) (v := ?_) rfl (by kernel_rfl) (by kernel_rfl) (by kernel_rfl) (fun _ _ _ h => h) (Or.inl ⟨by rfl, ?_⟩) (by assumption) ?_
    rotate_left
    · (intro wq hSw; (try dsimp only at hSw); go_simp; try with_reducible rfl)
    try simp only [Act.put, List.getElem_toArray, List.getElem_cons_succ, List.getElem_cons_zero, List.setIfInBounds_toArray, List.set_cons_zero, List.set_cons_succ]
    refine wpAnyH_take (i := 3) (v := undef) rfl (by kernel_rfl) (by kernel_rfl) (by kernel_rfl) (fun _ _ _ h => h) (Or.inr ⟨by rfl, rfl⟩) (by assumption) ?_
    try simp only [Act.put, List.getElem_toArray, List.getElem_cons_succ, List.getElem_cons_zero, List.setIfInBounds_toArray, List.set_cons_zero, List.set_cons_succ]
    refine wpAnyH_take (i := 4) (v := undef) rfl (by kernel_rfl) (by kernel_rfl) (by kernel_rfl) (fun _ _ _ h => h) (Or.inr ⟨by rfl, rfl⟩) (by assumption) ?_
    try simp only [Act.put, List.getElem_toArray, List.getElem_cons_succ, List.getElem_cons_zero, List.setIfInBounds_toArray, List.set_cons_zero, List.set_cons_succ]
    refine wpAnyH_take (i := 5) (v := undef) rfl (by kernel_rfl) (by kernel_rfl) (by kernel_rfl) (fun _ _ _ h => h) (Or.inr ⟨by rfl, rfl⟩) (by assumption) ?_
    try simp only [Act.put, List.getElem_toArray, List.getElem_cons_succ, List.getElem_cons_zero, List.setIfInBounds_toArray, List.set_cons_zero, List.set_cons_succ]
    refine wpAnyH_take (i := 6) (v := ?_) rfl (by kernel_rfl) (by kernel_rfl) (by kernel_rfl) (fun _ _ _ h => h) (Or.inl ⟨by rfl, ?_⟩) (by assumption) ?_
    rotate_left
    · (intro wq hSw; (try dsimp only at hSw); go_simp; try with_reducible rfl)
    try simp only [Act.put, List.getElem_toArray, List.getElem_cons_succ, List.getElem_cons_zero, List.setIfInBounds_toArray, List.set_cons_zero, List.set_cons_succ]
    refine wpAnyH_take (i := 7) (v := ?_) rfl (by kernel_rfl) (by kernel_rfl) (by kernel_rfl) (fun _ _ _ h => h) (Or.inl ⟨by rfl, ?_⟩) (by assumption) ?_
    rotate_left
    · (intro wq hSw; (try dsimp only at hSw); go_simp; try with_reducible rfl)
    try simp only [Act.put, List.getElem_toArray, List.getElem_cons_succ, List.getElem_cons_zero, List.setIfInBounds_toArray, List.set_cons_zero, List.set_cons_succ]
    refine wpAnyH_take (i := 8) (v := undef) rfl (by kernel_rfl) (by kernel_rfl) (by kernel_rfl) (fun _ _ _ h => h) (Or.inr ⟨by rfl, rfl⟩) (by assumption) ?_
    try simp only [Act.put, List.getElem_toArray, List.getElem_cons_succ, List.getElem_cons_zero, List.setIfInBounds_toArray, List.set_cons_zero, List.set_cons_succ]
    refine wpAnyH_take (i := 9) (v := undef) rfl (by kernel_rfl) (by kernel_rfl) (by kernel_rfl) (fun _ _ _ h => h) (Or.inr ⟨by rfl, rfl⟩) (by assumption) ?_
    try simp only [Act.put, List.getElem_toArray, List.getElem_cons_succ, List.getElem_cons_zero, List.setIfInBounds_toArray, List.set_cons_zero, List.set_cons_succ]
    refine wpAnyH_take (i := 10) (v := undef) rfl (by kernel_rfl) (by kernel_rfl) (by kernel_rfl) (fun _ _ _ h => h) (Or.inr ⟨by rfl, rfl⟩) (by assumption) ?_
    try simp only [Act.put, List.getElem_toArray, List.getElem_cons_succ, List.getElem_cons_zero, List.setIfInBounds_toArray, List.set_cons_zero, List.set_cons_succ]
    refine wpAnyH_take (i := 11) (v := undef) rfl (by kernel_rfl) (by kernel_rfl) (by kernel_rfl) (fun _ _ _ h => h) (Or.inr ⟨by rfl, rfl⟩) (by assumption) ?_
    try simp only [Act.put, List.getElem_toArray, List.getElem_cons_succ, List.getElem_cons_zero, List.setIfInBounds_toArray, List.set_cons_zero, List.set_cons_succ]
    refine wpAnyH_take (i := 12) (v := undef) rfl (by kernel_rfl) (by kernel_rfl) (by kernel_rfl) (fun _ _ _ h => h) (Or.inr ⟨by rfl, rfl⟩) (by assumption) ?_
    try simp only [Act.put, List.getElem_toArray, List.getElem_cons_succ, List.getElem_cons_zero, List.setIfInBounds_toArray, List.set_cons_zero, List.set_cons_succ]
    refine wpAnyH_take (i := 13) (v := undef) rfl (by kernel_rfl) (by kernel_rfl) (by kernel_rfl) (fun _ _ _ h => h) (Or.inr ⟨by rfl, rfl⟩) (by assumption) ?_
    try simp only [Act.put, List.getElem_toArray, List.getElem_cons_succ, List.getElem_cons_zero, List.setIfInBounds_toArray, List.set_cons_zero, List.set_cons_succ]
    refine wpAnyH_take (i := 14) (v := ?_) rfl (by kernel_rfl) (by kernel_rfl) (by kernel_rfl) (fun _ _ _ h => h) (Or.inl ⟨by rfl, ?_⟩) (by assumption) ?_
    rotate_left
    · (intro wq hSw; (try dsimp only at hSw); go_simp; try with_reducible rfl)
    try simp only [Act.put, List.getElem_toArray, List.getElem_cons_succ, List.getElem_cons_zero, List.setIfInBounds_toArray, List.set_cons_zero, List.set_cons_succ]
    refine wpAnyH_take (i := 15) (v := ?_) rfl (by kernel_rfl) (by kernel_rfl) (by kernel_rfl) (fun _ _ _ h => h) (Or.inl ⟨by rfl, ?_⟩) (by assumption) ?_
    rotate_left
    · (intro wq hSw; (try dsimp only at hSw); go_simp; try with_reducible rfl)
    try simp only [Act.put, List.getElem_toArray, List.getElem_cons_succ, List.getElem_cons_zero, List.setIfInBounds_toArray, List.set_cons_zero, List.set_cons_succ]
    refine wpAnyH_done (by kernel_rfl) ?_ _
    go_wp2_with fail
    refine bodyPost_ret (v := .tuple #[.slice none 0 0, .int .i64 3]) (by simp [results, Tryz.results36, go_sem]) rfl ?_
    exact hbad.out 3 _ he.out (hk0.trans hk1.drew (by simp))
  · have hd1 : decide (f < 0) = false := by simpa using h1
    by_cases h2 : f > t
    · have he := hide (show rangeG r f t = ([], 3) by unfold rangeG; rw [if_pos (.inr (.inl h2))])
      have hd2 : decide (t < f) = true := by simpa using h2
      replace hX := hide hX
      replace hs0 := hide hs0
      clear hnl
      go_enter Tryz.func36, Tryz.ntmps36
      go_upto_region 1 with fail
      rw [← hW0]
      clear hW0
      go_wp2_with fail
      refine hM.out.mono ?_
      rintro e w1 ⟨rfl, hk1⟩
      go_upto_region 3 with fail
      refine wp_region_held_drew (S := (fun w' => (w'.cell? ⟨w.heap.size, 0, none⟩ = some (.int .i64 f) ∧ w'.cell? ⟨w.heap.size + 1, 0, none⟩ = some (.int .i64 t)) ∧ w'.cell? ⟨b, 2, none⟩ = some (.int .i64 (r.first : Nat)) ∧ w'.cell? ⟨b, 3, none⟩ = some (.int .i64 (X : Nat)))) (by kernel_rfl) ?_ (fun hHeld => ?_)
      · (try dsimp only); (exact hF hk1.drew)
      refine wpAnyH_take (i := 0) (v := ?_) rfl (by kernel_rfl) (by kernel_rfl) (by kernel_rfl) (fun _ _ _ h => h) (Or.inl ⟨by rfl, ?_⟩) (by assumption) ?_
      rotate_left
      · (intro wq hSw; (try dsimp only at hSw); go_simp; try with_reducible rfl)
      try simp only [Act.put, List.getElem_toArray, List.getElem_cons_zero, List.setIfInBounds_toArray, List.set_cons_zero, List.set_cons_succ]
      refine wpAnyH_take (i := 1) (v := ?_) rfl (by kernel_rfl) (by kernel_rfl) (by kernel_rfl) (fun _ _ _ h => h) (Or.inl ⟨by rfl, ?_⟩) (by assumption) ?_
      rotate_left
      · (intro wq hSw; (try dsimp only at hSw); go_simp; try with_reducible rfl)
      try simp only [Act.put, List.getElem_toArray, List.getElem_cons_succ, List.getElem_cons_zero, List.setIfInBounds_toArray, List.set_cons_zero, List.set_cons_succ]
      refine wpAnyH_take (i := 2) (v := ?_) rfl (by kernel_rfl) (by kernel_rfl) (by kernel_rfl) (fun _ _ _ h => h) (Or.inl ⟨by rfl, ?_⟩) (by assumption) ?_
      rotate_left
      · (intro wq hSw; (try dsimp only at hSw); go_simp; try with_reducible rfl)
      try simp only [Act.put, List.getElem_toArray, List.getElem_cons_succ, List.getElem_cons_zero, List.setIfInBounds_toArray, List.set_cons_zero, List.set_cons_succ]
      refine wpAnyH_take (i := 3) (v := ?_) rfl (by kernel_rfl) (by kernel_rfl) (by kernel_rfl) (fun _ _ _ h => h) (Or.inl ⟨by rfl, ?_⟩) (by assumption) ?_
      rotate_left
      · (intro wq hSw; (try dsimp only at hSw); go_simp; try with_reducible rfl)
      try simp only [Act.put, List.getElem_toArray, List.getElem_cons_succ, List.getElem_cons_zero, List.setIfInBounds_toArray, List.set_cons_zero, List.set_cons_succ]
      refine wpAnyH_take (i := 4) (v := ?_) rfl (by kernel_rfl) (by kernel_rfl) (by kernel_rfl) (fun _ _ _ h => h) (Or.inl ⟨by rfl, ?_⟩) (by assumption) ?_
      rotate_left
      · (intro wq hSw; (try dsimp only at hSw); go_simp; try with_reducible rfl)
      try simp only [Act.put, List.getElem_toArray, List.getElem_cons_succ, List.getElem_cons_zero, List.setIfInBounds_toArray, List.set_cons_zero, List.set_cons_succ]
      refine wpAnyH_take (i := 5) (v := ?_) rfl (by kernel_rfl) (by kernel_rfl) (by kernel_rfl) (fun _ _ _ h => h) (Or.inl ⟨by rfl, ?_⟩) (by assumption) ?_
      rotate_left
      · (intro wq hSw; (try dsimp only at hSw); go_simp; try with_reducible rfl)
      try simp only [Act.put, List.getElem_toArray, List.getElem_cons_succ, List.getElem_cons_zero, List.setIfInBounds_toArray, List.set_cons_zero, List.set_cons_succ]
      refine wpAnyH_take (i := 6) (v := ?_) rfl (by kernel_rfl) (by kernel_rfl) (by kernel_rfl) (fun _ _ _ h => h) (Or.inl ⟨by rfl, ?_⟩) (by assumption) ?_
      rotate_left
      · (intro wq hSw; (try dsimp only at hSw); go_simp; try with_reducible rfl)
      try simp only [Act.put, List.getElem_toArray, List.getElem_cons_succ, List.getElem_cons_zero, List.setIfInBounds_toArray, List.set_cons_zero, List.set_cons_succ]
      refine wpAnyH_take (i := 7) (v := ?_) rfl (by kernel_rfl) (by kernel_rfl) (by kernel_rfl) (fun _ _ _ h => h) (Or.inl ⟨by rfl, ?_⟩) (by assumption) ?_
      rotate_left
      · (intro wq hSw; (try dsimp only at hSw); go_simp; try with_reducible rfl)
      try simp only [Act.put, List.getElem_toArray, List.getElem_cons_succ, List.getElem_cons_zero, List.setIfInBounds_toArray, List.set_cons_zero, List.set_cons_succ]
      refine wpAnyH_take (i := 8) (v := undef) rfl (by kernel_rfl) (by kernel_rfl) (by kernel_rfl) (fun _ _ _ h => h) (Or.inr ⟨by rfl, rfl⟩) (by assumption) ?_
      try simp only [Act.put, List.getElem_toArray, List.getElem_cons_succ, List.getElem_cons_zero, List.setIfInBounds_toArray, List.set_cons_zero, List.set_cons_succ]
      refine wpAnyH_take (i := 9) (v := undef) rfl (by kernel_rfl) (by kernel_rfl) (by kernel_rfl) (fun _ _ _ h => h) (Or.inr ⟨by rfl, rfl⟩) (by assumption) ?_
      try simp only [Act.put, List.getElem_toArray, List.getElem_cons_succ, List.getElem_cons_zero, List.setIfInBounds_toArray, List.set_cons_zero, List.set_cons_succ]
      refine wpAnyH_take (i := 10) (v := undef) rfl (by kernel_rfl) (by kernel_rfl) (by kernel_rfl) (fun _ _ _ h => h) (Or.inr ⟨by rfl, rfl⟩) (by assumption) ?_
      try simp only [Act.put, List.getElem_toArray, List.getElem_cons_succ, List.getElem_cons_zero, List.setIfInBounds_toArray, List.set_cons_zero, List.set_cons_succ]
      refine wpAnyH_take (i := 11) (v := undef) rfl (by kernel_rfl) (by kernel_rfl) (by kernel_rfl) (fun _ _ _ h => h) (Or.inr ⟨by rfl, rfl⟩) (by assumption) ?_
      try simp only [Act.put, List.getElem_toArray, List.getElem_cons_succ, List.getElem_cons_zero, List.setIfInBounds_toArray, List.set_cons_zero, List.set_cons_succ]
      refine wpAnyH_take (i := 12) (v := undef) rfl (by kernel_rfl) (by kernel_rfl) (by kernel_rfl) (fun _ _ _ h => h) (Or.inr ⟨by rfl, rfl⟩) (by assumption) ?_
      try simp only [Act.put, List.getElem_toArray, List.getElem_cons_succ, List.getElem_cons_zero, List.setIfInBounds_toArray, List.set_cons_zero, List.set_cons_succ]
      refine wpAnyH_take (i := 13) (v := undef) rfl (by kernel_rfl) (by kernel_rfl) (by kernel_rfl) (fun _ _ _ h => h) (Or.inr ⟨by rfl, rfl⟩) (by assumption) ?_
      try simp only [Act.put, List.getElem_toArray, List.getElem_cons_succ, List.getElem_cons_zero, List.setIfInBounds_toArray, List.set_cons_zero, List.set_cons_succ]
      refine wpAnyH_take (i := 14) (v := ?_) rfl (by kernel_rfl) (by kernel_rfl) (by kernel_rfl) (fun _ _ _ h => h) (Or.inl ⟨by rfl, ?_⟩) (by assumption) ?_
      rotate_left
      · (intro wq hSw; (try dsimp only at hSw); go_simp; try with_reducible rfl)
      try simp only [Act.put, List.getElem_toArray, List.getElem_cons_succ, List.getElem_cons_zero, List.setIfInBounds_toArray, List.set_cons_zero, List.set_cons_succ]
      refine wpAnyH_take (i := 15) (v := ?_) rfl (by kernel_rfl) (by kernel_rfl) (by kernel_rfl) (fun _ _ _ h => h) (Or.inl ⟨by rfl, ?_⟩) (by assumption) ?_
      rotate_left
      · (intro wq hSw; (try dsimp only at hSw); go_simp; try with_reducible rfl)
      try simp only [Act.put, List.getElem_toArray, List.getElem_cons_succ, List.getElem_cons_zero, List.setIfInBounds_toArray, List.set_cons_zero, List.set_cons_succ]
      refine wpAnyH_done (by kernel_rfl) ?_ _
      go_wp2_with fail
      refine bodyPost_ret (v := .tuple #[.slice none 0 0, .int .i64 3]) (by simp [results, Tryz.results36, go_sem]) rfl ?_
      exact hbad.out 3 _ he.out (hk0.trans hk1.drew (by simp))
    · have hd2 : decide (t < f) = false := by simpa using h2
      by_cases h3 : t > (X : Int)
      · have he := hide (show rangeG r f t = ([], 3) by unfold rangeG; rw [hX, if_pos (.inr (.inr h3))])
        have hd3 : decide ((X : Int) < t) = true := by simpa using h3
        replace hX := hide hX
        replace hs0 := hide hs0
        clear hnl
        go_enter Tryz.func36, Tryz.ntmps36
        go_upto_region 1 with fail
        rw [← hW0]
        clear hW0
        go_wp2_with fail
        refine hM.out.mono ?_
        rintro e w1 ⟨rfl, hk1⟩
        go_upto_region 3 with fail
        refine wp_region_held_drew (S := (fun w' => (w'.cell? ⟨w.heap.size, 0, none⟩ = some (.int .i64 f) ∧ w'.cell? ⟨w.heap.size + 1, 0, none⟩ = some (.int .i64 t)) ∧ w'.cell? ⟨b, 2, none⟩ = some (.int .i64 (r.first : Nat)) ∧ w'.cell? ⟨b, 3, none⟩ = some (.int .i64 (X : Nat)))) (by kernel_rfl) ?_ (fun hHeld => ?_)
        · (try dsimp only); (exact hF hk1.drew)
        refine wpAnyH_take (i := 0) (v := ?_) rfl (by kernel_rfl) (by kernel_rfl) (by kernel_rfl) (fun _ _ _ h => h) (Or.inl ⟨by rfl, ?_⟩) (by assumption) ?_
        rotate_left
        · (intro wq hSw; (try dsimp only at hSw); go_simp; try with_reducible rfl)
        try simp only [Act.put, List.getElem_toArray, List.getElem_cons_zero, List.setIfInBounds_toArray, List.set_cons_zero, List.set_cons_succ]
        refine wpAnyH_take (i := 1) (v := ?_) rfl (by kernel_rfl) (by kernel_rfl) (by kernel_rfl) (fun _ _ _ h => h) (Or.inl ⟨by rfl, ?_⟩) (by assumption) ?_
        rotate_left
        · (intro wq hSw; (try dsimp only at hSw); go_simp; try with_reducible rfl)
        try simp only [Act.put, List.getElem_toArray, List.getElem_cons_succ, List.getElem_cons_zero, List.setIfInBounds_toArray, List.set_cons_zero, List.set_cons_succ]
        refine wpAnyH_take (i := 2) (v := ?_) rfl (by kernel_rfl) (by kernel_rfl) (by kernel_rfl) (fun _ _ _ h => h) (Or.inl ⟨by rfl, ?_⟩) (by assumption) ?_
        rotate_left
        · (intro wq hSw; (try dsimp only at hSw); go_simp; try with_reducible rfl)
        try simp only [Act.put, List.getElem_toArray, List.getElem_cons_succ, List.getElem_cons_zero, List.setIfInBounds_toArray, List.set_cons_zero, List.set_cons_succ]
        refine wpAnyH_take (i := 3) (v := ?_) rfl (by kernel_rfl) (by kernel_rfl) (by kernel_rfl) (fun _ _ _ h => h) (Or.inl ⟨by rfl, ?_⟩) (by assumption) ?_
        rotate_left
        · (intro wq hSw; (try dsimp only at hSw); go_simp; try with_reducible rfl)
        try simp only [Act.put, List.getElem_toArray, List.getElem_cons_succ, List.getElem_cons_zero, List.setIfInBounds_toArray, List.set_cons_zero, List.set_cons_succ]
        refine wpAnyH_take (i := 4) (v := ?_) rfl (by kernel_rfl) (by kernel_rfl) (by kernel_rfl) (fun _ _ _ h => h) (Or.inl ⟨by rfl, ?_⟩) (by assumption) ?_
        rotate_left
        · (intro wq hSw; (try dsimp only at hSw); go_simp; try with_reducible rfl)
        try simp only [Act.put, List.getElem_toArray, List.getElem_cons_succ, List.getElem_cons_zero, List.setIfInBounds_toArray, List.set_cons_zero, List.set_cons_succ]
        refine wpAnyH_take (i := 5) (v := ?_) rfl (by kernel_rfl) (by kernel_rfl) (by kernel_rfl) (fun _ _ _ h => h) (Or.inl ⟨by rfl, ?_⟩) (by assumption) ?_
        rotate_left
        · (intro wq hSw; (try dsimp only at hSw); go_simp; try with_reducible rfl)
        try simp only [Act.put, List.getElem_toArray, List.getElem_cons_succ, List.getElem_cons_zero, List.setIfInBounds_toArray, List.set_cons_zero, List.set_cons_succ]
        refine wpAnyH_take (i := 6) (v := ?_) rfl (by kernel_rfl) (by kernel_rfl) (by kernel_rfl) (fun _ _ _ h => h) (Or.inl ⟨by rfl, ?_⟩) (by assumption) ?_
        rotate_left
        · (intro wq hSw; (try dsimp only at hSw); go_simp; try with_reducible rfl)
        try simp only [Act.put, List.getElem_toArray, List.getElem_cons_succ, List.getElem_cons_zero, List.setIfInBounds_toArray, List.set_cons_zero, List.set_cons_succ]
        refine wpAnyH_take (i := 7) (v := ?_) rfl (by kernel_rfl) (by kernel_rfl) (by kernel_rfl) (fun _ _ _ h => h) (Or.inl ⟨by rfl, ?_⟩) (by assumption) ?_
        rotate_left
        · (intro wq hSw; (try dsimp only at hSw); go_simp; try with_reducible rfl)
        try simp only [Act.put, List.getElem_toArray, List.getElem_cons_succ, List.getElem_cons_zero, List.setIfInBounds_toArray, List.set_cons_zero, List.set_cons_succ]
        refine wpAnyH_take (i := 8) (v := ?_) rfl (by kernel_rfl) (by kernel_rfl) (by kernel_rfl) (fun _ _ _ h => h) (Or.inl ⟨by rfl, ?_⟩) (by assumption) ?_
        rotate_left
        · (intro wq hSw; (try dsimp only at hSw); go_simp; try with_reducible rfl)
        try simp only [Act.put, List.getElem_toArray, List.getElem_cons_succ, List.getElem_cons_zero, List.setIfInBounds_toArray, List.set_cons_zero, List.set_cons_succ]
        refine wpAnyH_take (i := 9) (v := ?_) rfl (by kernel_rfl) (by kernel_rfl) (by kernel_rfl) (fun _ _ _ h => h) (Or.inl ⟨by rfl, ?_⟩) (by assumption) ?_
        rotate_left
        · (intro wq hSw; (try dsimp only at hSw); go_simp; try with_reducible rfl)
        try simp only [Act.put, List.getElem_toArray, List.getElem_cons_succ, List.getElem_cons_zero, List.setIfInBounds_toArray, List.set_cons_zero, List.set_cons_succ]
        refine wpAnyH_take (i := 10) (v := ?_) rfl (by kernel_rfl) (by kernel_rfl) (by kernel_rfl) (fun _ _ _ h => h) (Or.inl ⟨by rfl, ?_⟩) (by assumption) ?_
        rotate_left
        · (intro wq hSw; (try dsimp only at hSw); go_simp; try with_reducible rfl)
        try simp only [Act.put, List.getElem_toArray, List.getElem_cons_succ, List.getElem_cons_zero, List.setIfInBounds_toArray, List.set_cons_zero, List.set_cons_succ]
        refine wpAnyH_take (i := 11) (v := ?_) rfl (by kernel_rfl) (by kernel_rfl) (by kernel_rfl) (fun _ _ _ h => h) (Or.inl ⟨by rfl, ?_⟩) (by assumption) ?_
        rotate_left
        · (intro wq hSw; (try dsimp only at hSw); go_simp; try with_reducible rfl)
        try simp only [Act.put, List.getElem_toArray, List.getElem_cons_succ, List.getElem_cons_zero, List.setIfInBounds_toArray, List.set_cons_zero, List.set_cons_succ]
        refine wpAnyH_take (i := 12) (v := ?_) rfl (by kernel_rfl) (by kernel_rfl) (by kernel_rfl) (fun _ _ _ h => h) (Or.inl ⟨by rfl, ?_⟩) (by assumption) ?_
        rotate_left
        · (intro wq hSw; (try dsimp only at hSw); go_simp; try with_reducible rfl)
        try simp only [Act.put, List.getElem_toArray, List.getElem_cons_succ, List.getElem_cons_zero, List.setIfInBounds_toArray, List.set_cons_zero, List.set_cons_succ]
        refine wpAnyH_take (i := 13) (v := ?_) rfl (by kernel_rfl) (by kernel_rfl) (by kernel_rfl) (fun _ _ _ h => h) (Or.inl ⟨by rfl, ?_⟩) (by assumption) ?_
        rotate_left
        · (intro wq hSw; (try dsimp only at hSw); go_simp; try with_reducible rfl)
        try simp only [Act.put, List.getElem_toArray, List.getElem_cons_succ, List.getElem_cons_zero, List.setIfInBounds_toArray, List.set_cons_zero, List.set_cons_succ]
        refine wpAnyH_take (i := 14) (v := ?_) rfl (by kernel_rfl) (by kernel_rfl) (by kernel_rfl) (fun _ _ _ h => h) (Or.inl ⟨by rfl, ?_⟩) (by assumption) ?_
        rotate_left
        · (intro wq hSw; (try dsimp only at hSw); go_simp; try with_reducible rfl)
        try simp only [Act.put, List.getElem_toArray, List.getElem_cons_succ, List.getElem_cons_zero, List.setIfInBounds_toArray, List.set_cons_zero, List.set_cons_succ]
        refine wpAnyH_take (i := 15) (v := ?_) rfl (by kernel_rfl) (by kernel_rfl) (by kernel_rfl) (fun _ _ _ h => h) (Or.inl ⟨by rfl, ?_⟩) (by assumption) ?_
        rotate_left
        · (intro wq hSw; (try dsimp only at hSw); go_simp; try with_reducible rfl)
        try simp only [Act.put, List.getElem_toArray, List.getElem_cons_succ, List.getElem_cons_zero, List.setIfInBounds_toArray, List.set_cons_zero, List.set_cons_succ]
        refine wpAnyH_done (by kernel_rfl) ?_ _
        go_wp2_with fail
        refine bodyPost_ret (v := .tuple #[.slice none 0 0, .int .i64 3]) (by simp [results, Tryz.results36, go_sem]) rfl ?_
        exact hbad.out 3 _ he.out (hk0.trans hk1.drew (by simp))
      · have hd3 : decide ((X : Int) < t) = false := by simpa using h3
        by_cases h4 : f < (r.first : Int)
        · have he := hide (show rangeG r f t = ([], 14) by unfold rangeG; rw [hX, if_neg (by omega), if_pos h4])
          have hd4 : decide (f < (r.first : Int)) = true := by simpa using h4
          replace hX := hide hX
          replace hs0 := hide hs0
          clear hnl
          go_enter Tryz.func36, Tryz.ntmps36
          go_upto_region 1 with fail
          rw [← hW0]
          clear hW0
          go_wp2_with fail
          refine hM.out.mono ?_
          rintro e w1 ⟨rfl, hk1⟩
          go_upto_region 3 with fail
          refine wp_region_held_drew (S := (fun w' => (w'.cell? ⟨w.heap.size, 0, none⟩ = some (.int .i64 f) ∧ w'.cell? ⟨w.heap.size + 1, 0, none⟩ = some (.int .i64 t)) ∧ w'.cell? ⟨b, 2, none⟩ = some (.int .i64 (r.first : Nat)) ∧ w'.cell? ⟨b, 3, none⟩ = some (.int .i64 (X : Nat)))) (by kernel_rfl) ?_ (fun hHeld => ?_)
          · (try dsimp only); (exact hF hk1.drew)
          refine wpAnyH_take (i := 0) (v := ?_) rfl (by kernel_rfl) (by kernel_rfl) (by kernel_rfl) (fun _ _ _ h => h) (Or.inl ⟨by rfl, ?_⟩) (by assumption) ?_
          rotate_left
          · (intro wq hSw; (try dsimp only at hSw); go_simp; try with_reducible rfl)
          try simp only [Act.put, List.getElem_toArray, List.getElem_cons_zero, List.setIfInBounds_toArray, List.set_cons_zero, List.set_cons_succ]
          refine wpAnyH_take (i := 1) (v := ?_) rfl (by kernel_rfl) (by kernel_rfl) (by kernel_rfl) (fun _ _ _ h => h) (Or.inl ⟨by rfl, ?_⟩) (by assumption) ?_
          rotate_left
          · (intro wq hSw; (try dsimp only at hSw); go_simp; try with_reducible rfl)
          try simp only [Act.put, List.getElem_toArray, List.getElem_cons_succ, List.getElem_cons_zero, List.setIfInBounds_toArray, List.set_cons_zero, List.set_cons_succ]
          refine wpAnyH_take (i := 2) (v := ?_) rfl (by kernel_rfl) (by kernel_rfl) (by kernel_rfl) (fun _ _ _ h => h) (Or.inl ⟨by rfl, ?_⟩) (by assumption) ?_
          rotate_left
          · (intro wq hSw; (try dsimp only at hSw); go_simp; try with_reducible rfl)
          try simp only [Act.put, List.getElem_toArray, List.getElem_cons_succ, List.getElem_cons_zero, List.setIfInBounds_toArray, List.set_cons_zero, List.set_cons_succ]
          refine wpAnyH_take (i := 3) (v := ?_) rfl (by kernel_rfl) (by kernel_rfl) (by kernel_rfl) (fun _ _ _ h => h) (Or.inl ⟨by rfl, ?_⟩) (by assumption) ?_
          rotate_left
          · (intro wq hSw; (try dsimp only at hSw); go_simp; try with_reducible rfl)
          try simp only [Act.put, List.getElem_toArray, List.getElem_cons_succ, List.getElem_cons_zero, List.setIfInBounds_toArray, List.set_cons_zero, List.set_cons_succ]
          refine wpAnyH_take (i := 4) (v := ?_) rfl (by kernel_rfl) (by kernel_rfl) (by kernel_rfl) (fun _ _ _ h => h) (Or.inl ⟨by rfl, ?_⟩) (by assumption) ?_
          rotate_left
          · (intro wq hSw; (try dsimp only at hSw); go_simp; try with_reducible rfl)
          try simp only [Act.put, List.getElem_toArray, List.getElem_cons_succ, List.getElem_cons_zero, List.setIfInBounds_toArray, List.set_cons_zero, List.set_cons_succ]
          refine wpAnyH_take (i := 5) (v := ?_) rfl (by kernel_rfl) (by kernel_rfl) (by kernel_rfl) (fun _ _ _ h => h) (Or.inl ⟨by rfl, ?_⟩) (by assumption) ?_
          rotate_left
          · (intro wq hSw; (try dsimp only at hSw); go_simp; try with_reducible rfl)
          try simp only [Act.put, List.getElem_toArray, List.getElem_cons_succ, List.getElem_cons_zero, List.setIfInBounds_toArray, List.set_cons_zero, List.set_cons_succ]
          refine wpAnyH_take (i := 6) (v := ?_) rfl (by kernel_rfl) (by kernel_rfl) (by kernel_rfl) (fun _ _ _ h => h) (Or.inl ⟨by rfl, ?_⟩) (by assumption) ?_
          rotate_left
          · (intro wq hSw; (try dsimp only at hSw); go_simp; try with_reducible rfl)
          try simp only [Act.put, List.getElem_toArray, List.getElem_cons_succ, List.getElem_cons_zero, List.setIfInBounds_toArray, List.set_cons_zero, List.set_cons_succ]
          refine wpAnyH_take (i := 7) (v := ?_) rfl (by kernel_rfl) (by kernel_rfl) (by kernel_rfl) (fun _ _ _ h => h) (Or.inl ⟨by rfl, ?_⟩) (by assumption) ?_
          rotate_left
          · (intro wq hSw; (try dsimp only at hSw); go_simp; try with_reducible rfl)
          try simp only [Act.put, List.getElem_toArray, List.getElem_cons_succ, List.getElem_cons_zero, List.setIfInBounds_toArray, List.set_cons_zero, List.set_cons_succ]
          refine wpAnyH_take (i := 8) (v := ?_) rfl (by kernel_rfl) (by kernel_rfl) (by kernel_rfl) (fun _ _ _ h => h) (Or.inl ⟨by rfl, ?_⟩) (by assumption) ?_
          rotate_left
          · (intro wq hSw; (try dsimp only at hSw); go_simp; try with_reducible rfl)
          try simp only [Act.put, List.getElem_toArray, List.getElem_cons_succ, List.getElem_cons_zero, List.setIfInBounds_toArray, List.set_cons_zero, List.set_cons_succ]
          refine wpAnyH_take (i := 9) (v := ?_) rfl (by kernel_rfl) (by kernel_rfl) (by kernel_rfl) (fun _ _ _ h => h) (Or.inl ⟨by rfl, ?_⟩) (by assumption) ?_
          rotate_left
          · (intro wq hSw; (try dsimp only at hSw); go_simp; try with_reducible rfl)
          try simp only [Act.put, List.getElem_toArray, List.getElem_cons_succ, List.getElem_cons_zero, List.setIfInBounds_toArray, List.set_cons_zero, List.set_cons_succ]
          refine wpAnyH_take (i := 10) (v := ?_) rfl (by kernel_rfl) (by kernel_rfl) (by kernel_rfl) (fun _ _ _ h => h) (Or.inl ⟨by rfl, ?_⟩) (by assumption) ?_
          rotate_left
          · (intro wq hSw; (try dsimp only at hSw); go_simp; try with_reducible rfl)
          try simp only [Act.put, List.getElem_toArray, List.getElem_cons_succ, List.getElem_cons_zero, List.setIfInBounds_toArray, List.set_cons_zero, List.set_cons_succ]
          refine wpAnyH_take (i := 11) (v := ?_) rfl (by kernel_rfl) (by kernel_rfl) (by kernel_rfl) (fun _ _ _ h => h) (Or.inl ⟨by rfl, ?_⟩) (by assumption) ?_
          rotate_left
          · (intro wq hSw; (try dsimp only at hSw); go_simp; try with_reducible rfl)
          try simp only [Act.put, List.getElem_toArray, List.getElem_cons_succ, List.getElem_cons_zero, List.setIfInBounds_toArray, List.set_cons_zero, List.set_cons_succ]
          refine wpAnyH_take (i := 12) (v := ?_) rfl (by kernel_rfl) (by kernel_rfl) (by kernel_rfl) (fun _ _ _ h => h) (Or.inl ⟨by rfl, ?_⟩) (by assumption) ?_
          rotate_left
          · (intro wq hSw; (try dsimp only at hSw); go_simp; try with_reducible rfl)
          try simp only [Act.put, List.getElem_toArray, List.getElem_cons_succ, List.getElem_cons_zero, List.setIfInBounds_toArray, List.set_cons_zero, List.set_cons_succ]
          refine wpAnyH_take (i := 13) (v := ?_) rfl (by kernel_rfl) (by kernel_rfl) (by kernel_rfl) (fun _ _ _ h => h) (Or.inl ⟨by rfl, ?_⟩) (by assumption) ?_
          rotate_left
          · (intro wq hSw; (try dsimp only at hSw); go_simp; try with_reducible rfl)
          try simp only [Act.put, List.getElem_toArray, List.getElem_cons_succ, List.getElem_cons_zero, List.setIfInBounds_toArray, List.set_cons_zero, List.set_cons_succ]
          refine wpAnyH_take (i := 14) (v := ?_) rfl (by kernel_rfl) (by kernel_rfl) (by kernel_rfl) (fun _ _ _ h => h) (Or.inl ⟨by rfl, ?_⟩) (by assumption) ?_
          rotate_left
          · (intro wq hSw; (try dsimp only at hSw); go_simp; try with_reducible rfl)
          try simp only [Act.put, List.getElem_toArray, List.getElem_cons_succ, List.getElem_cons_zero, List.setIfInBounds_toArray, List.set_cons_zero, List.set_cons_succ]
          refine wpAnyH_take (i := 15) (v := ?_) rfl (by kernel_rfl) (by kernel_rfl) (by kernel_rfl) (fun _ _ _ h => h) (Or.inl ⟨by rfl, ?_⟩) (by assumption) ?_
          rotate_left
          · (intro wq hSw; (try dsimp only at hSw); go_simp; try with_reducible rfl)
          try simp only [Act.put, List.getElem_toArray, List.getElem_cons_succ, List.getElem_cons_zero, List.setIfInBounds_toArray, List.set_cons_zero, List.set_cons_succ]
          refine wpAnyH_done (by kernel_rfl) ?_ _
          go_upto_region 5 with fail
          refine wp_region_held_drew (S := (fun w' => (w'.cell? ⟨w.heap.size, 0, none⟩ = some (.int .i64 f) ∧ w'.cell? ⟨w.heap.size + 1, 0, none⟩ = some (.int .i64 t)) ∧ w'.cell? ⟨b, 2, none⟩ = some (.int .i64 (r.first : Nat)) ∧ w'.cell? ⟨b, 3, none⟩ = some (.int .i64 (X : Nat)))) (by kernel_rfl) ?_ (fun hHeld => ?_)
          · (try dsimp only); (exact hF hk1.drew.drew)
          refine wpAnyH_take (i := 0) (v := ?_) rfl (by kernel_rfl) (by kernel_rfl) (by kernel_rfl) (fun _ _ _ h => h) (Or.inl ⟨by rfl, ?_⟩) (by assumption) ?_
          rotate_left
          · (intro wq hSw; (try dsimp only at hSw); go_simp; try with_reducible rfl)
          try simp only [Act.put, List.getElem_toArray, List.getElem_cons_zero, List.setIfInBounds_toArray, List.set_cons_zero, List.set_cons_succ]
          refine wpAnyH_take (i := 1) (v := ?_) rfl (by kernel_rfl) (by kernel_rfl) (by kernel_rfl) (fun _ _ _ h => h) (Or.inl ⟨by rfl, ?_⟩) (by assumption) ?_
          rotate_left
          · (intro wq hSw; (try dsimp only at hSw); go_simp; try with_reducible rfl)
          try simp only [Act.put, List.getElem_toArray, List.getElem_cons_succ, List.getElem_cons_zero, List.setIfInBounds_toArray, List.set_cons_zero, List.set_cons_succ]
          refine wpAnyH_take (i := 2) (v := ?_) rfl (by kernel_rfl) (by kernel_rfl) (by kernel_rfl) (fun _ _ _ h => h) (Or.inl ⟨by rfl, ?_⟩) (by assumption) ?_
          rotate_left
          · (intro wq hSw; (try dsimp only at hSw); go_simp; try with_reducible rfl)
          try simp only [Act.put, List.getElem_toArray, List.getElem_cons_succ, List.getElem_cons_zero, List.setIfInBounds_toArray, List.set_cons_zero, List.set_cons_succ]
          refine wpAnyH_take (i := 3) (v := ?_) rfl (by kernel_rfl) (by kernel_rfl) (by kernel_rfl) (fun _ _ _ h => h) (Or.inl ⟨by rfl, ?_⟩) (by assumption) ?_
          rotate_left
          · (intro wq hSw; (try dsimp only at hSw); go_simp; try with_reducible rfl)
          try simp only [Act.put, List.getElem_toArray, List.getElem_cons_succ, List.getElem_cons_zero, List.setIfInBounds_toArray, List.set_cons_zero, List.set_cons_succ]
          refine wpAnyH_take (i := 4) (v := ?_) rfl (by kernel_rfl) (by kernel_rfl) (by kernel_rfl) (fun _ _ _ h => h) (Or.inl ⟨by rfl, ?_⟩) (by assumption) ?_
          rotate_left
          · (intro wq hSw; (try dsimp only at hSw); go_simp; try with_reducible rfl)
          try simp only [Act.put, List.getElem_toArray, List.getElem_cons_succ, List.getElem_cons_zero, List.setIfInBounds_toArray, List.set_cons_zero, List.set_cons_succ]
          refine wpAnyH_take (i := 5) (v := ?_) rfl (by kernel_rfl) (by kernel_rfl) (by kernel_rfl) (fun _ _ _ h => h) (Or.inl ⟨by rfl, ?_⟩) (by assumption) ?_
          rotate_left
          · (intro wq hSw; (try dsimp only at hSw); go_simp; try with_reducible rfl)
          try simp only [Act.put, List.getElem_toArray, List.getElem_cons_succ, List.getElem_cons_zero, List.setIfInBounds_toArray, List.set_cons_zero, List.set_cons_succ]
          refine wpAnyH_take (i := 6) (v := ?_) rfl (by kernel_rfl) (by kernel_rfl) (by kernel_rfl) (fun _ _ _ h => h) (Or.inl ⟨by rfl, ?_⟩) (by assumption) ?_
          rotate_left
          · (intro wq hSw; (try dsimp only at hSw); go_simp; try with_reducible rfl)
          try simp only [Act.put, List.getElem_toArray, List.getElem_cons_succ, List.getElem_cons_zero, List.setIfInBounds_toArray, List.set_cons_zero, List.set_cons_succ]
          refine wpAnyH_done (by kernel_rfl) ?_ _
          obtain ⟨⟨q0, q1⟩, _, _⟩ := hF hk1.drew.drew
          go_wp2_with fail
          refine bodyPost_ret (v := .tuple #[.slice none 0 0, .int .i64 14]) (by simp [results, Tryz.results36, go_sem]) rfl ?_
          exact hbad.out 14 _ he.out (hk0.trans hk1.drew.drew (by simp))
        · have hd4 : decide (f < (r.first : Int)) = false := by simpa using h4
          by_cases h5 : f = t
          · have he := hide (show rangeG r f t = ([], 0) by unfold rangeG; rw [hX, if_neg (by omega), if_neg h4, h5, List.drop_eq_nil_of_le (by rw [List.length_take]; omega)])
            have hft : (f == t) = true := by simp [h5]
            replace h5 := hide h5
            replace hX := hide hX
            replace hs0 := hide hs0
            clear hnl
            go_enter Tryz.func36, Tryz.ntmps36
            go_upto_region 1 with fail
            rw [← hW0]
            clear hW0
            go_wp2_with fail
            refine hM.out.mono ?_
            rintro e w1 ⟨rfl, hk1⟩
            go_upto_region 3 with fail
            refine wp_region_held_drew (S := (fun w' => (w'.cell? ⟨w.heap.size, 0, none⟩ = some (.int .i64 f) ∧ w'.cell? ⟨w.heap.size + 1, 0, none⟩ = some (.int .i64 t)) ∧ w'.cell? ⟨b, 2, none⟩ = some (.int .i64 (r.first : Nat)) ∧ w'.cell? ⟨b, 3, none⟩ = some (.int .i64 (X : Nat)))) (by kernel_rfl) ?_ (fun hHeld => ?_)
            · (try dsimp only); (exact hF hk1.drew)
            refine wpAnyH_take (i := 0) (v := ?_) rfl (by kernel_rfl) (by kernel_rfl) (by kernel_rfl) (fun _ _ _ h => h) (Or.inl ⟨by rfl, ?_⟩) (by assumption) ?_
            rotate_left
            · (intro wq hSw; (try dsimp only at hSw); go_simp; try with_reducible rfl)
            try simp only [Act.put, List.getElem_toArray, List.getElem_cons_zero, List.setIfInBounds_toArray, List.set_cons_zero, List.set_cons_succ]
            refine wpAnyH_take (i := 1) (v := ?_) rfl (by kernel_rfl) (by kernel_rfl) (by kernel_rfl) (fun _ _ _ h => h) (Or.inl ⟨by rfl, ?_⟩) (by assumption) ?_
            rotate_left
            · (intro wq hSw; (try dsimp only at hSw); go_simp; try with_reducible rfl)
            try simp only [Act.put, List.getElem_toArray, List.getElem_cons_succ, List.getElem_cons_zero, List.setIfInBounds_toArray, List.set_cons_zero, List.set_cons_succ]
            refine wpAnyH_take (i := 2) (v := ?_) rfl (by kernel_rfl) (by kernel_rfl) (by kernel_rfl) (fun _ _ _ h => h) (Or.inl ⟨by rfl, ?_⟩) (by assumption) ?_
            rotate_left
            · (intro wq hSw; (try dsimp only at hSw); go_simp; try with_reducible rfl)
            try simp only [Act.put, List.getElem_toArray, List.getElem_cons_succ, List.getElem_cons_zero, List.setIfInBounds_toArray, List.set_cons_zero, List.set_cons_succ]
            refine wpAnyH_take (i := 3) (v := ?_) rfl (by kernel_rfl) (by kernel_rfl) (by kernel_rfl) (fun _ _ _ h => h) (Or.inl ⟨by rfl, ?_⟩) (by assumption) ?_
            rotate_left
            · (intro wq hSw; (try dsimp only at hSw); go_simp; try with_reducible rfl)
            try simp only [Act.put, List.getElem_toArray, List.getElem_cons_succ, List.getElem_cons_zero, List.setIfInBounds_toArray, List.set_cons_zero, List.set_cons_succ]
            refine wpAnyH_take (i := 4) (v := ?_) rfl (by kernel_rfl) (by kernel_rfl) (by kernel_rfl) (fun _ _ _ h => h) (Or.inl ⟨by rfl, ?_⟩) (by assumption) ?_
            rotate_left
            · (intro wq hSw; (try dsimp only at hSw); go_simp; try with_reducible rfl)
            try simp only [Act.put, List.getElem_toArray, List.getElem_cons_succ, List.getElem_cons_zero, List.setIfInBounds_toArray, List.set_cons_zero, List.set_cons_succ]
            refine wpAnyH_take (i := 5) (v := ?_) rfl (by kernel_rfl) (by kernel_rfl) (by kernel_rfl) (fun _ _ _ h => h) (Or.inl ⟨by rfl, ?_⟩) (by assumption) ?_
            rotate_left
            · (intro wq hSw; (try dsimp only at hSw); go_simp; try with_reducible rfl)
            try simp only [Act.put, List.getElem_toArray, List.getElem_cons_succ, List.getElem_cons_zero, List.setIfInBounds_toArray, List.set_cons_zero, List.set_cons_succ]
            refine wpAnyH_take (i := 6) (v := ?_) rfl (by kernel_rfl) (by kernel_rfl) (by kernel_rfl) (fun _ _ _ h => h) (Or.inl ⟨by rfl, ?_⟩) (by assumption) ?_
            rotate_left
            · (intro wq hSw; (try dsimp only at hSw); go_simp; try with_reducible rfl)
            try simp only [Act.put, List.getElem_toArray, List.getElem_cons_succ, List.getElem_cons_zero, List.setIfInBounds_toArray, List.set_cons_zero, List.set_cons_succ]
            refine wpAnyH_take (i := 7) (v := ?_) rfl (by kernel_rfl) (by kernel_rfl) (by kernel_rfl) (fun _ _ _ h => h) (Or.inl ⟨by rfl, ?_⟩) (by assumption) ?_
            rotate_left
            · (intro wq hSw; (try dsimp only at hSw); go_simp; try with_reducible rfl)
            try simp only [Act.put, List.getElem_toArray, List.getElem_cons_succ, List.getElem_cons_zero, List.setIfInBounds_toArray, List.set_cons_zero, List.set_cons_succ]
            refine wpAnyH_take (i := 8) (v := ?_) rfl (by kernel_rfl) (by kernel_rfl) (by kernel_rfl) (fun _ _ _ h => h) (Or.inl ⟨by rfl, ?_⟩) (by assumption) ?_
            rotate_left
            · (intro wq hSw; (try dsimp only at hSw); go_simp; try with_reducible rfl)
            try simp only [Act.put, List.getElem_toArray, List.getElem_cons_succ, List.getElem_cons_zero, List.setIfInBounds_toArray, List.set_cons_zero, List.set_cons_succ]
            refine wpAnyH_take (i := 9) (v := ?_) rfl (by kernel_rfl) (by kernel_rfl) (by kernel_rfl) (fun _ _ _ h => h) (Or.inl ⟨by rfl, ?_⟩) (by assumption) ?_
            rotate_left
            · (intro wq hSw; (try dsimp only at hSw); go_simp; try with_reducible rfl)
            try simp only [Act.put, List.getElem_toArray, List.getElem_cons_succ, List.getElem_cons_zero, List.setIfInBounds_toArray, List.set_cons_zero, List.set_cons_succ]
            refine wpAnyH_take (i := 10) (v := ?_) rfl (by kernel_rfl) (by kernel_rfl) (by kernel_rfl) (fun _ _ _ h => h) (Or.inl ⟨by rfl, ?_⟩) (by assumption) ?_
            rotate_left
            · (intro wq hSw; (try dsimp only at hSw); go_simp; try with_reducible rfl)
            try simp only [Act.put, List.getElem_toArray, List.getElem_cons_succ, List.getElem_cons_zero, List.setIfInBounds_toArray, List.set_cons_zero, List.set_cons_succ]
            refine wpAnyH_take (i := 11) (v := ?_) rfl (by kernel_rfl) (by kernel_rfl) (by kernel_rfl) (fun _ _ _ h => h) (Or.inl ⟨by rfl, ?_⟩) (by assumption) ?_
            rotate_left
            · (intro wq hSw; (try dsimp only at hSw); go_simp; try with_reducible rfl)
            try simp only [Act.put, List.getElem_toArray, List.getElem_cons_succ, List.getElem_cons_zero, List.setIfInBounds_toArray, List.set_cons_zero, List.set_cons_succ]
            refine wpAnyH_take (i := 12) (v := ?_) rfl (by kernel_rfl) (by kernel_rfl) (by kernel_rfl) (fun _ _ _ h => h) (Or.inl ⟨by rfl, ?_⟩) (by assumption) ?_
            rotate_left
            · (intro wq hSw; (try dsimp only at hSw); go_simp; try with_reducible rfl)
            try simp only [Act.put, List.getElem_toArray, List.getElem_cons_succ, List.getElem_cons_zero, List.setIfInBounds_toArray, List.set_cons_zero, List.set_cons_succ]
            refine wpAnyH_take (i := 13) (v := ?_) rfl (by kernel_rfl) (by kernel_rfl) (by kernel_rfl) (fun _ _ _ h => h) (Or.inl ⟨by rfl, ?_⟩) (by assumption) ?_
            rotate_left
            · (intro wq hSw; (try dsimp only at hSw); go_simp; try with_reducible rfl)
            try simp only [Act.put, List.getElem_toArray, List.getElem_cons_succ, List.getElem_cons_zero, List.setIfInBounds_toArray, List.set_cons_zero, List.set_cons_succ]
            refine wpAnyH_take (i := 14) (v := ?_) rfl (by kernel_rfl) (by kernel_rfl) (by kernel_rfl) (fun _ _ _ h => h) (Or.inl ⟨by rfl, ?_⟩) (by assumption) ?_
            rotate_left
            · (intro wq hSw; (try dsimp only at hSw); go_simp; try with_reducible rfl)
            try simp only [Act.put, List.getElem_toArray, List.getElem_cons_succ, List.getElem_cons_zero, List.setIfInBounds_toArray, List.set_cons_zero, List.set_cons_succ]
            refine wpAnyH_take (i := 15) (v := ?_) rfl (by kernel_rfl) (by kernel_rfl) (by kernel_rfl) (fun _ _ _ h => h) (Or.inl ⟨by rfl, ?_⟩) (by assumption) ?_
            rotate_left
            · (intro wq hSw; (try dsimp only at hSw); go_simp; try with_reducible rfl)
            try simp only [Act.put, List.getElem_toArray, List.getElem_cons_succ, List.getElem_cons_zero, List.setIfInBounds_toArray, List.set_cons_zero, List.set_cons_succ]
            refine wpAnyH_done (by kernel_rfl) ?_ _
            go_upto_region 5 with fail
            refine wp_region_held_drew (S := (fun w' => (w'.cell? ⟨w.heap.size, 0, none⟩ = some (.int .i64 f) ∧ w'.cell? ⟨w.heap.size + 1, 0, none⟩ = some (.int .i64 t)) ∧ w'.cell? ⟨b, 2, none⟩ = some (.int .i64 (r.first : Nat)) ∧ w'.cell? ⟨b, 3, none⟩ = some (.int .i64 (X : Nat)))) (by kernel_rfl) ?_ (fun hHeld => ?_)
            · (try dsimp only); (exact hF hk1.drew.drew)
            refine wpAnyH_take (i := 0) (v := ?_) rfl (by kernel_rfl) (by kernel_rfl) (by kernel_rfl) (fun _ _ _ h => h) (Or.inl ⟨by rfl, ?_⟩) (by assumption) ?_
            rotate_left
            · (intro wq hSw; (try dsimp only at hSw); go_simp; try with_reducible rfl)
            try simp only [Act.put, List.getElem_toArray, List.getElem_cons_zero, List.setIfInBounds_toArray, List.set_cons_zero, List.set_cons_succ]
            refine wpAnyH_take (i := 1) (v := ?_) rfl (by kernel_rfl) (by kernel_rfl) (by kernel_rfl) (fun _ _ _ h => h) (Or.inl ⟨by rfl, ?_⟩) (by assumption) ?_
            rotate_left
            · (intro wq hSw; (try dsimp only at hSw); go_simp; try with_reducible rfl)
            try simp only [Act.put, List.getElem_toArray, List.getElem_cons_succ, List.getElem_cons_zero, List.setIfInBounds_toArray, List.set_cons_zero, List.set_cons_succ]
            refine wpAnyH_take (i := 2) (v := ?_) rfl (by kernel_rfl) (by kernel_rfl) (by kernel_rfl) (fun _ _ _ h => h) (Or.inl ⟨by rfl, ?_⟩) (by assumption) ?_
            rotate_left
            · (intro wq hSw; (try dsimp only at hSw); go_simp; try with_reducible rfl)
            try simp only [Act.put, List.getElem_toArray, List.getElem_cons_succ, List.getElem_cons_zero, List.setIfInBounds_toArray, List.set_cons_zero, List.set_cons_succ]
            refine wpAnyH_take (i := 3) (v := ?_) rfl (by kernel_rfl) (by kernel_rfl) (by kernel_rfl) (fun _ _ _ h => h) (Or.inl ⟨by rfl, ?_⟩) (by assumption) ?_
            rotate_left
            · (intro wq hSw; (try dsimp only at hSw); go_simp; try with_reducible rfl)
            try simp only [Act.put, List.getElem_toArray, List.getElem_cons_succ, List.getElem_cons_zero, List.setIfInBounds_toArray, List.set_cons_zero, List.set_cons_succ]
            refine wpAnyH_take (i := 4) (v := ?_) rfl (by kernel_rfl) (by kernel_rfl) (by kernel_rfl) (fun _ _ _ h => h) (Or.inl ⟨by rfl, ?_⟩) (by assumption) ?_
            rotate_left
            · (intro wq hSw; (try dsimp only at hSw); go_simp; try with_reducible rfl)
            try simp only [Act.put, List.getElem_toArray, List.getElem_cons_succ, List.getElem_cons_zero, List.setIfInBounds_toArray, List.set_cons_zero, List.set_cons_succ]
            refine wpAnyH_take (i := 5) (v := ?_) rfl (by kernel_rfl) (by kernel_rfl) (by kernel_rfl) (fun _ _ _ h => h) (Or.inl ⟨by rfl, ?_⟩) (by assumption) ?_
            rotate_left
            · (intro wq hSw; (try dsimp only at hSw); go_simp; try with_reducible rfl)
            try simp only [Act.put, List.getElem_toArray, List.getElem_cons_succ, List.getElem_cons_zero, List.setIfInBounds_toArray, List.set_cons_zero, List.set_cons_succ]
            refine wpAnyH_take (i := 6) (v := ?_) rfl (by kernel_rfl) (by kernel_rfl) (by kernel_rfl) (fun _ _ _ h => h) (Or.inl ⟨by rfl, ?_⟩) (by assumption) ?_
            rotate_left
            · (intro wq hSw; (try dsimp only at hSw); go_simp; try with_reducible rfl)
            try simp only [Act.put, List.getElem_toArray, List.getElem_cons_succ, List.getElem_cons_zero, List.setIfInBounds_toArray, List.set_cons_zero, List.set_cons_succ]
            refine wpAnyH_done (by kernel_rfl) ?_ _
            obtain ⟨⟨q0, q1⟩, _, _⟩ := hF hk1.drew.drew
            go_wp2_with fail
            refine bodyPost_ret (v := .tuple #[.slice none 0 0, .int .i64 0]) (by simp [results, Tryz.results36, go_sem]) rfl ?_
            exact hbad.out 0 _ he.out (hk0.trans hk1.drew.drew (by simp))
          · exact range_main w b r a n c ps hH.out hle hn f t X hX W0 hW0 hk0 hs0 hcf hct (by omega) (by omega) (by omega) (by omega)
end Go.Proofs.YtnkddhmhjnhgcaaGreatDoor
