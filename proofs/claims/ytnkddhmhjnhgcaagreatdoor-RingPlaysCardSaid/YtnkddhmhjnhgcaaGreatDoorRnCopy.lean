/- The program's Copy of layer 8. -/
import Derived.Test.YtnkddhmhjnhgcaaGreatDoorRnEach
namespace Go.Proofs.YtnkddhmhjnhgcaaGreatDoor
open Go.RowKit
set_option linter.unusedVariables false
set_option maxRecDepth 100000
attribute [local go_sem] Oper.semAt_some

def noDefer (o : Oper) : Bool := match o.op with | .defer _ => false | _ => true
theorem noDefer_all {l : List Oper} (h : l.all noDefer = true) : ∀ o ∈ l, NoDefer o := fun o ho c hc => by
  have := List.all_eq_true.1 h o ho
  unfold noDefer at this
  rw [hc] at this
  cases this
/-- A block of cells. -/
def IsC (w : World) (y : Nat) : Prop := ∃ o : Obj, w.heap[y]? = some o ∧ o.isCells = true
theorem IsC.of_cell {w : World} {b i : Nat} {v : Value} (h : w.cell? ⟨b, i, none⟩ = some v) : IsC w b := cells_of_cell h
theorem Mid.cells {w : World} {a : Option Addr} {n c size : Nat} {xs : List Value} (h : Mid w a n c size xs) (hs : 0 < size) : ∀ y ∈ blkC a c, IsC w y := fun y hy => by
  obtain ⟨h1, h2, h3, h4⟩ := h
  unfold blkC at hy
  split at hy
  · cases hy
  · rename_i hc
    rcases h4 with h4 | ⟨g, o, rfl, hr, ht⟩
    · exact absurd h4 hc
    · simp [blk] at hy
      subst hy
      obtain ⟨v, hv⟩ := Option.isSome_iff_exists.1 (ht 0 (Nat.mul_pos (by omega) hs)).1
      exact IsC.of_cell hv
theorem Own.cells {w : World} {base : Nat} {E : TypeId} {a : Option Addr} {n c size : Nat} {xs : List Value} (h : Own w base E a n c size xs) : ∀ y ∈ blk a, IsC w y := fun y hy => by
  rcases h.2 with ⟨hv, _⟩ | ⟨g, cap, cur, hv, _, hg, _⟩
  · injection hv with h1; subst h1; simp [blk] at hy
  · injection hv with h1 _ _
    subst h1
    simp [blk] at hy
    subst hy
    exact ⟨_, hg, rfl⟩
theorem PG.cells {w : World} {b : Nat} {s : Sh} {B : List Nat} (h : PG w b s B) : ∀ y ∈ B, IsC w y := fun y hy => by
  obtain ⟨a, n, c, vs, h, rfl⟩ := h
  rcases pgB_mem.1 hy with rfl | hy | hy
  · exact ⟨_, h.box, rfl⟩
  · exact h.mid.cells (by decide) y hy
  · obtain ⟨v, hv, hy⟩ := blkL_mem.1 hy
    obtain ⟨l, hl⟩ := h.own v hv
    exact hl.cells y hy
theorem RnRaw.cells {w : World} {b : Nat} {m p f x : Int} {P : Nat} {a : Option Addr} {n c : Nat} {ps : List PgX} (h : RnRaw w b m p f x P a n c ps) : ∀ y ∈ rnB b a c ps, IsC w y := fun y hy => by
  rcases rnB_mem.1 hy with rfl | hy | hy
  · exact ⟨_, h.box, rfl⟩
  · exact h.mid.cells (by decide) y hy
  · obtain ⟨q, hq, hy⟩ := blkP_mem.1 hy
    exact (h.pgs q hq).cells y hy
theorem IsC.ne {w : World} {y k : Nat} {o : Obj} (h : IsC w y) (hk : w.heap[k]? = some o) (ho : o.isCells = false) : y ≠ k := fun e => by
  obtain ⟨o', h1, h2⟩ := h
  subst e
  rw [hk] at h1
  cases h1
  rw [ho] at h2
  cases h2
theorem kept_put1 (w : World) (k : Nat) (o : Obj) : Kept [k] w (w.putObj k o) := ⟨rfl, rfl, rfl, by simp, fun i hi hn => World.putObj_heap_other (by simp at hn; exact hn)⟩
theorem keepsFrom_of {S : List Nat} {W W2 : World} (B : Nat) (h : Kept S W W2) (hS : ∀ y ∈ S, IsC W y) : KeepsFrom B W W2 := ⟨h.size, fun k o _ hk ho => (h.block k (Array.getElem?_eq_some_iff.1 hk).1 (fun hm => (hS k hm).ne hk ho rfl)).trans hk⟩
/-- The field pages is read, and stored. -/
theorem wp_load_rbP {op : Oper} {A : Act} {w : World} {K : Act → World → Prop} {Q : Exit → Act → World → Prop} {u : Operand} (ho : op.op = .load 56 u) (b : Nat) (hx : A.eval u = .pointer (some ⟨b, 4, none⟩)) {m p f x : Int} {a : Option Addr} {n c : Nat} (hb : RbIn w b m p f x a n c)
    (h : K (A.put op.dst (.slice a n c)) w) : op.wp Tryz.prog A w K Q := by
  have hc := hb.at.2.2.2.2
  have hrun : (Instr.loadAt 56 (.pointer (some ⟨b, 4, none⟩))).run Tryz.prog w = .ok (.slice a n c) w := by
    have hq : (Tryz.prog.info? 56).map (·.size) = some 1 := by kernel_rfl
    go_simp
  unfold Oper.wp execOp
  simp only [ho, hx, Sem.run_bind, Sem.run_pure, Result.andThen_ok, hrun]
  exact h
theorem wp_store_rbP {op : Oper} {A : Act} {w : World} {K : Act → World → Prop} {Q : Exit → Act → World → Prop} {u y : Operand} (ho : op.op = .store 56 u y) (hd : op.dst = none) (b : Nat) (hx : A.eval u = .pointer (some ⟨b, 4, none⟩)) {m p f x : Int} {a : Option Addr} {n c : Nat} (hb : RbIn w b m p f x a n c)
    (a' : Option Addr) (n' c' : Nat) (hy : A.eval y = .slice a' n' c') (h : ∀ w', RbIn w' b m p f x a' n' c' → Kept [b] w w' → K A w') : op.wp Tryz.prog A w K Q := by
  have hst := run_storeCells_cells (P := Tryz.prog) b 4 [.slice a' n' c'] 0 w (fun j hj => by simp at hj; subst hj; rw [hb.at.2.2.2.2]; rfl) (fun j hj => hb.froz _) (by simp [Value.oneCell'])
  have hrun : (Instr.storeAt 56 (.pointer (some ⟨b, 4, none⟩)) (.slice a' n' c')).run Tryz.prog w = .ok () (w.setCell ⟨b, 4, none⟩ (.slice a' n' c')) := by
    have hq : (Tryz.prog.info? 56).map (·.size) = some 1 := by kernel_rfl
    cases hi : Tryz.prog.info? 56 with
    | none => simp [hi] at hq
    | some i =>
      have hs : i.size = 1 := by simp [hi] at hq; omega
      simp only [Nat.add_zero] at hst
      simp only [Instr.storeAt, Instr.sureAddr, Sem.run_bind, Sem.run_pure, Result.andThen_ok]
      simp [storeVar, sizeOf, typeInfo, hi, Value.cells, hs, hst]
      rfl
  unfold Oper.wp execOp
  simp only [ho, hx, hy, Sem.run_bind, Sem.run_pure, Result.andThen_ok, hrun]
  have := h _ (hb.setP a' n' c') ((Kept.refl [b] w).setCell (.inl (by simp)) _)
  show K (A.put op.dst undef) _
  rw [hd]
  exact this
theorem PG.copy {w : World} {b : Nat} {s : Sh} {B : List Nat} (h : PG w b s B) : Calls Tryz.prog 53 #[.pointer (some ⟨b, 0, none⟩)] w (CopyRet s w) := by
  obtain ⟨a, n, c, vs, h, _⟩ := h
  exact CopyS_any w b s a n c vs h
def Copy8Ret (r : Rg) (w : World) (e : Ending) (w' : World) : Prop := ∃ b' B', e = .returned (.pointer (some ⟨b', 0, none⟩)) ∧ RN w' b' r B' ∧ (∀ y ∈ B', w.heap.size ≤ y) ∧ Kept [] w w'
/-- What the copy is while its pages come. -/
def CopyI (w : World) (r : Rg) (cb : Nat) (pre : List (Nat × PgX)) (W : World) : Prop := ∃ a' n' c' qs, RnRaw W cb r.limit r.places r.first r.next r.places a' n' c' qs ∧ shs qs = pre.map (fun x => x.2.s) ∧ (∀ y ∈ rnB cb a' c' qs, w.heap.size ≤ y) ∧ Kept [] w W
theorem CopyI.keep {w : World} {r : Rg} {cb : Nat} {pre : List (Nat × PgX)} {W W2 : World} (h : CopyI w r cb pre W) (hk : Kept [] W W2) : CopyI w r cb pre W2 := by
  obtain ⟨a', n', c', qs, h1, h2, h3, h4⟩ := h
  exact ⟨a', n', c', qs, h1.keep hk, h2, h3, h4.trans hk (by simp)⟩
theorem CopyI.put {w : World} {r : Rg} {cb : Nat} {pre : List (Nat × PgX)} {W : World} {k : Nat} {o : Obj} (h : CopyI w r cb pre W) (hk : w.heap.size ≤ k) (ho : W.heap[k]? = some o) (hc : o.isCells = false) (o' : Obj) : CopyI w r cb pre (W.putObj k o') := by
  obtain ⟨a', n', c', qs, h1, h2, h3, h4⟩ := h
  exact ⟨a', n', c', qs, h1.kept (kept_put1 W k o') (fun y hy hm => by simp at hm; exact (h1.cells y hy).ne ho hc hm), h2, h3, h4.put hk o'⟩
theorem numP_snd : ∀ (f : Nat) (ps : List PgX), (numP f ps).map (fun x => x.2.s) = shs ps
  | _, [] => rfl
  | f, p :: ps => by simp [numP, numP_snd, shs]
theorem copy_round {w W w7 : World} {r : Rg} {cb : Nat} {pre : List (Nat × PgX)} {x : Nat × PgX} {a1 a6 : Option Addr} {n1 c1 c6 b4 : Nat} {qs : List PgX} {B4 T : List Nat} {B0 : Nat} (hkw : Kept [] w W) (hr : RnRaw W cb r.limit r.places r.first r.next r.places a1 n1 c1 qs) (hqs : shs qs = pre.map (fun x => x.2.s)) (hge : ∀ y ∈ rnB cb a1 c1 qs, w.heap.size ≤ y) (hT : ∀ y ∈ T, y < w.heap.size)
    (u1 : RnRaw w7 cb r.limit r.places r.first r.next r.places a6 (n1 + 1) c6 (qs ++ [⟨b4, x.2.s, B4⟩])) (u2 : Kept (rnB cb a1 c1 qs) W w7) (u3 : ∀ y ∈ rnB cb a6 c6 (qs ++ [⟨b4, x.2.s, B4⟩]), y ∈ rnB cb a1 c1 qs ∨ W.heap.size ≤ y) : KeepsFrom B0 W w7 ∧ KeptOff T W w7 ∧ CopyI w r cb (pre ++ [x]) w7 := by
  have hs := hkw.size
  refine ⟨keepsFrom_of B0 u2 hr.cells, ⟨_, u2, fun y hy hm => by have := hge y hy; have := hT y hm; omega⟩, a6, n1 + 1, c6, _, u1, by rw [shs_app, hqs]; simp, fun y hy => ?_, hkw.trans u2 (fun y hy => .inr (hge y hy))⟩
  rcases u3 y hy with h | h
  · exact hge y h
  · omega
theorem numP_mem : ∀ (f : Nat) (ps : List PgX) (x : Nat × PgX), x ∈ numP f ps → x.2 ∈ ps
  | _, [], x, h => by cases h
  | f, p :: ps, x, h => by
    rcases List.mem_cons.1 h with rfl | h
    · simp
    · exact List.mem_cons_of_mem _ (numP_mem _ ps x h)
set_option maxHeartbeats 8000000 in
theorem Copy8_any (w : World) (b : Nat) (r : Rg) (a : Option Addr) (n c : Nat) (ps : List PgX) (h : RnIs w b r a n c ps) (hle : r.ls.length ≤ r.limit) (hn : r.next ≤ 1000000000) :
    Calls Tryz.prog 33 #[.pointer (some ⟨b, 0, none⟩)] w (Copy8Ret r w) := by
  have hM := hide (made_rn h)
  have hH := hide h
  clear h
  refine (callsIn_wide (n := 0)).1 ?_
  refine callsIn_of_wp_marks Tryz.func33 rfl trivial ?_ rfl
  simp only [Tryz.ntmps33, List.size_toArray, List.length_cons, List.length_nil, Nat.reduceAdd, Nat.reduceSub, Array.replicate_succ, Array.replicate_zero, List.push_toArray, List.append_toArray, List.nil_append, List.cons_append]
  refine wpIn_wide.2 ?_
  go_wp2_with fail
  refine hM.out.mono ?_
  rintro e w1 ⟨rfl, hk1⟩
  obtain ⟨q0, q1, q2, q3, q4⟩ := (hH.out.box.kept hk1 (by simp)).at
  go_upto_region 4 with (refine wpList_store_rb rfl rfl rfl w1.heap.size rfl (RbIn.new w1 0 0 0 0 none 0 0) r.limit r.places r.first r.next a n c rfl ?_; intro w2 hb2 j2)
  clear q0 q1 q2 q3 q4
  have hk2 : Kept [] w1 w2 := ((Kept.refl [] w1).alloc (.cells #[.int .i64 0, .int .i64 0, .int .i64 0, .int .i64 0, .slice none 0 0] 58)).trans j2 (by simp)
  obtain ⟨q0, q1, q2, q3, q4⟩ := hb2.at
  have f4 := hb2.froz 4
  go_upto_region 5 with fail
  have hb3 := hb2.setP none 0 0
  have j3 : Kept [w1.heap.size] w2 (w2.setCell ⟨w1.heap.size, 4, none⟩ (.slice none 0 0)) := (Kept.refl _ _).setCell (.inl (by simp)) _
  clear q0 q1 q2 q3 q4 f4
  generalize w2.setCell ⟨w1.heap.size, 4, none⟩ (.slice none 0 0) = w3 at *
  have hs1 := hk1.size
  have hs2 := hk2.size
  have hk3 : Kept [] w w3 := (hk1.trans hk2 (by simp)).trans j3 (fun y hy => by simp at hy; omega)
  have hI0 : CopyI w r w1.heap.size [] w3 := ⟨none, 0, 0, [], ⟨hb3, Mid.nil w3 1, fun q hq => (by cases hq), fun q hq => (by cases hq), by simp [blkC], by simp [blkP], by simp [blkC], List.Pairwise.nil⟩, rfl, fun y hy => by simp [rnB, blkC, blkP] at hy; omega, hk3⟩
  have hfin : Hid (∀ W D, CopyI w r w1.heap.size (numP r.first ps) W → w3.heap.size ≤ D → Copy8Ret r w (.returned (.pointer (some ⟨w1.heap.size, 0, none⟩))) (W.putObj D (.deferred none)) ∨ ¬ (∃ o, W.heap[D]? = some o ∧ o.isCells = false)) := hide (fun W D hI hD => by
    by_cases hc : ∃ o, W.heap[D]? = some o ∧ o.isCells = false
    · obtain ⟨o, ho, hoc⟩ := hc
      obtain ⟨a', n', c', qs, u1, u2, u3, u4⟩ := hI.put (by have := hk3.size; omega) ho hoc (.deferred none)
      rw [numP_snd] at u2
      have hh := hH.out
      have hs : shs qs = shs ps := u2
      exact .inl ⟨w1.heap.size, rnB w1.heap.size a' c' qs, rfl, ⟨a', n', c', qs, ⟨u1, by rw [hs]; exact hh.ls, by rw [hs]; exact hh.pa, hh.wf⟩, rfl, hle⟩, u3, u4⟩
    · exact .inr hc)
  have hcB : Hid (∀ y ∈ rnB b a c ps, y < w.heap.size) := hide hH.out.lt
  have hraw := (hH.out.keep hk3).toRnRaw
  have hsum : r.first + (lnsS (shs ps)).length ≤ 2000000000 := by have hnx := hH.out.nlen; have hll := hH.out.llen; omega
  have hsum := hide hsum
  go_wp2_with fail
  refine (wpIn_wide (n := 0)).1 ?_
  refine' wp_range_iter (gf := 52) (recv := #[.pointer (some ⟨b, 0, none⟩)]) (encs := encP) (T := rnB b a c ps) (items := numP r.first ps) rfl (enters_of Tryz.func52 (by kernel_rfl) rfl) (each8_iter w3 b _ _ _ r.first r.places a n c ps hraw hsum.out) (fun _ => rfl) (fun y hy => by have := hcB.out y hy; have := hk3.size; omega) (CopyI w r w1.heap.size) (fun _ _ _ => False) (fun pre W W2 h hk => h.keep hk) (fun _ _ _ _ h _ => h.elim) (fun pre W k o o' h hk ho hc => h.put (by have := hk3.size; omega) ho hc o') (fun _ _ _ _ _ _ h _ _ _ => h.elim) hI0 (fun x => { tmps := #[.pointer (some ⟨b, 0, none⟩), undef, .pointer none, .pointer (some ⟨w1.heap.size, 0, none⟩), undef, .pointer (some ⟨x.2.b, 0, none⟩), .pointer (some ⟨b, 0, none⟩), .bool true, .bool false, .pointer (some ⟨b, 0, none⟩), .pointer (some ⟨b, 0, none⟩), .agg #[.int .i64 (r.limit : Nat), .int .i64 (r.places : Nat), .int .i64 (r.first : Nat), .int .i64 (r.next : Nat), .slice a n c], .pointer (some ⟨w1.heap.size, 4, none⟩), .pointer (some ⟨b, 0, none⟩), .func (.func 52) #[.pointer (some ⟨b, 0, none⟩)] #[], .int .i64 (x.1 : Nat), .pointer (some ⟨x.2.b, 0, none⟩), undef, undef, undef, undef, undef, undef, undef], defers := [] }) ?assign ?body ?done ?stop
  case assign =>
    intro l x W K hK
    unfold encP
    gi_wp2
    exact hK
  case body =>
    rintro l pre x post W hx hoff ⟨a1, n1, c1, qs, hr1, hqs, hge, hkw⟩
    obtain ⟨N, p⟩ := x
    have hmem : p ∈ ps := numP_mem _ _ (N, p) (by rw [hx]; simp)
    have hql : qs.length < n := by
      have h1 : (shs qs).length = pre.length := by rw [hqs]; simp
      have h2 := congrArg List.length hx
      rw [numP_len, List.length_append, List.length_cons] at h2
      have h3 : (shs qs).length = qs.length := by simp [shs]
      have h4 := hH.out.plen
      omega
    have hn1 : n1 ≤ 10000000 := by have h1 := hr1.plen; have h2 := hH.out.nle; have h3 := hH.out.wf.l2; omega
    have hCp := hide (fun w4 (hk : Kept [] W w4) => (((hraw.off hoff).keep hk).pgs p hmem).copy)
    have hBx := hide (fun w4 (hk : Kept [] W w4) => (hr1.keep hk).box)
    have hMd := hide (fun w4 (hk : Kept [] W w4) => (hr1.keep hk).mid)
    have hpl := hide ((hraw.off hoff).pl p hmem)
    have hR1 := hide hr1
    have hqs := hide hqs
    have hge := hide hge
    have hx := hide hx
    clear hr1 hql hmem
    generalize w1.heap.size = cb at *
    refine wpIn_block ?_
    refine region_round_held (S := (fun _ => True)) (fun ⟨_, _, h⟩ => h) (noDefer_all (by kernel_rfl)) (by kernel_rfl) ?_ (fun hHeld => ?_)
    · (try dsimp only); (try trivial)
    refine wpAnyH_take (i := 0) (v := ?_) rfl (by kernel_rfl) (by kernel_rfl) (by kernel_rfl) (fun _ _ _ h => h) (Or.inl ⟨by rfl, ?_⟩) (by assumption) ?_
    rotate_left
    · (intro wq hSw; (try dsimp only at hSw); go_simp; try with_reducible rfl)
    try simp only [Act.put, List.getElem_toArray, List.getElem_cons_zero, List.setIfInBounds_toArray, List.set_cons_zero, List.set_cons_succ]
    refine wpAnyH_take (i := 2) (v := ?_) rfl (by kernel_rfl) (by kernel_rfl) (by kernel_rfl) (fun _ _ _ h => h) (Or.inl ⟨by rfl, ?_⟩) (by assumption) ?_
    rotate_left
    · (intro wq hSw; (try dsimp only at hSw); go_simp; try with_reducible rfl)
    try simp only [Act.put, List.getElem_toArray, List.getElem_cons_succ, List.getElem_cons_zero, List.setIfInBounds_toArray, List.set_cons_zero, List.set_cons_succ]
    refine wpAnyH_ready (rs := [1, 3]) (by kernel_rfl) (by simp) ?_
    refine AllReadyH.cons rfl (fun K hK => ?_) (AllReadyH.cons rfl (fun K hK => ?_) AllReadyH.nil)
    · rw [if_pos (by rfl)]
      refine wp_load_rbP rfl cb rfl (by first | exact hBx.out _ k5 | exact hBx.out _ k4 | exact hBx.out _ (Kept.refl [] W).drew) ?_
      refine hK.out _ _ ?_ (fun hHeld => ?_)
      · (try dsimp only); (try trivial)
      clear hK K
      try simp only [Act.put, List.getElem_toArray, List.getElem_cons_succ, List.getElem_cons_zero, List.setIfInBounds_toArray, List.set_cons_zero, List.set_cons_succ]
      refine wpAnyH_ready (rs := [3]) (by kernel_rfl) (by simp) ?_
      refine AllReadyH.cons rfl (fun K hK => ?_) AllReadyH.nil
      go_simp
      refine (hCp.out _ (Kept.refl [] W).drew).mono ?_; rintro e w4 ⟨b4, B4, rfl, hpg4, hnew4, hj4⟩; have k4 : Kept [] W w4 := (Kept.refl [] W).drew.trans hj4 (by simp)
      try go_wp2_with fail
      refine hK.out _ _ ?_ (fun hHeld => ?_)
      · (try dsimp only); (try trivial)
      clear hK K
      try simp only [Act.put, List.getElem_toArray, List.getElem_cons_succ, List.getElem_cons_zero, List.setIfInBounds_toArray, List.set_cons_zero, List.set_cons_succ]
      refine wpAnyH_ready (rs := [4]) (by kernel_rfl) (by simp) ?_
      refine AllReadyH.cons rfl (fun K hK => ?_) AllReadyH.nil
      rw [if_pos (by rfl)]
      refine wp_bsPt _ rfl (some ⟨b4, 0, none⟩) (by kernel_rfl) ?_; intro g5 w5 hg5 hr5 hj5; have k5 : Kept [] W w5 := k4.trans hj5 (by simp)
      refine hK.out _ _ ?_ (fun hHeld => ?_)
      · (try dsimp only); (try trivial)
      clear hK K
      try simp only [Act.put, List.getElem_toArray, List.getElem_cons_succ, List.getElem_cons_zero, List.setIfInBounds_toArray, List.set_cons_zero, List.set_cons_succ]
      refine wpAnyH_ready (rs := [5]) (by kernel_rfl) (by simp) ?_
      refine AllReadyH.cons rfl (fun K hK => ?_) AllReadyH.nil
      rw [if_pos (by rfl)]
      refine wp_app_mid ?_ elPtr rfl rfl (hMd.out w5 k5) rfl hr5 (ptV_one _) (by decide) (by omega); intro a6 c6 w6 hm6 hj6 hat6
      refine hK.out _ _ ?_ (fun hHeld => ?_)
      · (try dsimp only); (try trivial)
      clear hK K
      try simp only [Act.put, List.getElem_toArray, List.getElem_cons_succ, List.getElem_cons_zero, List.setIfInBounds_toArray, List.set_cons_zero, List.set_cons_succ]
      refine wpAnyH_take (i := 6) (v := ?_) rfl (by kernel_rfl) (by kernel_rfl) (by kernel_rfl) (fun _ _ _ h => h) (Or.inl ⟨by rfl, ?_⟩) (by assumption) ?_
      rotate_left
      · (intro wq hSw; (try dsimp only at hSw); go_simp; try with_reducible rfl)
      try simp only [Act.put, List.getElem_toArray, List.getElem_cons_succ, List.getElem_cons_zero, List.setIfInBounds_toArray, List.set_cons_zero, List.set_cons_succ]
      refine wpAnyH_ready (rs := [7]) (by kernel_rfl) (by simp) ?_
      refine AllReadyH.cons rfl (fun K hK => ?_) AllReadyH.nil
      rw [if_pos (by rfl)]
      refine wp_store_rbP rfl rfl cb rfl ((hBx.out w5 k5).kept hj6 hR1.out.d1) a6 (n1 + 1) c6 rfl ?_; intro w7 hb7 hj7
      refine hK.out _ _ ?_ (fun hHeld => ?_)
      · (try dsimp only); (try trivial)
      clear hK K
      try simp only [Act.put, List.getElem_toArray, List.getElem_cons_succ, List.getElem_cons_zero, List.setIfInBounds_toArray, List.set_cons_zero, List.set_cons_succ]
      refine wpAnyH_done (by kernel_rfl) ?_ _
      obtain ⟨u1, u2, u3⟩ := hR1.out.more (q := ⟨b4, p.s, B4⟩) hpg4 hpl.out hnew4 k4 hj5 hm6 hj6 hat6 hb7 hj7; exact copy_round (x := (N, p)) (T := rnB b a c ps) (B0 := w3.heap.size) hkw hR1.out hqs.out hge.out hcB.out u1 u2 u3
    · go_simp
      refine (hCp.out _ (Kept.refl [] W).drew).mono ?_; rintro e w4 ⟨b4, B4, rfl, hpg4, hnew4, hj4⟩; have k4 : Kept [] W w4 := (Kept.refl [] W).drew.trans hj4 (by simp)
      try go_wp2_with fail
      refine hK.out _ _ ?_ (fun hHeld => ?_)
      · (try dsimp only); (try trivial)
      clear hK K
      try simp only [Act.put, List.getElem_toArray, List.getElem_cons_succ, List.getElem_cons_zero, List.setIfInBounds_toArray, List.set_cons_zero, List.set_cons_succ]
      refine wpAnyH_ready (rs := [1, 4]) (by kernel_rfl) (by simp) ?_
      refine AllReadyH.cons rfl (fun K hK => ?_) (AllReadyH.cons rfl (fun K hK => ?_) AllReadyH.nil)
      · rw [if_pos (by rfl)]
        refine wp_load_rbP rfl cb rfl (by first | exact hBx.out _ k5 | exact hBx.out _ k4 | exact hBx.out _ (Kept.refl [] W).drew) ?_
        refine hK.out _ _ ?_ (fun hHeld => ?_)
        · (try dsimp only); (try trivial)
        clear hK K
        try simp only [Act.put, List.getElem_toArray, List.getElem_cons_succ, List.getElem_cons_zero, List.setIfInBounds_toArray, List.set_cons_zero, List.set_cons_succ]
        refine wpAnyH_ready (rs := [4]) (by kernel_rfl) (by simp) ?_
        refine AllReadyH.cons rfl (fun K hK => ?_) AllReadyH.nil
        rw [if_pos (by rfl)]
        refine wp_bsPt _ rfl (some ⟨b4, 0, none⟩) (by kernel_rfl) ?_; intro g5 w5 hg5 hr5 hj5; have k5 : Kept [] W w5 := k4.trans hj5 (by simp)
        refine hK.out _ _ ?_ (fun hHeld => ?_)
        · (try dsimp only); (try trivial)
        clear hK K
        try simp only [Act.put, List.getElem_toArray, List.getElem_cons_succ, List.getElem_cons_zero, List.setIfInBounds_toArray, List.set_cons_zero, List.set_cons_succ]
        refine wpAnyH_ready (rs := [5]) (by kernel_rfl) (by simp) ?_
        refine AllReadyH.cons rfl (fun K hK => ?_) AllReadyH.nil
        rw [if_pos (by rfl)]
        refine wp_app_mid ?_ elPtr rfl rfl (hMd.out w5 k5) rfl hr5 (ptV_one _) (by decide) (by omega); intro a6 c6 w6 hm6 hj6 hat6
        refine hK.out _ _ ?_ (fun hHeld => ?_)
        · (try dsimp only); (try trivial)
        clear hK K
        try simp only [Act.put, List.getElem_toArray, List.getElem_cons_succ, List.getElem_cons_zero, List.setIfInBounds_toArray, List.set_cons_zero, List.set_cons_succ]
        refine wpAnyH_take (i := 6) (v := ?_) rfl (by kernel_rfl) (by kernel_rfl) (by kernel_rfl) (fun _ _ _ h => h) (Or.inl ⟨by rfl, ?_⟩) (by assumption) ?_
        rotate_left
        · (intro wq hSw; (try dsimp only at hSw); go_simp; try with_reducible rfl)
        try simp only [Act.put, List.getElem_toArray, List.getElem_cons_succ, List.getElem_cons_zero, List.setIfInBounds_toArray, List.set_cons_zero, List.set_cons_succ]
        refine wpAnyH_ready (rs := [7]) (by kernel_rfl) (by simp) ?_
        refine AllReadyH.cons rfl (fun K hK => ?_) AllReadyH.nil
        rw [if_pos (by rfl)]
        refine wp_store_rbP rfl rfl cb rfl ((hBx.out w5 k5).kept hj6 hR1.out.d1) a6 (n1 + 1) c6 rfl ?_; intro w7 hb7 hj7
        refine hK.out _ _ ?_ (fun hHeld => ?_)
        · (try dsimp only); (try trivial)
        clear hK K
        try simp only [Act.put, List.getElem_toArray, List.getElem_cons_succ, List.getElem_cons_zero, List.setIfInBounds_toArray, List.set_cons_zero, List.set_cons_succ]
        refine wpAnyH_done (by kernel_rfl) ?_ _
        obtain ⟨u1, u2, u3⟩ := hR1.out.more (q := ⟨b4, p.s, B4⟩) hpg4 hpl.out hnew4 k4 hj5 hm6 hj6 hat6 hb7 hj7; exact copy_round (x := (N, p)) (T := rnB b a c ps) (B0 := w3.heap.size) hkw hR1.out hqs.out hge.out hcB.out u1 u2 u3
      · rw [if_pos (by rfl)]
        refine wp_bsPt _ rfl (some ⟨b4, 0, none⟩) (by kernel_rfl) ?_; intro g5 w5 hg5 hr5 hj5; have k5 : Kept [] W w5 := k4.trans hj5 (by simp)
        refine hK.out _ _ ?_ (fun hHeld => ?_)
        · (try dsimp only); (try trivial)
        clear hK K
        try simp only [Act.put, List.getElem_toArray, List.getElem_cons_succ, List.getElem_cons_zero, List.setIfInBounds_toArray, List.set_cons_zero, List.set_cons_succ]
        refine wpAnyH_ready (rs := [1]) (by kernel_rfl) (by simp) ?_
        refine AllReadyH.cons rfl (fun K hK => ?_) AllReadyH.nil
        rw [if_pos (by rfl)]
        refine wp_load_rbP rfl cb rfl (by first | exact hBx.out _ k5 | exact hBx.out _ k4 | exact hBx.out _ (Kept.refl [] W).drew) ?_
        refine hK.out _ _ ?_ (fun hHeld => ?_)
        · (try dsimp only); (try trivial)
        clear hK K
        try simp only [Act.put, List.getElem_toArray, List.getElem_cons_succ, List.getElem_cons_zero, List.setIfInBounds_toArray, List.set_cons_zero, List.set_cons_succ]
        refine wpAnyH_ready (rs := [5]) (by kernel_rfl) (by simp) ?_
        refine AllReadyH.cons rfl (fun K hK => ?_) AllReadyH.nil
        rw [if_pos (by rfl)]
        refine wp_app_mid ?_ elPtr rfl rfl (hMd.out w5 k5) rfl hr5 (ptV_one _) (by decide) (by omega); intro a6 c6 w6 hm6 hj6 hat6
        refine hK.out _ _ ?_ (fun hHeld => ?_)
        · (try dsimp only); (try trivial)
        clear hK K
        try simp only [Act.put, List.getElem_toArray, List.getElem_cons_succ, List.getElem_cons_zero, List.setIfInBounds_toArray, List.set_cons_zero, List.set_cons_succ]
        refine wpAnyH_take (i := 6) (v := ?_) rfl (by kernel_rfl) (by kernel_rfl) (by kernel_rfl) (fun _ _ _ h => h) (Or.inl ⟨by rfl, ?_⟩) (by assumption) ?_
        rotate_left
        · (intro wq hSw; (try dsimp only at hSw); go_simp; try with_reducible rfl)
        try simp only [Act.put, List.getElem_toArray, List.getElem_cons_succ, List.getElem_cons_zero, List.setIfInBounds_toArray, List.set_cons_zero, List.set_cons_succ]
        refine wpAnyH_ready (rs := [7]) (by kernel_rfl) (by simp) ?_
        refine AllReadyH.cons rfl (fun K hK => ?_) AllReadyH.nil
        rw [if_pos (by rfl)]
        refine wp_store_rbP rfl rfl cb rfl ((hBx.out w5 k5).kept hj6 hR1.out.d1) a6 (n1 + 1) c6 rfl ?_; intro w7 hb7 hj7
        refine hK.out _ _ ?_ (fun hHeld => ?_)
        · (try dsimp only); (try trivial)
        clear hK K
        try simp only [Act.put, List.getElem_toArray, List.getElem_cons_succ, List.getElem_cons_zero, List.setIfInBounds_toArray, List.set_cons_zero, List.set_cons_succ]
        refine wpAnyH_done (by kernel_rfl) ?_ _
        obtain ⟨u1, u2, u3⟩ := hR1.out.more (q := ⟨b4, p.s, B4⟩) hpg4 hpl.out hnew4 k4 hj5 hm6 hj6 hat6 hb7 hj7; exact copy_round (x := (N, p)) (T := rnB b a c ps) (B0 := w3.heap.size) hkw hR1.out hqs.out hge.out hcB.out u1 u2 u3
  case done =>
    rintro D W hD hI hK
    go_wp2_with fail
    refine ⟨by simp, .inl ⟨_, _, rfl, run_takeDeferred hK, ?_⟩⟩
    rcases hfin.out W D hI hD with hh | hh
    · obtain ⟨b9, B9, e9, hh⟩ := hh
      exact ⟨_, results_tmp rfl _ _ _, b9, B9, by rw [← e9]; rfl, hh⟩
    · exact absurd ⟨_, hK, rfl⟩ hh
  case stop =>
    rintro D id pre W _ h _
    exact h.elim
end Go.Proofs.YtnkddhmhjnhgcaaGreatDoor
