/- The program's tail of layer 8. -/
import Derived.Test.YtnkddhmhjnhgcaaGreatDoorRnCopy
namespace Go.Proofs.YtnkddhmhjnhgcaaGreatDoor
open Go.RowKit
set_option linter.unusedVariables false
set_option maxRecDepth 100000

theorem wp_store_rbF {op : Oper} {A : Act} {w : World} {K : Act → World → Prop} {Q : Exit → Act → World → Prop} {u y : Operand} (ho : op.op = .store 3 u y) (hd : op.dst = none) (b : Nat) (hx : A.eval u = .pointer (some ⟨b, 2, none⟩)) {m p f x : Int} {a : Option Addr} {n c : Nat} (hb : RbIn w b m p f x a n c)
    (f' : Int) (hy : A.eval y = .int .i64 f') (h : ∀ w', RbIn w' b m p f' x a n c → Kept [b] w w' → K A w') : op.wp Tryz.prog A w K Q := by
  have hst := run_storeCells_cells (P := Tryz.prog) b 2 [.int .i64 f'] 0 w (fun j hj => by simp at hj; subst hj; rw [hb.at.2.2.1]; rfl) (fun j hj => hb.froz _) (by simp [Value.oneCell'])
  have hrun : (Instr.storeAt 3 (.pointer (some ⟨b, 2, none⟩)) (.int .i64 f')).run Tryz.prog w = .ok () (w.setCell ⟨b, 2, none⟩ (.int .i64 f')) := by
    have hq : (Tryz.prog.info? 3).map (·.size) = some 1 := by kernel_rfl
    cases hi : Tryz.prog.info? 3 with
    | none => simp [hi] at hq
    | some i =>
      have hs : i.size = 1 := by simp [hi] at hq; omega
      simp only [Nat.add_zero] at hst
      simp only [Instr.storeAt, Instr.sureAddr, Sem.run_bind, Sem.run_pure, Result.andThen_ok]
      simp [storeVar, sizeOf, typeInfo, hi, Value.cells, hs, hst]
      rfl
  unfold Oper.wp execOp
  simp only [ho, hx, hy, Sem.run_bind, Sem.run_pure, Result.andThen_ok, hrun]
  have := h _ (hb.setF f') ((Kept.refl [b] w).setCell (.inl (by simp)) _)
  show K (A.put op.dst undef) _
  rw [hd]
  exact this
theorem ptsV_drop (ps : List PgX) (k : Nat) : ptsV (ps.drop k) = rowsV ptV ((ptL ps).drop k) := by unfold ptsV ptL; rw [List.map_drop]
/-- The ring from a page on. -/
def TailRet (r : Rg) (F n c : Nat) (ps : List PgX) (B : List Nat) (w : World) (e : Ending) (w' : World) : Prop := ∃ tb a2, e = .returned (.pointer (some ⟨tb, 0, none⟩)) ∧ RnRaw w' tb r.limit r.places (F : Nat) r.next r.places a2 n c ps ∧ w.heap.size ≤ tb ∧ Kept [] w w' ∧ ∀ y ∈ rnB tb a2 c ps, y = tb ∨ y ∈ B
set_option maxHeartbeats 4000000 in
theorem tail8_any (w : World) (b : Nat) (r : Rg) (a : Option Addr) (n c : Nat) (ps : List PgX) (h : RnIs w b r a n c ps) (hn : r.next ≤ 1000000000) (k i F : Nat) (f : Int) (hk : k < n) (hF : f = (F : Int) + (i : Int)) (hFl : F ≤ 1000000000) (hi : i ≤ 1000000000)
    (hfind : ∀ w1, Kept [] w w1 → Calls Tryz.prog 47 #[.pointer (some ⟨b, 0, none⟩), .int .i64 f] w1 fun e w' => e = .returned (.tuple #[.int .i64 (k : Nat), .int .i64 (i : Nat)]) ∧ Kept [] w1 w') :
    Calls Tryz.prog 56 #[.pointer (some ⟨b, 0, none⟩), .int .i64 f] w (TailRet r F (n - k) (c - k) (ps.drop k) (rnB b a c ps) w) := by
  have hfi := hide (hfind w (Kept.refl _ _))
  have hcap := h.mid.caps
  obtain ⟨a2, hcut, hsub, hmid⟩ := mid_slice_l (P := Tryz.prog) rowPt Tryz.underlying56 szPtr a n c k (by omega) hcap.1 hcap.2
  have hw1 : IntKind.i64.wrap (f - (i : Int)) = (F : Int) := by rw [IntKind.wrap_i64]; omega
  have hH := hide h
  have hmid := hide hmid
  have hsub := hide hsub
  replace hF := hide hF
  clear h hfind hcap
  go_enter Tryz.func56, Tryz.ntmps56
  go_wp2_with fail
  refine hfi.out.mono ?_
  rintro e w1 ⟨rfl, hk1⟩
  obtain ⟨q0, q1, q2, q3, q4⟩ := (hH.out.box.kept hk1 (by simp)).at
  go_upto_region 3 with (refine wpList_store_rb rfl rfl rfl w1.heap.size rfl (RbIn.new w1 0 0 0 0 none 0 0) r.limit r.places r.first r.next a n c rfl ?_; intro w2 hb2 j2)
  clear q0 q1 q2 q3 q4
  have hk2 : Kept [] w1 w2 := ((Kept.refl [] w1).alloc (.cells #[.int .i64 0, .int .i64 0, .int .i64 0, .int .i64 0, .slice none 0 0] 58)).trans j2 (by simp)
  have hk12 := hk1.trans hk2 (by simp)
  have hs1 := hk1.size
  have hblt := hH.out.box.lt
  have hB : ∀ {w' : World}, Kept [] w w' → w'.cell? ⟨b, 4, none⟩ = some (.slice a n c) := fun hk => (hH.out.box.kept hk (by simp)).at.2.2.2.2
  have hb2' := hide hb2
  refine wp_region_held_drew (S := (fun w' => w'.cell? ⟨b, 4, none⟩ = some (.slice a n c))) (by kernel_rfl) ?_ (fun hHeld => ?_)
  · (try dsimp only); (first | exact hS6 | exact hS5 | exact hB hk12.drew)
  refine wpAnyH_take (i := 0) (v := ?_) rfl (by kernel_rfl) (by kernel_rfl) (by kernel_rfl) (fun _ _ _ h => h) (Or.inl ⟨by rfl, ?_⟩) (by assumption) ?_
  rotate_left
  · (intro wq hSw; (try dsimp only at hSw); go_simp; try with_reducible rfl)
  try simp only [Act.put, List.getElem_toArray, List.getElem_cons_zero, List.setIfInBounds_toArray, List.set_cons_zero, List.set_cons_succ]
  refine wpAnyH_take (i := 1) (v := ?_) rfl (by kernel_rfl) (by kernel_rfl) (by kernel_rfl) (fun _ _ _ h => h) (Or.inl ⟨by rfl, ?_⟩) (by assumption) ?_
  rotate_left
  · (intro wq hSw; (try dsimp only at hSw); go_simp; try with_reducible rfl)
  try simp only [Act.put, List.getElem_toArray, List.getElem_cons_succ, List.getElem_cons_zero, List.setIfInBounds_toArray, List.set_cons_zero, List.set_cons_succ]
  refine wpAnyH_take (i := 2) (v := ?_) rfl (by kernel_rfl) (by kernel_rfl) (by kernel_rfl) (fun _ _ _ h => h) (Or.inl ⟨by rfl, ?_⟩) (by assumption) ?_
  rotate_left
  · (intro wq hSw; (try dsimp only at hSw); go_simp; try with_reducible rfl)
  try simp only [Act.put, List.getElem_toArray, List.getElem_cons_succ, List.getElem_cons_zero, List.setIfInBounds_toArray, List.set_cons_zero, List.set_cons_succ]
  refine wpAnyH_take (i := 3) (v := ?_) rfl (by kernel_rfl) (by kernel_rfl) (by kernel_rfl) (fun _ _ _ h => h) (Or.inl ⟨by rfl, ?_⟩) (by assumption) ?_
  rotate_left
  · (intro wq hSw; (try dsimp only at hSw); go_simp; try with_reducible rfl)
  try simp only [Act.put, List.getElem_toArray, List.getElem_cons_succ, List.getElem_cons_zero, List.setIfInBounds_toArray, List.set_cons_zero, List.set_cons_succ]
  refine wpAnyH_take (i := 4) (v := ?_) rfl (by kernel_rfl) (by kernel_rfl) (by kernel_rfl) (fun _ _ _ h => h) (Or.inl ⟨by rfl, ?_⟩) (by assumption) ?_
  rotate_left
  · (intro wq hSw; (try dsimp only at hSw); go_simp; try with_reducible rfl)
  try simp only [Act.put, List.getElem_toArray, List.getElem_cons_succ, List.getElem_cons_zero, List.setIfInBounds_toArray, List.set_cons_zero, List.set_cons_succ]
  refine wpAnyH_take (i := 5) (v := ?_) rfl (by kernel_rfl) (by kernel_rfl) (by kernel_rfl) (fun _ _ _ h => h) (Or.inl ⟨by rfl, ?_⟩) (by assumption) ?_
  rotate_left
  · (intro wq hSw; (try dsimp only at hSw); go_simp; try with_reducible rfl)
  try simp only [Act.put, List.getElem_toArray, List.getElem_cons_succ, List.getElem_cons_zero, List.setIfInBounds_toArray, List.set_cons_zero, List.set_cons_succ]
  refine wpAnyH_take (i := 6) (v := ?_) rfl (by kernel_rfl) (by kernel_rfl) (by kernel_rfl) (fun _ _ _ h => h) (Or.inl ⟨by rfl, ?_⟩) (by assumption) ?_
  rotate_left
  · (intro wq hSw; (try dsimp only at hSw); go_simp; try with_reducible rfl)
  try simp only [Act.put, List.getElem_toArray, List.getElem_cons_succ, List.getElem_cons_zero, List.setIfInBounds_toArray, List.set_cons_zero, List.set_cons_succ]
  refine wpAnyH_take (i := 7) (v := ?_) rfl (by kernel_rfl) (by kernel_rfl) (by kernel_rfl) (fun _ _ _ h => h) (Or.inl ⟨by rfl, ?_⟩) (by assumption) ?_
  rotate_left
  · (intro wq hSw; (try dsimp only at hSw); go_simp; try with_reducible rfl)
  try simp only [Act.put, List.getElem_toArray, List.getElem_cons_succ, List.getElem_cons_zero, List.setIfInBounds_toArray, List.set_cons_zero, List.set_cons_succ]
  refine wpAnyH_take (i := 8) (v := ?_) rfl (by kernel_rfl) (by kernel_rfl) (by kernel_rfl) (fun _ _ _ h => h) (Or.inl ⟨by rfl, ?_⟩) (by assumption) ?_
  rotate_left
  · (intro wq hSw; (try dsimp only at hSw); go_simp; try with_reducible rfl)
  try simp only [Act.put, List.getElem_toArray, List.getElem_cons_succ, List.getElem_cons_zero, List.setIfInBounds_toArray, List.set_cons_zero, List.set_cons_succ]
  refine wpAnyH_take (i := 9) (v := ?_) rfl (by kernel_rfl) (by kernel_rfl) (by kernel_rfl) (fun _ _ _ h => h) (Or.inl ⟨by rfl, ?_⟩) (by assumption) ?_
  rotate_left
  · (intro wq hSw; (try dsimp only at hSw); go_simp; try with_reducible rfl)
  try simp only [Act.put, List.getElem_toArray, List.getElem_cons_succ, List.getElem_cons_zero, List.setIfInBounds_toArray, List.set_cons_zero, List.set_cons_succ]
  refine wpAnyH_ready (rs := [10]) (by kernel_rfl) (by simp) ?_
  refine AllReadyH.cons rfl (fun K hK => ?_) AllReadyH.nil
  rw [if_pos (by rfl)]
  refine wp_store_rbF rfl rfl w1.heap.size rfl (hb2'.out.kept (Kept.refl [] w2).drew (by simp)) (F : Int) rfl ?_; intro w5 hb5 j5; have hS5 := j5.cell (hB hk12.drew) (by simp; omega)
  refine hK.out _ _ ?_ (fun hHeld => ?_)
  · (try dsimp only); (first | exact hS6 | exact hS5 | exact hB hk12.drew)
  clear hK K
  try simp only [Act.put, List.getElem_toArray, List.getElem_cons_succ, List.getElem_cons_zero, List.setIfInBounds_toArray, List.set_cons_zero, List.set_cons_succ]
  refine wpAnyH_take (i := 11) (v := ?_) rfl (by kernel_rfl) (by kernel_rfl) (by kernel_rfl) (fun _ _ _ h => h) (Or.inl ⟨by rfl, ?_⟩) (by assumption) ?_
  rotate_left
  · (intro wq hSw; (try dsimp only at hSw); go_simp; try with_reducible rfl)
  try simp only [Act.put, List.getElem_toArray, List.getElem_cons_succ, List.getElem_cons_zero, List.setIfInBounds_toArray, List.set_cons_zero, List.set_cons_succ]
  refine wpAnyH_ready (rs := [12]) (by kernel_rfl) (by simp) ?_
  refine AllReadyH.cons rfl (fun K hK => ?_) AllReadyH.nil
  rw [if_pos (by rfl)]
  refine wp_store_rbP rfl rfl w1.heap.size rfl hb5 a2 (n - k) (c - k) rfl ?_; intro w6 hb6 j6; have hS6 := j6.cell hS5 (by simp; omega)
  refine hK.out _ _ ?_ (fun hHeld => ?_)
  · (try dsimp only); (first | exact hS6 | exact hS5 | exact hB hk12.drew)
  clear hK K
  try simp only [Act.put, List.getElem_toArray, List.getElem_cons_succ, List.getElem_cons_zero, List.setIfInBounds_toArray, List.set_cons_zero, List.set_cons_succ]
  refine wpAnyH_done (by kernel_rfl) ?_ _
  go_wp2_with fail
  go_ret
  have hkk : Kept [w1.heap.size] w2 w6 := ((Kept.refl [w1.heap.size] w2).drew.trans j5 (fun y hy => .inl hy)).trans j6 (fun y hy => .inl hy)
  have hk6 : Kept [] w w6 := hk12.trans hkk (fun y hy => by simp at hy; exact .inr (by omega))
  have hraw := (hH.out.keep hk6).toRnRaw
  have hm6 := hmid.out w6 _ hraw.mid
  rw [← ptsV_drop] at hm6
  refine ⟨w1.heap.size, a2, rfl, ⟨hb6, hm6, fun q hq => hraw.pgs q (List.mem_of_mem_drop hq), fun q hq => hraw.pl q (List.mem_of_mem_drop hq), fun hm => ?_, fun hm => ?_, fun y hy hm => hraw.d3 y (hsub.out y hy) ?_, hraw.d4.sublist (List.drop_sublist _ _)⟩, hs1, hk6, fun y hy => ?_⟩
  · have := hH.out.lt _ (rnB_mem.2 (.inr (.inl (hsub.out _ hm)))); omega
  · obtain ⟨q, hq, hm⟩ := blkP_mem.1 hm
    have := hH.out.lt _ (rnB_mem.2 (.inr (.inr (blkP_mem.2 ⟨q, List.mem_of_mem_drop hq, hm⟩)))); omega
  · obtain ⟨q, hq, hm⟩ := blkP_mem.1 hm
    exact blkP_mem.2 ⟨q, List.mem_of_mem_drop hq, hm⟩
  · rcases rnB_mem.1 hy with h1 | h1 | h1
    · exact .inl h1
    · exact .inr (rnB_mem.2 (.inr (.inl (hsub.out y h1))))
    · obtain ⟨q, hq, h1⟩ := blkP_mem.1 h1
      exact .inr (rnB_mem.2 (.inr (.inr (blkP_mem.2 ⟨q, List.mem_of_mem_drop hq, h1⟩))))
end Go.Proofs.YtnkddhmhjnhgcaaGreatDoor
