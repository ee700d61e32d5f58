/- Marks: how many there are, in order; none. -/
import Derived.Test.YtnkddhmhjnhgcaaGreatDoorCelLeaf
import Derived.Test.YtnkddhmhjnhgcaaGreatDoorCelEq
import Derived.Lib.SliceRun
namespace Go.Proofs.YtnkddhmhjnhgcaaGreatDoor
open Go.RowKit
set_option linter.unusedVariables false

theorem unmarked_any (a b c : Int) (w : World) : Calls Tryz.prog 84 #[.agg #[.int .i32 a, .int .i32 b, .int .i32 c]] w fun e w' => e = .returned (.bool (unmI a b c)) ∧ Kept [] w w' := by
  have hq := fun w => eql_M a b c 0 0 0 w
  go_enter Tryz.func84, Tryz.ntmps84
  go_wp2_with fail
  go_ret
  exact ⟨ret_bool (by unfold unmI; simp), (Kept.refl _ _).alloc _⟩

set_option maxHeartbeats 1000000 in
theorem markCount_any (a b c : Int) (w : World) (ht : Tabs w) : Calls Tryz.prog 92 #[.agg #[.int .i32 a, .int .i32 b, .int .i32 c]] w fun e w' => e = .returned (.int .i64 (cntI a b c : Nat)) ∧ Kept [] w w' := by
  obtain ⟨W0, hW0⟩ : ∃ x : World, x = w.alloc (.cells #[.int .i32 a, .int .i32 b, .int .i32 c] 78) := ⟨_, rfl⟩
  have hk0 : Kept [] w W0 := by rw [hW0]; exact (Kept.refl [] w).alloc _
  have c0 : W0.cell? ⟨w.heap.size, 0, none⟩ = some (.int .i32 a) := by rw [hW0]; simp [go_sem]
  have c1 : W0.cell? ⟨w.heap.size, 1, none⟩ = some (.int .i32 b) := by rw [hW0]; simp [go_sem]
  have c2 : W0.cell? ⟨w.heap.size, 2, none⟩ = some (.int .i32 c) := by rw [hW0]; simp [go_sem]
  have hA := hide (fun w1 (hk : Kept [] W0 w1) => isMark4_any a w1 ((ht.kept hk0).kept hk))
  have hB := hide (fun w1 (hk : Kept [] W0 w1) => isMark4_any b w1 ((ht.kept hk0).kept hk))
  have hC := hide (fun w1 (hk : Kept [] W0 w1) => isMark4_any c w1 ((ht.kept hk0).kept hk))
  have hR := hide (show cntI a b c = if mkI a = true then (if mkI b = true then (if mkI c = true then 3 else 2) else 1) else 0 from rfl)
  generalize cntI a b c = R at *
  generalize mkI a = x at *
  generalize mkI b = y at *
  generalize mkI c = z at *
  clear ht
  go_enter Tryz.func92, Tryz.ntmps92
  go_upto_region 2 with fail
  rw [← hW0]
  clear hW0
  refine wp_loop_rounds 4 ?_
  rw [rounds_succ]
  go_wp2_with fail
  refine (hA.out W0 (Kept.refl [] W0)).mono ?_
  rintro e w1 ⟨rfl, hk1⟩
  cases x
  · go_wp2_with fail
    go_ret
    exact ⟨by rw [hR.out]; rfl, hk0.trans hk1 (by simp)⟩
  · have d1 := hk1.cell c1 (by simp)
    go_wp2_with fail
    rw [rounds_succ]
    go_wp2_with fail
    refine (hB.out w1 hk1).mono ?_
    rintro e w2 ⟨rfl, hk2'⟩
    have hk2 := hk1.trans hk2' (by simp)
    cases y
    · go_wp2_with fail
      go_ret
      exact ⟨by rw [hR.out]; rfl, hk0.trans hk2 (by simp)⟩
    · have d2 := hk2.cell c2 (by simp)
      go_wp2_with fail
      rw [rounds_succ]
      go_wp2_with fail
      refine (hC.out w2 hk2).mono ?_
      rintro e w3 ⟨rfl, hk3'⟩
      have hk3 := hk2.trans hk3' (by simp)
      cases z
      · go_wp2_with fail
        go_ret
        exact ⟨by rw [hR.out]; rfl, hk0.trans hk3 (by simp)⟩
      · go_wp2_with fail
        rw [rounds_succ]
        go_wp2_with fail
        go_ret
        exact ⟨by rw [hR.out]; rfl, hk0.trans hk3 (by simp)⟩

/-- The marks that are left when n of them are cleared. -/
theorem clear_is (n : Nat) (hn : n ≤ 3) (a b c : Int) (b0 : Nat) (w : World) (hb : w.heap[b0]? = some (.cells #[.int .i32 a, .int .i32 b, .int .i32 c] 78 (0, 0))) :
    ∃ w' a' b' c', (∀ ty, (Builtin.clear_ #[117] ty #[.slice (some ⟨b0, 0, none⟩) n 3]).run Tryz.prog w = .ok (.tuple #[]) w') ∧ Kept [b0] w w' ∧ w'.cell? ⟨b0, 0, none⟩ = some (.int .i32 a') ∧ w'.cell? ⟨b0, 1, none⟩ = some (.int .i32 b') ∧ w'.cell? ⟨b0, 2, none⟩ = some (.int .i32 c') ∧
      a' = (if n = 0 then a else 0) ∧ b' = (if n ≤ 1 then b else 0) ∧ c' = (if n ≤ 2 then c else 0) := by
  have hk := fun v i => (Kept.refl [b0] w).setCell (p := ⟨b0, i, none⟩) (.inl (by simp)) v
  have h0 := heap_set w b0 0 (.int .i32 0) _ _ hb
  have h1 := heap_set _ b0 1 (.int .i32 0) _ _ h0
  have h2 := heap_set _ b0 2 (.int .i32 0) _ _ h1
  have hc : ∀ j, j < n → (w.cell? ⟨b0, 0 + j, none⟩).isSome = true := fun j hj => by
    rw [cell_of_row w b0 (0 + j) _ _ _ hb]
    have : j = 0 ∨ j = 1 ∨ j = 2 := by omega
    rcases this with rfl | rfl | rfl <;> rfl
  have hf : ∀ j, j < n → w.frozen? ⟨b0, 0 + j, none⟩ = false := fun j hj => by unfold World.frozen?; rw [hb]; simp
  have hcl := fun (h : 0 < n) ty => Lib.run_clear_slice (P := Tryz.prog) w 117 21 ty (.int .i32 0) Tryz.underlying117 Tryz.zeroValue21 rfl rfl b0 0 n 3 h hc hf
  have : n = 0 ∨ n = 1 ∨ n = 2 ∨ n = 3 := by omega
  rcases this with rfl | rfl | rfl | rfl
  · refine ⟨w, a, b, c, fun ty => ?_, Kept.refl _ _, ?_, ?_, ?_, by simp, by simp, by simp⟩
    · simp [Builtin.clear_, run_underlying Tryz.underlying117]
    all_goals (rw [cell_of_row w b0 _ _ _ _ hb]; rfl)
  · exact ⟨(w.setCell ⟨b0, 0, none⟩ (.int .i32 0)), 0, b, c, hcl (by omega), hk _ _, by rw [cell_of_row _ b0 _ _ _ _ h0]; rfl, by rw [cell_of_row _ b0 _ _ _ _ h0]; rfl, by rw [cell_of_row _ b0 _ _ _ _ h0]; rfl, by simp, by simp, by simp⟩
  · exact ⟨((w.setCell ⟨b0, 0, none⟩ (.int .i32 0)).setCell ⟨b0, 1, none⟩ (.int .i32 0)), 0, 0, c, hcl (by omega), (hk _ _).setCell (.inl (by simp)) _, by rw [cell_of_row _ b0 _ _ _ _ h1]; rfl, by rw [cell_of_row _ b0 _ _ _ _ h1]; rfl, by rw [cell_of_row _ b0 _ _ _ _ h1]; rfl, by simp, by simp, by simp⟩
  · exact ⟨(((w.setCell ⟨b0, 0, none⟩ (.int .i32 0)).setCell ⟨b0, 1, none⟩ (.int .i32 0)).setCell ⟨b0, 2, none⟩ (.int .i32 0)), 0, 0, 0, hcl (by omega), ((hk _ _).setCell (.inl (by simp)) _).setCell (.inl (by simp)) _, by rw [cell_of_row _ b0 _ _ _ _ h2]; rfl, by rw [cell_of_row _ b0 _ _ _ _ h2]; rfl, by rw [cell_of_row _ b0 _ _ _ _ h2]; rfl, by simp, by simp, by simp⟩

theorem ord_clear (a b c : Int) : ordI a b c = unmI (if cntI a b c = 0 then a else 0) (if cntI a b c ≤ 1 then b else 0) (if cntI a b c ≤ 2 then c else 0) := by
  unfold ordI cntI unmI
  cases mkI a <;> cases mkI b <;> cases mkI c <;> simp
theorem cnt_le (a b c : Int) : cntI a b c ≤ 3 := by unfold cntI; repeat (first | split | omega)

theorem inOrder_any (a b c : Int) (w : World) (ht : Tabs w) : Calls Tryz.prog 83 #[.agg #[.int .i32 a, .int .i32 b, .int .i32 c]] w fun e w' => e = .returned (.bool (ordI a b c)) ∧ Kept [] w w' := by
  obtain ⟨W0, hW0⟩ : ∃ x : World, x = w.alloc (.cells #[.int .i32 a, .int .i32 b, .int .i32 c] 78) := ⟨_, rfl⟩
  have hk0 : Kept [] w W0 := by rw [hW0]; exact (Kept.refl [] w).alloc _
  have hh : W0.heap[w.heap.size]? = some (.cells #[.int .i32 a, .int .i32 b, .int .i32 c] 78 (0, 0)) := by rw [hW0]; exact heap_alloc_new w _
  have c0 : W0.cell? ⟨w.heap.size, 0, none⟩ = some (.int .i32 a) := by rw [hW0]; simp [go_sem]
  have c1 : W0.cell? ⟨w.heap.size, 1, none⟩ = some (.int .i32 b) := by rw [hW0]; simp [go_sem]
  have c2 : W0.cell? ⟨w.heap.size, 2, none⟩ = some (.int .i32 c) := by rw [hW0]; simp [go_sem]
  have hN := hide (markCount_any a b c W0 (ht.kept hk0))
  have hn3 := cnt_le a b c
  have hU := hide (fun (a' b' c' : Int) w1 => unmarked_any a' b' c' w1)
  have hR := hide (ord_clear a b c)
  generalize ordI a b c = R at *
  generalize cntI a b c = n at *
  have hnz : (n : Int) ≤ 3 := by omega
  clear ht
  go_enter Tryz.func83, Tryz.ntmps83
  go_upto_region 1 with fail
  rw [← hW0]
  clear hW0
  go_wp2_with fail
  refine hN.out.mono ?_
  rintro e w1 ⟨rfl, hk1⟩
  obtain ⟨w2, a', b', c', hcl, hk2, d0, d1, d2, e0, e1, e2⟩ := clear_is n hn3 a b c w.heap.size w1 (hk1.heap hh (by simp))
  have he := hide (And.intro e0 (And.intro e1 e2))
  clear c0 c1 c2 e0 e1 e2
  go_wp2_with fail
  refine (hU.out a' b' c' _).mono ?_
  rintro e w3 ⟨rfl, hk3⟩
  go_wp2_with fail
  go_ret
  obtain ⟨e0, e1, e2⟩ := he.out
  exact ⟨ret_bool (by rw [hR.out, e0, e1, e2]), (hk0.trans hk1 (by simp)).trans (hk2.trans hk3 (by simp)) (by intro x hx; simp at hx; subst hx; exact .inr (Nat.le_refl _))⟩
end Go.Proofs.YtnkddhmhjnhgcaaGreatDoor
