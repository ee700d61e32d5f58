/- The walk of CellLooks. -/
import Derived.Test.YtigaijigdellpaaDoorCelLaw1
import Derived.Test.YtigaijigdellpaaDoorCelRv
import Derived.Test.YtigaijigdellpaaDoorCelRt
namespace Go.Proofs.YtigaijigdellpaaDoor
open Go.RowKit
set_option linter.unusedVariables false
set_option linter.unusedSimpArgs false

theorem str_eql (t : ByteArray) (w : World) : (binOp .eql 9 (.string t) (.string t)).run Tryd.prog w = .ok (.bool true) w := by
  first
    | (simp [binOp, Op.equal, Op.maxDepth, Op.equalIn, run_underlying Tryd.underlying9]; done)
    | (simp [binOp, Op.stringOp]; done)
    | go_simp

set_option maxHeartbeats 4000000 in
theorem CellLooks_walk (KN : KnownIs) (c : Cl) (w : World) (ht : Tabs w) : Calls Tryd.prog 4 #[.agg #[.int .i32 c.r, .int .i32 c.m0, .int .i32 c.m1, .int .i32 c.m2, .int .i64 c.w, .int .i64 c.p.f.k, .int .u8 c.p.f.i, .int .u8 c.p.f.r, .int .u8 c.p.f.g, .int .u8 c.p.f.b, .int .i64 c.p.b.k, .int .u8 c.p.b.i, .int .u8 c.p.b.r, .int .u8 c.p.b.g, .int .u8 c.p.b.b, .int .u8 c.p.fl]] w fun e w' => e = .returned (.bool true) ∧ Kept [] w w' := by
  obtain ⟨W0, hW0⟩ : ∃ z : World, z = w.alloc (.cells #[.int .i32 c.r, .int .i32 c.m0, .int .i32 c.m1, .int .i32 c.m2, .int .i64 c.w, .int .i64 c.p.f.k, .int .u8 c.p.f.i, .int .u8 c.p.f.r, .int .u8 c.p.f.g, .int .u8 c.p.f.b, .int .i64 c.p.b.k, .int .u8 c.p.b.i, .int .u8 c.p.b.r, .int .u8 c.p.b.g, .int .u8 c.p.b.b, .int .u8 c.p.fl] 30) := ⟨_, rfl⟩
  have hk0 : Kept [] w W0 := by rw [hW0]; exact (Kept.refl [] w).alloc _
  have hc0 : Hid (CelIn W0 w.heap.size c) := hide (by rw [hW0]; exact CelIn.new w c)
  have hT := hide (fun w1 (hk : Kept [] W0 w1) => (ht.kept hk0).kept hk)
  have hKN := hide KN
  clear ht KN
  have hV := hide (fun w1 (hk : Kept [] W0 w1) => cvalid_any c w1 (hT.out w1 hk))
  have hRV := hide (fun w1 => rcvalid_any c w1)
  have hWr := hide (fun w1 => Written_any c w1)
  have hEm := hide (fun w1 => Empty_any c w1)
  have hTx := hide (fun w1 => Text_any c w1)
  have hRT := hide (fun w1 => rText_any c w1)
  have hq1 : ∀ w, (binOp .eql 30 (.agg #[.int .i32 c.r, .int .i32 c.m0, .int .i32 c.m1, .int .i32 c.m2, .int .i64 c.w, .int .i64 c.p.f.k, .int .u8 c.p.f.i, .int .u8 c.p.f.r, .int .u8 c.p.f.g, .int .u8 c.p.f.b, .int .i64 c.p.b.k, .int .u8 c.p.b.i, .int .u8 c.p.b.r, .int .u8 c.p.b.g, .int .u8 c.p.b.b, .int .u8 c.p.fl]) (.agg #[.int .i32 0, .int .i32 0, .int .i32 0, .int .i32 0, .int .i64 1, .int .i64 0, .int .u8 0, .int .u8 0, .int .u8 0, .int .u8 0, .int .i64 0, .int .u8 0, .int .u8 0, .int .u8 0, .int .u8 0, .int .u8 0])).run Tryd.prog w = .ok (.bool (decide (c = blankC zeroP))) w := fun w => eql_K c (blankC zeroP) w
  have hq2 := fun w => str_eql (textC c) w
  generalize validC c = v at *
  generalize textC c = t at *
  generalize decide (c = blankC zeroP) = em at *
  go_enter Tryd.func4, Tryd.ntmps4
  go_upto_region 1 with fail
  rw [← hW0]
  clear hW0
  by_cases hr0 : c.r = 0
  · have dr : decide (c.r = 0) = true := decide_eq_true hr0
    have dr' : (c.r != 0) = false := by simpa using hr0
    clear hr0
    refine wp_region_held_drew (S := (fun w' => CelIn w' w.heap.size c ∧ w'.cell? ⟨w.heap.size, 0, none⟩ = some (.int .i32 c.r))) (by kernel_rfl) ?_ (fun hHeld => ?_)
    · (try dsimp only); (first | exact ⟨hc0.out.kept k7 (by simp), (hc0.out.kept k7 (by simp)).at.1⟩ | exact ⟨hc0.out.kept k6 (by simp), (hc0.out.kept k6 (by simp)).at.1⟩ | exact ⟨hc0.out.kept k5 (by simp), (hc0.out.kept k5 (by simp)).at.1⟩ | exact ⟨hc0.out.kept k4 (by simp), (hc0.out.kept k4 (by simp)).at.1⟩ | exact ⟨hc0.out.kept k3 (by simp), (hc0.out.kept k3 (by simp)).at.1⟩ | exact ⟨hc0.out.kept k2 (by simp), (hc0.out.kept k2 (by simp)).at.1⟩ | exact ⟨hc0.out.kept k1 (by simp), (hc0.out.kept k1 (by simp)).at.1⟩ | exact ⟨hc0.out.kept (Kept.refl [] W0).drew (by simp), (hc0.out.kept (Kept.refl [] W0).drew (by simp)).at.1⟩)
    refine wpAnyH_take (i := 0) (v := (.agg #[.int .i32 c.r, .int .i32 c.m0, .int .i32 c.m1, .int .i32 c.m2, .int .i64 c.w, .int .i64 c.p.f.k, .int .u8 c.p.f.i, .int .u8 c.p.f.r, .int .u8 c.p.f.g, .int .u8 c.p.f.b, .int .i64 c.p.b.k, .int .u8 c.p.b.i, .int .u8 c.p.b.r, .int .u8 c.p.b.g, .int .u8 c.p.b.b, .int .u8 c.p.fl])) rfl (by kernel_rfl) (by kernel_rfl) (by kernel_rfl) (fun _ _ _ h => h) (yieldsIf_load_mid (by rfl) 30 _ rfl w.heap.size 0 rfl (kcL c) _ (fun _ h => h.1.range) Tryd.underlying30 rfl (by kernel_rfl)) (by assumption) ?_
    try simp only [Act.put, List.getElem_toArray, List.getElem_cons_zero, List.setIfInBounds_toArray, List.set_cons_zero, List.set_cons_succ]
    refine wpAnyH_take (i := 2) (v := (.agg #[.int .i32 c.r, .int .i32 c.m0, .int .i32 c.m1, .int .i32 c.m2, .int .i64 c.w, .int .i64 c.p.f.k, .int .u8 c.p.f.i, .int .u8 c.p.f.r, .int .u8 c.p.f.g, .int .u8 c.p.f.b, .int .i64 c.p.b.k, .int .u8 c.p.b.i, .int .u8 c.p.b.r, .int .u8 c.p.b.g, .int .u8 c.p.b.b, .int .u8 c.p.fl])) rfl (by kernel_rfl) (by kernel_rfl) (by kernel_rfl) (fun _ _ _ h => h) (yieldsIf_load_mid (by rfl) 30 _ rfl w.heap.size 0 rfl (kcL c) _ (fun _ h => h.1.range) Tryd.underlying30 rfl (by kernel_rfl)) (by assumption) ?_
    try simp only [Act.put, List.getElem_toArray, List.getElem_cons_succ, List.getElem_cons_zero, List.setIfInBounds_toArray, List.set_cons_zero, List.set_cons_succ]
    refine wpAnyH_ready (rs := [1]) (by kernel_rfl) (by simp) ?_
    refine AllReadyH.cons rfl (fun K hK => ?_) AllReadyH.nil
    go_simp
    refine (hV.out W0.drew ((Kept.refl [] W0).drew)).mono ?_; rintro e w1 ⟨rfl, j1⟩; have k1 : Kept [] W0 w1 := ((Kept.refl [] W0).drew).trans j1 (by simp)
    try go_wp2_with fail
    refine hK.out _ _ ?_ (fun hHeld => ?_)
    · (try dsimp only); (first | exact ⟨hc0.out.kept k7 (by simp), (hc0.out.kept k7 (by simp)).at.1⟩ | exact ⟨hc0.out.kept k6 (by simp), (hc0.out.kept k6 (by simp)).at.1⟩ | exact ⟨hc0.out.kept k5 (by simp), (hc0.out.kept k5 (by simp)).at.1⟩ | exact ⟨hc0.out.kept k4 (by simp), (hc0.out.kept k4 (by simp)).at.1⟩ | exact ⟨hc0.out.kept k3 (by simp), (hc0.out.kept k3 (by simp)).at.1⟩ | exact ⟨hc0.out.kept k2 (by simp), (hc0.out.kept k2 (by simp)).at.1⟩ | exact ⟨hc0.out.kept k1 (by simp), (hc0.out.kept k1 (by simp)).at.1⟩ | exact ⟨hc0.out.kept (Kept.refl [] W0).drew (by simp), (hc0.out.kept (Kept.refl [] W0).drew (by simp)).at.1⟩)
    clear hK K
    try simp only [Act.put, List.getElem_toArray, List.getElem_cons_succ, List.getElem_cons_zero, List.setIfInBounds_toArray, List.set_cons_zero, List.set_cons_succ]
    refine wpAnyH_ready (rs := [3]) (by kernel_rfl) (by simp) ?_
    refine AllReadyH.cons rfl (fun K hK => ?_) AllReadyH.nil
    go_simp
    refine (hRV.out w1).mono ?_; rintro e w2 ⟨rfl, j2⟩; have k2 : Kept [] W0 w2 := (k1).trans j2 (by simp)
    try go_wp2_with fail
    refine hK.out _ _ ?_ (fun hHeld => ?_)
    · (try dsimp only); (first | exact ⟨hc0.out.kept k7 (by simp), (hc0.out.kept k7 (by simp)).at.1⟩ | exact ⟨hc0.out.kept k6 (by simp), (hc0.out.kept k6 (by simp)).at.1⟩ | exact ⟨hc0.out.kept k5 (by simp), (hc0.out.kept k5 (by simp)).at.1⟩ | exact ⟨hc0.out.kept k4 (by simp), (hc0.out.kept k4 (by simp)).at.1⟩ | exact ⟨hc0.out.kept k3 (by simp), (hc0.out.kept k3 (by simp)).at.1⟩ | exact ⟨hc0.out.kept k2 (by simp), (hc0.out.kept k2 (by simp)).at.1⟩ | exact ⟨hc0.out.kept k1 (by simp), (hc0.out.kept k1 (by simp)).at.1⟩ | exact ⟨hc0.out.kept (Kept.refl [] W0).drew (by simp), (hc0.out.kept (Kept.refl [] W0).drew (by simp)).at.1⟩)
    clear hK K
    try simp only [Act.put, List.getElem_toArray, List.getElem_cons_succ, List.getElem_cons_zero, List.setIfInBounds_toArray, List.set_cons_zero, List.set_cons_succ]
    refine wpAnyH_take (i := 4) (v := ?_) rfl (by kernel_rfl) (by kernel_rfl) (by kernel_rfl) (fun _ _ _ h => h) (Or.inl ⟨by rfl, ?_⟩) (by assumption) ?_
    rotate_left
    · (intro wq hSw; (try dsimp only at hSw); go_simp; try with_reducible rfl)
    try simp only [Act.put, List.getElem_toArray, List.getElem_cons_succ, List.getElem_cons_zero, List.setIfInBounds_toArray, List.set_cons_zero, List.set_cons_succ]
    refine wpAnyH_take (i := 5) (v := ?_) rfl (by kernel_rfl) (by kernel_rfl) (by kernel_rfl) (fun _ _ _ h => h) (Or.inl ⟨by rfl, ?_⟩) (by assumption) ?_
    rotate_left
    · (intro wq hSw; (try dsimp only at hSw); go_simp; try with_reducible rfl)
    try simp only [Act.put, List.getElem_toArray, List.getElem_cons_succ, List.getElem_cons_zero, List.setIfInBounds_toArray, List.set_cons_zero, List.set_cons_succ]
    refine wpAnyH_take (i := 6) (v := (.agg #[.int .i32 c.r, .int .i32 c.m0, .int .i32 c.m1, .int .i32 c.m2, .int .i64 c.w, .int .i64 c.p.f.k, .int .u8 c.p.f.i, .int .u8 c.p.f.r, .int .u8 c.p.f.g, .int .u8 c.p.f.b, .int .i64 c.p.b.k, .int .u8 c.p.b.i, .int .u8 c.p.b.r, .int .u8 c.p.b.g, .int .u8 c.p.b.b, .int .u8 c.p.fl])) rfl (by kernel_rfl) (by kernel_rfl) (by kernel_rfl) (fun _ _ _ h => h) (yieldsIf_load_mid (by rfl) 30 _ rfl w.heap.size 0 rfl (kcL c) _ (fun _ h => h.1.range) Tryd.underlying30 rfl (by kernel_rfl)) (by assumption) ?_
    try simp only [Act.put, List.getElem_toArray, List.getElem_cons_succ, List.getElem_cons_zero, List.setIfInBounds_toArray, List.set_cons_zero, List.set_cons_succ]
    refine wpAnyH_take (i := 8) (v := ?_) rfl (by kernel_rfl) (by kernel_rfl) (by kernel_rfl) (fun _ _ _ h => h) (Or.inl ⟨by rfl, ?_⟩) (by assumption) ?_
    rotate_left
    · (intro wq hSw; (try dsimp only at hSw); go_simp; try with_reducible rfl)
    try simp only [Act.put, List.getElem_toArray, List.getElem_cons_succ, List.getElem_cons_zero, List.setIfInBounds_toArray, List.set_cons_zero, List.set_cons_succ]
    refine wpAnyH_take (i := 9) (v := ?_) rfl (by kernel_rfl) (by kernel_rfl) (by kernel_rfl) (fun _ _ _ h => h) (Or.inl ⟨by rfl, ?_⟩) (by assumption) ?_
    rotate_left
    · (intro wq hSw; (try dsimp only at hSw); go_simp; try with_reducible rfl)
    try simp only [Act.put, List.getElem_toArray, List.getElem_cons_succ, List.getElem_cons_zero, List.setIfInBounds_toArray, List.set_cons_zero, List.set_cons_succ]
    refine wpAnyH_take (i := 10) (v := ?_) rfl (by kernel_rfl) (by kernel_rfl) (by kernel_rfl) (fun _ _ _ h => h) (Or.inl ⟨by rfl, ?_⟩) (by assumption) ?_
    rotate_left
    · (intro wq hSw; (try dsimp only at hSw); go_simp; try with_reducible rfl)
    try simp only [Act.put, List.getElem_toArray, List.getElem_cons_succ, List.getElem_cons_zero, List.setIfInBounds_toArray, List.set_cons_zero, List.set_cons_succ]
    refine wpAnyH_ready (rs := [7]) (by kernel_rfl) (by simp) ?_
    refine AllReadyH.cons rfl (fun K hK => ?_) AllReadyH.nil
    go_simp
    refine (hWr.out w2).mono ?_; rintro e w3 ⟨rfl, j3⟩; have k3 : Kept [] W0 w3 := (k2).trans j3 (by simp)
    try go_wp2_with fail
    refine hK.out _ _ ?_ (fun hHeld => ?_)
    · (try dsimp only); (first | exact ⟨hc0.out.kept k7 (by simp), (hc0.out.kept k7 (by simp)).at.1⟩ | exact ⟨hc0.out.kept k6 (by simp), (hc0.out.kept k6 (by simp)).at.1⟩ | exact ⟨hc0.out.kept k5 (by simp), (hc0.out.kept k5 (by simp)).at.1⟩ | exact ⟨hc0.out.kept k4 (by simp), (hc0.out.kept k4 (by simp)).at.1⟩ | exact ⟨hc0.out.kept k3 (by simp), (hc0.out.kept k3 (by simp)).at.1⟩ | exact ⟨hc0.out.kept k2 (by simp), (hc0.out.kept k2 (by simp)).at.1⟩ | exact ⟨hc0.out.kept k1 (by simp), (hc0.out.kept k1 (by simp)).at.1⟩ | exact ⟨hc0.out.kept (Kept.refl [] W0).drew (by simp), (hc0.out.kept (Kept.refl [] W0).drew (by simp)).at.1⟩)
    clear hK K
    try simp only [Act.put, List.getElem_toArray, List.getElem_cons_succ, List.getElem_cons_zero, List.setIfInBounds_toArray, List.set_cons_zero, List.set_cons_succ]
    refine wpAnyH_take (i := 11) (v := ?_) rfl (by kernel_rfl) (by kernel_rfl) (by kernel_rfl) (fun _ _ _ h => h) (Or.inl ⟨by rfl, ?_⟩) (by assumption) ?_
    rotate_left
    · (intro wq hSw; (try dsimp only at hSw); go_simp; try with_reducible rfl)
    try simp only [Act.put, List.getElem_toArray, List.getElem_cons_succ, List.getElem_cons_zero, List.setIfInBounds_toArray, List.set_cons_zero, List.set_cons_succ]
    refine wpAnyH_take (i := 12) (v := ?_) rfl (by kernel_rfl) (by kernel_rfl) (by kernel_rfl) (fun _ _ _ h => h) (Or.inl ⟨by rfl, ?_⟩) (by assumption) ?_
    rotate_left
    · (intro wq hSw; (try dsimp only at hSw); go_simp; try with_reducible rfl)
    try simp only [Act.put, List.getElem_toArray, List.getElem_cons_succ, List.getElem_cons_zero, List.setIfInBounds_toArray, List.set_cons_zero, List.set_cons_succ]
    refine wpAnyH_take (i := 13) (v := ?_) rfl (by kernel_rfl) (by kernel_rfl) (by kernel_rfl) (fun _ _ _ h => h) (Or.inl ⟨by rfl, ?_⟩) (by assumption) ?_
    rotate_left
    · (intro wq hSw; (try dsimp only at hSw); go_simp; try with_reducible rfl)
    try simp only [Act.put, List.getElem_toArray, List.getElem_cons_succ, List.getElem_cons_zero, List.setIfInBounds_toArray, List.set_cons_zero, List.set_cons_succ]
    refine wpAnyH_take (i := 14) (v := (.agg #[.int .i32 c.r, .int .i32 c.m0, .int .i32 c.m1, .int .i32 c.m2, .int .i64 c.w, .int .i64 c.p.f.k, .int .u8 c.p.f.i, .int .u8 c.p.f.r, .int .u8 c.p.f.g, .int .u8 c.p.f.b, .int .i64 c.p.b.k, .int .u8 c.p.b.i, .int .u8 c.p.b.r, .int .u8 c.p.b.g, .int .u8 c.p.b.b, .int .u8 c.p.fl])) rfl (by kernel_rfl) (by kernel_rfl) (by kernel_rfl) (fun _ _ _ h => h) (yieldsIf_load_mid (by rfl) 30 _ rfl w.heap.size 0 rfl (kcL c) _ (fun _ h => h.1.range) Tryd.underlying30 rfl (by kernel_rfl)) (by assumption) ?_
    try simp only [Act.put, List.getElem_toArray, List.getElem_cons_succ, List.getElem_cons_zero, List.setIfInBounds_toArray, List.set_cons_zero, List.set_cons_succ]
    refine wpAnyH_take (i := 16) (v := (.agg #[.int .i32 c.r, .int .i32 c.m0, .int .i32 c.m1, .int .i32 c.m2, .int .i64 c.w, .int .i64 c.p.f.k, .int .u8 c.p.f.i, .int .u8 c.p.f.r, .int .u8 c.p.f.g, .int .u8 c.p.f.b, .int .i64 c.p.b.k, .int .u8 c.p.b.i, .int .u8 c.p.b.r, .int .u8 c.p.b.g, .int .u8 c.p.b.b, .int .u8 c.p.fl])) rfl (by kernel_rfl) (by kernel_rfl) (by kernel_rfl) (fun _ _ _ h => h) (yieldsIf_load_mid (by rfl) 30 _ rfl w.heap.size 0 rfl (kcL c) _ (fun _ h => h.1.range) Tryd.underlying30 rfl (by kernel_rfl)) (by assumption) ?_
    try simp only [Act.put, List.getElem_toArray, List.getElem_cons_succ, List.getElem_cons_zero, List.setIfInBounds_toArray, List.set_cons_zero, List.set_cons_succ]
    refine wpAnyH_take (i := 17) (v := ?_) rfl (by kernel_rfl) (by kernel_rfl) (by kernel_rfl) (fun _ _ _ h => h) (Or.inl ⟨by rfl, ?_⟩) (by assumption) ?_
    rotate_left
    · (intro wq hSw; (try dsimp only at hSw); go_simp; try with_reducible rfl)
    try simp only [Act.put, List.getElem_toArray, List.getElem_cons_succ, List.getElem_cons_zero, List.setIfInBounds_toArray, List.set_cons_zero, List.set_cons_succ]
    refine wpAnyH_take (i := 18) (v := ?_) rfl (by kernel_rfl) (by kernel_rfl) (by kernel_rfl) (fun _ _ _ h => h) (Or.inl ⟨by rfl, ?_⟩) (by assumption) ?_
    rotate_left
    · (intro wq hSw; (try dsimp only at hSw); go_simp; try with_reducible rfl)
    try simp only [Act.put, List.getElem_toArray, List.getElem_cons_succ, List.getElem_cons_zero, List.setIfInBounds_toArray, List.set_cons_zero, List.set_cons_succ]
    refine wpAnyH_ready (rs := [15]) (by kernel_rfl) (by simp) ?_
    refine AllReadyH.cons rfl (fun K hK => ?_) AllReadyH.nil
    go_simp
    refine (hEm.out w3).mono ?_; rintro e w4 ⟨rfl, j4⟩; have k4 : Kept [] W0 w4 := (k3).trans j4 (by simp)
    try go_wp2_with fail
    refine hK.out _ _ ?_ (fun hHeld => ?_)
    · (try dsimp only); (first | exact ⟨hc0.out.kept k7 (by simp), (hc0.out.kept k7 (by simp)).at.1⟩ | exact ⟨hc0.out.kept k6 (by simp), (hc0.out.kept k6 (by simp)).at.1⟩ | exact ⟨hc0.out.kept k5 (by simp), (hc0.out.kept k5 (by simp)).at.1⟩ | exact ⟨hc0.out.kept k4 (by simp), (hc0.out.kept k4 (by simp)).at.1⟩ | exact ⟨hc0.out.kept k3 (by simp), (hc0.out.kept k3 (by simp)).at.1⟩ | exact ⟨hc0.out.kept k2 (by simp), (hc0.out.kept k2 (by simp)).at.1⟩ | exact ⟨hc0.out.kept k1 (by simp), (hc0.out.kept k1 (by simp)).at.1⟩ | exact ⟨hc0.out.kept (Kept.refl [] W0).drew (by simp), (hc0.out.kept (Kept.refl [] W0).drew (by simp)).at.1⟩)
    clear hK K
    try simp only [Act.put, List.getElem_toArray, List.getElem_cons_succ, List.getElem_cons_zero, List.setIfInBounds_toArray, List.set_cons_zero, List.set_cons_succ]
    refine wpAnyH_take (i := 19) (v := ?_) rfl (by kernel_rfl) (by kernel_rfl) (by kernel_rfl) (fun _ _ _ h => h) (Or.inl ⟨by rfl, ?_⟩) (by assumption) ?_
    rotate_left
    · (intro wq hSw; (try dsimp only at hSw); go_simp; try with_reducible rfl)
    try simp only [Act.put, List.getElem_toArray, List.getElem_cons_succ, List.getElem_cons_zero, List.setIfInBounds_toArray, List.set_cons_zero, List.set_cons_succ]
    refine wpAnyH_take (i := 20) (v := ?_) rfl (by kernel_rfl) (by kernel_rfl) (by kernel_rfl) (fun _ _ _ h => h) (Or.inl ⟨by rfl, ?_⟩) (by assumption) ?_
    rotate_left
    · (intro wq hSw; (try dsimp only at hSw); go_simp; try with_reducible rfl)
    try simp only [Act.put, List.getElem_toArray, List.getElem_cons_succ, List.getElem_cons_zero, List.setIfInBounds_toArray, List.set_cons_zero, List.set_cons_succ]
    refine wpAnyH_take (i := 21) (v := ?_) rfl (by kernel_rfl) (by kernel_rfl) (by kernel_rfl) (fun _ _ _ h => h) (Or.inl ⟨by rfl, ?_⟩) (by assumption) ?_
    rotate_left
    · (intro wq hSw; (try dsimp only at hSw); go_simp; try with_reducible rfl)
    try simp only [Act.put, List.getElem_toArray, List.getElem_cons_succ, List.getElem_cons_zero, List.setIfInBounds_toArray, List.set_cons_zero, List.set_cons_succ]
    refine wpAnyH_take (i := 22) (v := (.agg #[.int .i32 c.r, .int .i32 c.m0, .int .i32 c.m1, .int .i32 c.m2, .int .i64 c.w, .int .i64 c.p.f.k, .int .u8 c.p.f.i, .int .u8 c.p.f.r, .int .u8 c.p.f.g, .int .u8 c.p.f.b, .int .i64 c.p.b.k, .int .u8 c.p.b.i, .int .u8 c.p.b.r, .int .u8 c.p.b.g, .int .u8 c.p.b.b, .int .u8 c.p.fl])) rfl (by kernel_rfl) (by kernel_rfl) (by kernel_rfl) (fun _ _ _ h => h) (yieldsIf_load_mid (by rfl) 30 _ rfl w.heap.size 0 rfl (kcL c) _ (fun _ h => h.1.range) Tryd.underlying30 rfl (by kernel_rfl)) (by assumption) ?_
    try simp only [Act.put, List.getElem_toArray, List.getElem_cons_succ, List.getElem_cons_zero, List.setIfInBounds_toArray, List.set_cons_zero, List.set_cons_succ]
    refine wpAnyH_take (i := 24) (v := (.agg #[.int .i32 c.r, .int .i32 c.m0, .int .i32 c.m1, .int .i32 c.m2, .int .i64 c.w, .int .i64 c.p.f.k, .int .u8 c.p.f.i, .int .u8 c.p.f.r, .int .u8 c.p.f.g, .int .u8 c.p.f.b, .int .i64 c.p.b.k, .int .u8 c.p.b.i, .int .u8 c.p.b.r, .int .u8 c.p.b.g, .int .u8 c.p.b.b, .int .u8 c.p.fl])) rfl (by kernel_rfl) (by kernel_rfl) (by kernel_rfl) (fun _ _ _ h => h) (yieldsIf_load_mid (by rfl) 30 _ rfl w.heap.size 0 rfl (kcL c) _ (fun _ h => h.1.range) Tryd.underlying30 rfl (by kernel_rfl)) (by assumption) ?_
    try simp only [Act.put, List.getElem_toArray, List.getElem_cons_succ, List.getElem_cons_zero, List.setIfInBounds_toArray, List.set_cons_zero, List.set_cons_succ]
    refine wpAnyH_ready (rs := [23]) (by kernel_rfl) (by simp) ?_
    refine AllReadyH.cons rfl (fun K hK => ?_) AllReadyH.nil
    go_simp
    refine (hTx.out w4).mono ?_; rintro e w5 ⟨rfl, j5⟩; have k5 : Kept [] W0 w5 := (k4).trans j5 (by simp)
    try go_wp2_with fail
    refine hK.out _ _ ?_ (fun hHeld => ?_)
    · (try dsimp only); (first | exact ⟨hc0.out.kept k7 (by simp), (hc0.out.kept k7 (by simp)).at.1⟩ | exact ⟨hc0.out.kept k6 (by simp), (hc0.out.kept k6 (by simp)).at.1⟩ | exact ⟨hc0.out.kept k5 (by simp), (hc0.out.kept k5 (by simp)).at.1⟩ | exact ⟨hc0.out.kept k4 (by simp), (hc0.out.kept k4 (by simp)).at.1⟩ | exact ⟨hc0.out.kept k3 (by simp), (hc0.out.kept k3 (by simp)).at.1⟩ | exact ⟨hc0.out.kept k2 (by simp), (hc0.out.kept k2 (by simp)).at.1⟩ | exact ⟨hc0.out.kept k1 (by simp), (hc0.out.kept k1 (by simp)).at.1⟩ | exact ⟨hc0.out.kept (Kept.refl [] W0).drew (by simp), (hc0.out.kept (Kept.refl [] W0).drew (by simp)).at.1⟩)
    clear hK K
    try simp only [Act.put, List.getElem_toArray, List.getElem_cons_succ, List.getElem_cons_zero, List.setIfInBounds_toArray, List.set_cons_zero, List.set_cons_succ]
    refine wpAnyH_ready (rs := [25]) (by kernel_rfl) (by simp) ?_
    refine AllReadyH.cons rfl (fun K hK => ?_) AllReadyH.nil
    go_simp
    refine (hRT.out w5).mono ?_; rintro e w6 ⟨rfl, j6⟩; have k6 : Kept [] W0 w6 := (k5).trans j6 (by simp)
    try go_wp2_with fail
    refine hK.out _ _ ?_ (fun hHeld => ?_)
    · (try dsimp only); (first | exact ⟨hc0.out.kept k7 (by simp), (hc0.out.kept k7 (by simp)).at.1⟩ | exact ⟨hc0.out.kept k6 (by simp), (hc0.out.kept k6 (by simp)).at.1⟩ | exact ⟨hc0.out.kept k5 (by simp), (hc0.out.kept k5 (by simp)).at.1⟩ | exact ⟨hc0.out.kept k4 (by simp), (hc0.out.kept k4 (by simp)).at.1⟩ | exact ⟨hc0.out.kept k3 (by simp), (hc0.out.kept k3 (by simp)).at.1⟩ | exact ⟨hc0.out.kept k2 (by simp), (hc0.out.kept k2 (by simp)).at.1⟩ | exact ⟨hc0.out.kept k1 (by simp), (hc0.out.kept k1 (by simp)).at.1⟩ | exact ⟨hc0.out.kept (Kept.refl [] W0).drew (by simp), (hc0.out.kept (Kept.refl [] W0).drew (by simp)).at.1⟩)
    clear hK K
    try simp only [Act.put, List.getElem_toArray, List.getElem_cons_succ, List.getElem_cons_zero, List.setIfInBounds_toArray, List.set_cons_zero, List.set_cons_succ]
    refine wpAnyH_take (i := 26) (v := ?_) rfl (by kernel_rfl) (by kernel_rfl) (by kernel_rfl) (fun _ _ _ h => h) (Or.inl ⟨by rfl, ?_⟩) (by assumption) ?_
    rotate_left
    · (intro wq hSw; (try dsimp only at hSw); go_simp; try with_reducible rfl)
    try simp only [Act.put, List.getElem_toArray, List.getElem_cons_succ, List.getElem_cons_zero, List.setIfInBounds_toArray, List.set_cons_zero, List.set_cons_succ]
    refine wpAnyH_take (i := 27) (v := ?_) rfl (by kernel_rfl) (by kernel_rfl) (by kernel_rfl) (fun _ _ _ h => h) (Or.inl ⟨by rfl, ?_⟩) (by assumption) ?_
    rotate_left
    · (intro wq hSw; (try dsimp only at hSw); go_simp; try with_reducible rfl)
    try simp only [Act.put, List.getElem_toArray, List.getElem_cons_succ, List.getElem_cons_zero, List.setIfInBounds_toArray, List.set_cons_zero, List.set_cons_succ]
    refine wpAnyH_take (i := 28) (v := ?_) rfl (by kernel_rfl) (by kernel_rfl) (by kernel_rfl) (fun _ _ _ h => h) (Or.inl ⟨by rfl, ?_⟩) (by assumption) ?_
    rotate_left
    · (intro wq hSw; (try dsimp only at hSw); go_simp; try with_reducible rfl)
    try simp only [Act.put, List.getElem_toArray, List.getElem_cons_succ, List.getElem_cons_zero, List.setIfInBounds_toArray, List.set_cons_zero, List.set_cons_succ]
    refine wpAnyH_ready (rs := [29]) (by kernel_rfl) (by simp) ?_
    refine AllReadyH.cons rfl (fun K hK => ?_) AllReadyH.nil
    go_simp
    refine (hKN.out w6 (hT.out w6 (k6))).mono ?_; rintro e w7 ⟨rfl, j7⟩; have k7 : Kept [] W0 w7 := (k6).trans j7 (by simp)
    try go_wp2_with fail
    refine hK.out _ _ ?_ (fun hHeld => ?_)
    · (try dsimp only); (first | exact ⟨hc0.out.kept k7 (by simp), (hc0.out.kept k7 (by simp)).at.1⟩ | exact ⟨hc0.out.kept k6 (by simp), (hc0.out.kept k6 (by simp)).at.1⟩ | exact ⟨hc0.out.kept k5 (by simp), (hc0.out.kept k5 (by simp)).at.1⟩ | exact ⟨hc0.out.kept k4 (by simp), (hc0.out.kept k4 (by simp)).at.1⟩ | exact ⟨hc0.out.kept k3 (by simp), (hc0.out.kept k3 (by simp)).at.1⟩ | exact ⟨hc0.out.kept k2 (by simp), (hc0.out.kept k2 (by simp)).at.1⟩ | exact ⟨hc0.out.kept k1 (by simp), (hc0.out.kept k1 (by simp)).at.1⟩ | exact ⟨hc0.out.kept (Kept.refl [] W0).drew (by simp), (hc0.out.kept (Kept.refl [] W0).drew (by simp)).at.1⟩)
    clear hK K
    try simp only [Act.put, List.getElem_toArray, List.getElem_cons_succ, List.getElem_cons_zero, List.setIfInBounds_toArray, List.set_cons_zero, List.set_cons_succ]
    refine wpAnyH_take (i := 30) (v := ?_) rfl (by kernel_rfl) (by kernel_rfl) (by kernel_rfl) (fun _ _ _ h => h) (Or.inl ⟨by rfl, ?_⟩) (by assumption) ?_
    rotate_left
    · (intro wq hSw; (try dsimp only at hSw); go_simp; try with_reducible rfl)
    try simp only [Act.put, List.getElem_toArray, List.getElem_cons_succ, List.getElem_cons_zero, List.setIfInBounds_toArray, List.set_cons_zero, List.set_cons_succ]
    refine wpAnyH_take (i := 31) (v := ?_) rfl (by kernel_rfl) (by kernel_rfl) (by kernel_rfl) (fun _ _ _ h => h) (Or.inl ⟨by rfl, ?_⟩) (by assumption) ?_
    rotate_left
    · (intro wq hSw; (try dsimp only at hSw); go_simp; try with_reducible rfl)
    try simp only [Act.put, List.getElem_toArray, List.getElem_cons_succ, List.getElem_cons_zero, List.setIfInBounds_toArray, List.set_cons_zero, List.set_cons_succ]
    refine wpAnyH_done (by kernel_rfl) ?_ _
    go_wp2_with fail
    go_ret
    exact ⟨rfl, hk0.trans k7 (by simp)⟩
  · have dr : decide (c.r = 0) = false := decide_eq_false hr0
    have dr' : (c.r != 0) = true := by simpa using hr0
    clear hr0
    refine wp_region_held_drew (S := (fun w' => CelIn w' w.heap.size c ∧ w'.cell? ⟨w.heap.size, 0, none⟩ = some (.int .i32 c.r))) (by kernel_rfl) ?_ (fun hHeld => ?_)
    · (try dsimp only); (first | exact ⟨hc0.out.kept k7 (by simp), (hc0.out.kept k7 (by simp)).at.1⟩ | exact ⟨hc0.out.kept k6 (by simp), (hc0.out.kept k6 (by simp)).at.1⟩ | exact ⟨hc0.out.kept k5 (by simp), (hc0.out.kept k5 (by simp)).at.1⟩ | exact ⟨hc0.out.kept k4 (by simp), (hc0.out.kept k4 (by simp)).at.1⟩ | exact ⟨hc0.out.kept k3 (by simp), (hc0.out.kept k3 (by simp)).at.1⟩ | exact ⟨hc0.out.kept k2 (by simp), (hc0.out.kept k2 (by simp)).at.1⟩ | exact ⟨hc0.out.kept k1 (by simp), (hc0.out.kept k1 (by simp)).at.1⟩ | exact ⟨hc0.out.kept (Kept.refl [] W0).drew (by simp), (hc0.out.kept (Kept.refl [] W0).drew (by simp)).at.1⟩)
    refine wpAnyH_take (i := 0) (v := (.agg #[.int .i32 c.r, .int .i32 c.m0, .int .i32 c.m1, .int .i32 c.m2, .int .i64 c.w, .int .i64 c.p.f.k, .int .u8 c.p.f.i, .int .u8 c.p.f.r, .int .u8 c.p.f.g, .int .u8 c.p.f.b, .int .i64 c.p.b.k, .int .u8 c.p.b.i, .int .u8 c.p.b.r, .int .u8 c.p.b.g, .int .u8 c.p.b.b, .int .u8 c.p.fl])) rfl (by kernel_rfl) (by kernel_rfl) (by kernel_rfl) (fun _ _ _ h => h) (yieldsIf_load_mid (by rfl) 30 _ rfl w.heap.size 0 rfl (kcL c) _ (fun _ h => h.1.range) Tryd.underlying30 rfl (by kernel_rfl)) (by assumption) ?_
    try simp only [Act.put, List.getElem_toArray, List.getElem_cons_zero, List.setIfInBounds_toArray, List.set_cons_zero, List.set_cons_succ]
    refine wpAnyH_take (i := 2) (v := (.agg #[.int .i32 c.r, .int .i32 c.m0, .int .i32 c.m1, .int .i32 c.m2, .int .i64 c.w, .int .i64 c.p.f.k, .int .u8 c.p.f.i, .int .u8 c.p.f.r, .int .u8 c.p.f.g, .int .u8 c.p.f.b, .int .i64 c.p.b.k, .int .u8 c.p.b.i, .int .u8 c.p.b.r, .int .u8 c.p.b.g, .int .u8 c.p.b.b, .int .u8 c.p.fl])) rfl (by kernel_rfl) (by kernel_rfl) (by kernel_rfl) (fun _ _ _ h => h) (yieldsIf_load_mid (by rfl) 30 _ rfl w.heap.size 0 rfl (kcL c) _ (fun _ h => h.1.range) Tryd.underlying30 rfl (by kernel_rfl)) (by assumption) ?_
    try simp only [Act.put, List.getElem_toArray, List.getElem_cons_succ, List.getElem_cons_zero, List.setIfInBounds_toArray, List.set_cons_zero, List.set_cons_succ]
    refine wpAnyH_ready (rs := [1]) (by kernel_rfl) (by simp) ?_
    refine AllReadyH.cons rfl (fun K hK => ?_) AllReadyH.nil
    go_simp
    refine (hV.out W0.drew ((Kept.refl [] W0).drew)).mono ?_; rintro e w1 ⟨rfl, j1⟩; have k1 : Kept [] W0 w1 := ((Kept.refl [] W0).drew).trans j1 (by simp)
    try go_wp2_with fail
    refine hK.out _ _ ?_ (fun hHeld => ?_)
    · (try dsimp only); (first | exact ⟨hc0.out.kept k7 (by simp), (hc0.out.kept k7 (by simp)).at.1⟩ | exact ⟨hc0.out.kept k6 (by simp), (hc0.out.kept k6 (by simp)).at.1⟩ | exact ⟨hc0.out.kept k5 (by simp), (hc0.out.kept k5 (by simp)).at.1⟩ | exact ⟨hc0.out.kept k4 (by simp), (hc0.out.kept k4 (by simp)).at.1⟩ | exact ⟨hc0.out.kept k3 (by simp), (hc0.out.kept k3 (by simp)).at.1⟩ | exact ⟨hc0.out.kept k2 (by simp), (hc0.out.kept k2 (by simp)).at.1⟩ | exact ⟨hc0.out.kept k1 (by simp), (hc0.out.kept k1 (by simp)).at.1⟩ | exact ⟨hc0.out.kept (Kept.refl [] W0).drew (by simp), (hc0.out.kept (Kept.refl [] W0).drew (by simp)).at.1⟩)
    clear hK K
    try simp only [Act.put, List.getElem_toArray, List.getElem_cons_succ, List.getElem_cons_zero, List.setIfInBounds_toArray, List.set_cons_zero, List.set_cons_succ]
    refine wpAnyH_ready (rs := [3]) (by kernel_rfl) (by simp) ?_
    refine AllReadyH.cons rfl (fun K hK => ?_) AllReadyH.nil
    go_simp
    refine (hRV.out w1).mono ?_; rintro e w2 ⟨rfl, j2⟩; have k2 : Kept [] W0 w2 := (k1).trans j2 (by simp)
    try go_wp2_with fail
    refine hK.out _ _ ?_ (fun hHeld => ?_)
    · (try dsimp only); (first | exact ⟨hc0.out.kept k7 (by simp), (hc0.out.kept k7 (by simp)).at.1⟩ | exact ⟨hc0.out.kept k6 (by simp), (hc0.out.kept k6 (by simp)).at.1⟩ | exact ⟨hc0.out.kept k5 (by simp), (hc0.out.kept k5 (by simp)).at.1⟩ | exact ⟨hc0.out.kept k4 (by simp), (hc0.out.kept k4 (by simp)).at.1⟩ | exact ⟨hc0.out.kept k3 (by simp), (hc0.out.kept k3 (by simp)).at.1⟩ | exact ⟨hc0.out.kept k2 (by simp), (hc0.out.kept k2 (by simp)).at.1⟩ | exact ⟨hc0.out.kept k1 (by simp), (hc0.out.kept k1 (by simp)).at.1⟩ | exact ⟨hc0.out.kept (Kept.refl [] W0).drew (by simp), (hc0.out.kept (Kept.refl [] W0).drew (by simp)).at.1⟩)
    clear hK K
    try simp only [Act.put, List.getElem_toArray, List.getElem_cons_succ, List.getElem_cons_zero, List.setIfInBounds_toArray, List.set_cons_zero, List.set_cons_succ]
    refine wpAnyH_take (i := 4) (v := ?_) rfl (by kernel_rfl) (by kernel_rfl) (by kernel_rfl) (fun _ _ _ h => h) (Or.inl ⟨by rfl, ?_⟩) (by assumption) ?_
    rotate_left
    · (intro wq hSw; (try dsimp only at hSw); go_simp; try with_reducible rfl)
    try simp only [Act.put, List.getElem_toArray, List.getElem_cons_succ, List.getElem_cons_zero, List.setIfInBounds_toArray, List.set_cons_zero, List.set_cons_succ]
    refine wpAnyH_take (i := 5) (v := ?_) rfl (by kernel_rfl) (by kernel_rfl) (by kernel_rfl) (fun _ _ _ h => h) (Or.inl ⟨by rfl, ?_⟩) (by assumption) ?_
    rotate_left
    · (intro wq hSw; (try dsimp only at hSw); go_simp; try with_reducible rfl)
    try simp only [Act.put, List.getElem_toArray, List.getElem_cons_succ, List.getElem_cons_zero, List.setIfInBounds_toArray, List.set_cons_zero, List.set_cons_succ]
    refine wpAnyH_take (i := 6) (v := (.agg #[.int .i32 c.r, .int .i32 c.m0, .int .i32 c.m1, .int .i32 c.m2, .int .i64 c.w, .int .i64 c.p.f.k, .int .u8 c.p.f.i, .int .u8 c.p.f.r, .int .u8 c.p.f.g, .int .u8 c.p.f.b, .int .i64 c.p.b.k, .int .u8 c.p.b.i, .int .u8 c.p.b.r, .int .u8 c.p.b.g, .int .u8 c.p.b.b, .int .u8 c.p.fl])) rfl (by kernel_rfl) (by kernel_rfl) (by kernel_rfl) (fun _ _ _ h => h) (yieldsIf_load_mid (by rfl) 30 _ rfl w.heap.size 0 rfl (kcL c) _ (fun _ h => h.1.range) Tryd.underlying30 rfl (by kernel_rfl)) (by assumption) ?_
    try simp only [Act.put, List.getElem_toArray, List.getElem_cons_succ, List.getElem_cons_zero, List.setIfInBounds_toArray, List.set_cons_zero, List.set_cons_succ]
    refine wpAnyH_take (i := 8) (v := ?_) rfl (by kernel_rfl) (by kernel_rfl) (by kernel_rfl) (fun _ _ _ h => h) (Or.inl ⟨by rfl, ?_⟩) (by assumption) ?_
    rotate_left
    · (intro wq hSw; (try dsimp only at hSw); go_simp; try with_reducible rfl)
    try simp only [Act.put, List.getElem_toArray, List.getElem_cons_succ, List.getElem_cons_zero, List.setIfInBounds_toArray, List.set_cons_zero, List.set_cons_succ]
    refine wpAnyH_take (i := 9) (v := ?_) rfl (by kernel_rfl) (by kernel_rfl) (by kernel_rfl) (fun _ _ _ h => h) (Or.inl ⟨by rfl, ?_⟩) (by assumption) ?_
    rotate_left
    · (intro wq hSw; (try dsimp only at hSw); go_simp; try with_reducible rfl)
    try simp only [Act.put, List.getElem_toArray, List.getElem_cons_succ, List.getElem_cons_zero, List.setIfInBounds_toArray, List.set_cons_zero, List.set_cons_succ]
    refine wpAnyH_take (i := 10) (v := ?_) rfl (by kernel_rfl) (by kernel_rfl) (by kernel_rfl) (fun _ _ _ h => h) (Or.inl ⟨by rfl, ?_⟩) (by assumption) ?_
    rotate_left
    · (intro wq hSw; (try dsimp only at hSw); go_simp; try with_reducible rfl)
    try simp only [Act.put, List.getElem_toArray, List.getElem_cons_succ, List.getElem_cons_zero, List.setIfInBounds_toArray, List.set_cons_zero, List.set_cons_succ]
    refine wpAnyH_ready (rs := [7]) (by kernel_rfl) (by simp) ?_
    refine AllReadyH.cons rfl (fun K hK => ?_) AllReadyH.nil
    go_simp
    refine (hWr.out w2).mono ?_; rintro e w3 ⟨rfl, j3⟩; have k3 : Kept [] W0 w3 := (k2).trans j3 (by simp)
    try go_wp2_with fail
    refine hK.out _ _ ?_ (fun hHeld => ?_)
    · (try dsimp only); (first | exact ⟨hc0.out.kept k7 (by simp), (hc0.out.kept k7 (by simp)).at.1⟩ | exact ⟨hc0.out.kept k6 (by simp), (hc0.out.kept k6 (by simp)).at.1⟩ | exact ⟨hc0.out.kept k5 (by simp), (hc0.out.kept k5 (by simp)).at.1⟩ | exact ⟨hc0.out.kept k4 (by simp), (hc0.out.kept k4 (by simp)).at.1⟩ | exact ⟨hc0.out.kept k3 (by simp), (hc0.out.kept k3 (by simp)).at.1⟩ | exact ⟨hc0.out.kept k2 (by simp), (hc0.out.kept k2 (by simp)).at.1⟩ | exact ⟨hc0.out.kept k1 (by simp), (hc0.out.kept k1 (by simp)).at.1⟩ | exact ⟨hc0.out.kept (Kept.refl [] W0).drew (by simp), (hc0.out.kept (Kept.refl [] W0).drew (by simp)).at.1⟩)
    clear hK K
    try simp only [Act.put, List.getElem_toArray, List.getElem_cons_succ, List.getElem_cons_zero, List.setIfInBounds_toArray, List.set_cons_zero, List.set_cons_succ]
    refine wpAnyH_take (i := 11) (v := ?_) rfl (by kernel_rfl) (by kernel_rfl) (by kernel_rfl) (fun _ _ _ h => h) (Or.inl ⟨by rfl, ?_⟩) (by assumption) ?_
    rotate_left
    · (intro wq hSw; (try dsimp only at hSw); go_simp; try with_reducible rfl)
    try simp only [Act.put, List.getElem_toArray, List.getElem_cons_succ, List.getElem_cons_zero, List.setIfInBounds_toArray, List.set_cons_zero, List.set_cons_succ]
    refine wpAnyH_take (i := 12) (v := ?_) rfl (by kernel_rfl) (by kernel_rfl) (by kernel_rfl) (fun _ _ _ h => h) (Or.inl ⟨by rfl, ?_⟩) (by assumption) ?_
    rotate_left
    · (intro wq hSw; (try dsimp only at hSw); go_simp; try with_reducible rfl)
    try simp only [Act.put, List.getElem_toArray, List.getElem_cons_succ, List.getElem_cons_zero, List.setIfInBounds_toArray, List.set_cons_zero, List.set_cons_succ]
    refine wpAnyH_take (i := 13) (v := ?_) rfl (by kernel_rfl) (by kernel_rfl) (by kernel_rfl) (fun _ _ _ h => h) (Or.inl ⟨by rfl, ?_⟩) (by assumption) ?_
    rotate_left
    · (intro wq hSw; (try dsimp only at hSw); go_simp; try with_reducible rfl)
    try simp only [Act.put, List.getElem_toArray, List.getElem_cons_succ, List.getElem_cons_zero, List.setIfInBounds_toArray, List.set_cons_zero, List.set_cons_succ]
    refine wpAnyH_take (i := 14) (v := (.agg #[.int .i32 c.r, .int .i32 c.m0, .int .i32 c.m1, .int .i32 c.m2, .int .i64 c.w, .int .i64 c.p.f.k, .int .u8 c.p.f.i, .int .u8 c.p.f.r, .int .u8 c.p.f.g, .int .u8 c.p.f.b, .int .i64 c.p.b.k, .int .u8 c.p.b.i, .int .u8 c.p.b.r, .int .u8 c.p.b.g, .int .u8 c.p.b.b, .int .u8 c.p.fl])) rfl (by kernel_rfl) (by kernel_rfl) (by kernel_rfl) (fun _ _ _ h => h) (yieldsIf_load_mid (by rfl) 30 _ rfl w.heap.size 0 rfl (kcL c) _ (fun _ h => h.1.range) Tryd.underlying30 rfl (by kernel_rfl)) (by assumption) ?_
    try simp only [Act.put, List.getElem_toArray, List.getElem_cons_succ, List.getElem_cons_zero, List.setIfInBounds_toArray, List.set_cons_zero, List.set_cons_succ]
    refine wpAnyH_take (i := 16) (v := (.agg #[.int .i32 c.r, .int .i32 c.m0, .int .i32 c.m1, .int .i32 c.m2, .int .i64 c.w, .int .i64 c.p.f.k, .int .u8 c.p.f.i, .int .u8 c.p.f.r, .int .u8 c.p.f.g, .int .u8 c.p.f.b, .int .i64 c.p.b.k, .int .u8 c.p.b.i, .int .u8 c.p.b.r, .int .u8 c.p.b.g, .int .u8 c.p.b.b, .int .u8 c.p.fl])) rfl (by kernel_rfl) (by kernel_rfl) (by kernel_rfl) (fun _ _ _ h => h) (yieldsIf_load_mid (by rfl) 30 _ rfl w.heap.size 0 rfl (kcL c) _ (fun _ h => h.1.range) Tryd.underlying30 rfl (by kernel_rfl)) (by assumption) ?_
    try simp only [Act.put, List.getElem_toArray, List.getElem_cons_succ, List.getElem_cons_zero, List.setIfInBounds_toArray, List.set_cons_zero, List.set_cons_succ]
    refine wpAnyH_take (i := 17) (v := ?_) rfl (by kernel_rfl) (by kernel_rfl) (by kernel_rfl) (fun _ _ _ h => h) (Or.inl ⟨by rfl, ?_⟩) (by assumption) ?_
    rotate_left
    · (intro wq hSw; (try dsimp only at hSw); go_simp; try with_reducible rfl)
    try simp only [Act.put, List.getElem_toArray, List.getElem_cons_succ, List.getElem_cons_zero, List.setIfInBounds_toArray, List.set_cons_zero, List.set_cons_succ]
    refine wpAnyH_take (i := 18) (v := ?_) rfl (by kernel_rfl) (by kernel_rfl) (by kernel_rfl) (fun _ _ _ h => h) (Or.inl ⟨by rfl, ?_⟩) (by assumption) ?_
    rotate_left
    · (intro wq hSw; (try dsimp only at hSw); go_simp; try with_reducible rfl)
    try simp only [Act.put, List.getElem_toArray, List.getElem_cons_succ, List.getElem_cons_zero, List.setIfInBounds_toArray, List.set_cons_zero, List.set_cons_succ]
    refine wpAnyH_ready (rs := [15]) (by kernel_rfl) (by simp) ?_
    refine AllReadyH.cons rfl (fun K hK => ?_) AllReadyH.nil
    go_simp
    refine (hEm.out w3).mono ?_; rintro e w4 ⟨rfl, j4⟩; have k4 : Kept [] W0 w4 := (k3).trans j4 (by simp)
    try go_wp2_with fail
    refine hK.out _ _ ?_ (fun hHeld => ?_)
    · (try dsimp only); (first | exact ⟨hc0.out.kept k7 (by simp), (hc0.out.kept k7 (by simp)).at.1⟩ | exact ⟨hc0.out.kept k6 (by simp), (hc0.out.kept k6 (by simp)).at.1⟩ | exact ⟨hc0.out.kept k5 (by simp), (hc0.out.kept k5 (by simp)).at.1⟩ | exact ⟨hc0.out.kept k4 (by simp), (hc0.out.kept k4 (by simp)).at.1⟩ | exact ⟨hc0.out.kept k3 (by simp), (hc0.out.kept k3 (by simp)).at.1⟩ | exact ⟨hc0.out.kept k2 (by simp), (hc0.out.kept k2 (by simp)).at.1⟩ | exact ⟨hc0.out.kept k1 (by simp), (hc0.out.kept k1 (by simp)).at.1⟩ | exact ⟨hc0.out.kept (Kept.refl [] W0).drew (by simp), (hc0.out.kept (Kept.refl [] W0).drew (by simp)).at.1⟩)
    clear hK K
    try simp only [Act.put, List.getElem_toArray, List.getElem_cons_succ, List.getElem_cons_zero, List.setIfInBounds_toArray, List.set_cons_zero, List.set_cons_succ]
    refine wpAnyH_take (i := 19) (v := ?_) rfl (by kernel_rfl) (by kernel_rfl) (by kernel_rfl) (fun _ _ _ h => h) (Or.inl ⟨by rfl, ?_⟩) (by assumption) ?_
    rotate_left
    · (intro wq hSw; (try dsimp only at hSw); go_simp; try with_reducible rfl)
    try simp only [Act.put, List.getElem_toArray, List.getElem_cons_succ, List.getElem_cons_zero, List.setIfInBounds_toArray, List.set_cons_zero, List.set_cons_succ]
    refine wpAnyH_take (i := 20) (v := ?_) rfl (by kernel_rfl) (by kernel_rfl) (by kernel_rfl) (fun _ _ _ h => h) (Or.inl ⟨by rfl, ?_⟩) (by assumption) ?_
    rotate_left
    · (intro wq hSw; (try dsimp only at hSw); go_simp; try with_reducible rfl)
    try simp only [Act.put, List.getElem_toArray, List.getElem_cons_succ, List.getElem_cons_zero, List.setIfInBounds_toArray, List.set_cons_zero, List.set_cons_succ]
    refine wpAnyH_take (i := 21) (v := ?_) rfl (by kernel_rfl) (by kernel_rfl) (by kernel_rfl) (fun _ _ _ h => h) (Or.inl ⟨by rfl, ?_⟩) (by assumption) ?_
    rotate_left
    · (intro wq hSw; (try dsimp only at hSw); go_simp; try with_reducible rfl)
    try simp only [Act.put, List.getElem_toArray, List.getElem_cons_succ, List.getElem_cons_zero, List.setIfInBounds_toArray, List.set_cons_zero, List.set_cons_succ]
    refine wpAnyH_take (i := 22) (v := (.agg #[.int .i32 c.r, .int .i32 c.m0, .int .i32 c.m1, .int .i32 c.m2, .int .i64 c.w, .int .i64 c.p.f.k, .int .u8 c.p.f.i, .int .u8 c.p.f.r, .int .u8 c.p.f.g, .int .u8 c.p.f.b, .int .i64 c.p.b.k, .int .u8 c.p.b.i, .int .u8 c.p.b.r, .int .u8 c.p.b.g, .int .u8 c.p.b.b, .int .u8 c.p.fl])) rfl (by kernel_rfl) (by kernel_rfl) (by kernel_rfl) (fun _ _ _ h => h) (yieldsIf_load_mid (by rfl) 30 _ rfl w.heap.size 0 rfl (kcL c) _ (fun _ h => h.1.range) Tryd.underlying30 rfl (by kernel_rfl)) (by assumption) ?_
    try simp only [Act.put, List.getElem_toArray, List.getElem_cons_succ, List.getElem_cons_zero, List.setIfInBounds_toArray, List.set_cons_zero, List.set_cons_succ]
    refine wpAnyH_take (i := 24) (v := (.agg #[.int .i32 c.r, .int .i32 c.m0, .int .i32 c.m1, .int .i32 c.m2, .int .i64 c.w, .int .i64 c.p.f.k, .int .u8 c.p.f.i, .int .u8 c.p.f.r, .int .u8 c.p.f.g, .int .u8 c.p.f.b, .int .i64 c.p.b.k, .int .u8 c.p.b.i, .int .u8 c.p.b.r, .int .u8 c.p.b.g, .int .u8 c.p.b.b, .int .u8 c.p.fl])) rfl (by kernel_rfl) (by kernel_rfl) (by kernel_rfl) (fun _ _ _ h => h) (yieldsIf_load_mid (by rfl) 30 _ rfl w.heap.size 0 rfl (kcL c) _ (fun _ h => h.1.range) Tryd.underlying30 rfl (by kernel_rfl)) (by assumption) ?_
    try simp only [Act.put, List.getElem_toArray, List.getElem_cons_succ, List.getElem_cons_zero, List.setIfInBounds_toArray, List.set_cons_zero, List.set_cons_succ]
    refine wpAnyH_ready (rs := [23]) (by kernel_rfl) (by simp) ?_
    refine AllReadyH.cons rfl (fun K hK => ?_) AllReadyH.nil
    go_simp
    refine (hTx.out w4).mono ?_; rintro e w5 ⟨rfl, j5⟩; have k5 : Kept [] W0 w5 := (k4).trans j5 (by simp)
    try go_wp2_with fail
    refine hK.out _ _ ?_ (fun hHeld => ?_)
    · (try dsimp only); (first | exact ⟨hc0.out.kept k7 (by simp), (hc0.out.kept k7 (by simp)).at.1⟩ | exact ⟨hc0.out.kept k6 (by simp), (hc0.out.kept k6 (by simp)).at.1⟩ | exact ⟨hc0.out.kept k5 (by simp), (hc0.out.kept k5 (by simp)).at.1⟩ | exact ⟨hc0.out.kept k4 (by simp), (hc0.out.kept k4 (by simp)).at.1⟩ | exact ⟨hc0.out.kept k3 (by simp), (hc0.out.kept k3 (by simp)).at.1⟩ | exact ⟨hc0.out.kept k2 (by simp), (hc0.out.kept k2 (by simp)).at.1⟩ | exact ⟨hc0.out.kept k1 (by simp), (hc0.out.kept k1 (by simp)).at.1⟩ | exact ⟨hc0.out.kept (Kept.refl [] W0).drew (by simp), (hc0.out.kept (Kept.refl [] W0).drew (by simp)).at.1⟩)
    clear hK K
    try simp only [Act.put, List.getElem_toArray, List.getElem_cons_succ, List.getElem_cons_zero, List.setIfInBounds_toArray, List.set_cons_zero, List.set_cons_succ]
    refine wpAnyH_ready (rs := [25]) (by kernel_rfl) (by simp) ?_
    refine AllReadyH.cons rfl (fun K hK => ?_) AllReadyH.nil
    go_simp
    refine (hRT.out w5).mono ?_; rintro e w6 ⟨rfl, j6⟩; have k6 : Kept [] W0 w6 := (k5).trans j6 (by simp)
    try go_wp2_with fail
    refine hK.out _ _ ?_ (fun hHeld => ?_)
    · (try dsimp only); (first | exact ⟨hc0.out.kept k7 (by simp), (hc0.out.kept k7 (by simp)).at.1⟩ | exact ⟨hc0.out.kept k6 (by simp), (hc0.out.kept k6 (by simp)).at.1⟩ | exact ⟨hc0.out.kept k5 (by simp), (hc0.out.kept k5 (by simp)).at.1⟩ | exact ⟨hc0.out.kept k4 (by simp), (hc0.out.kept k4 (by simp)).at.1⟩ | exact ⟨hc0.out.kept k3 (by simp), (hc0.out.kept k3 (by simp)).at.1⟩ | exact ⟨hc0.out.kept k2 (by simp), (hc0.out.kept k2 (by simp)).at.1⟩ | exact ⟨hc0.out.kept k1 (by simp), (hc0.out.kept k1 (by simp)).at.1⟩ | exact ⟨hc0.out.kept (Kept.refl [] W0).drew (by simp), (hc0.out.kept (Kept.refl [] W0).drew (by simp)).at.1⟩)
    clear hK K
    try simp only [Act.put, List.getElem_toArray, List.getElem_cons_succ, List.getElem_cons_zero, List.setIfInBounds_toArray, List.set_cons_zero, List.set_cons_succ]
    refine wpAnyH_take (i := 26) (v := ?_) rfl (by kernel_rfl) (by kernel_rfl) (by kernel_rfl) (fun _ _ _ h => h) (Or.inl ⟨by rfl, ?_⟩) (by assumption) ?_
    rotate_left
    · (intro wq hSw; (try dsimp only at hSw); go_simp; try with_reducible rfl)
    try simp only [Act.put, List.getElem_toArray, List.getElem_cons_succ, List.getElem_cons_zero, List.setIfInBounds_toArray, List.set_cons_zero, List.set_cons_succ]
    refine wpAnyH_take (i := 27) (v := ?_) rfl (by kernel_rfl) (by kernel_rfl) (by kernel_rfl) (fun _ _ _ h => h) (Or.inl ⟨by rfl, ?_⟩) (by assumption) ?_
    rotate_left
    · (intro wq hSw; (try dsimp only at hSw); go_simp; try with_reducible rfl)
    try simp only [Act.put, List.getElem_toArray, List.getElem_cons_succ, List.getElem_cons_zero, List.setIfInBounds_toArray, List.set_cons_zero, List.set_cons_succ]
    refine wpAnyH_take (i := 28) (v := ?_) rfl (by kernel_rfl) (by kernel_rfl) (by kernel_rfl) (fun _ _ _ h => h) (Or.inl ⟨by rfl, ?_⟩) (by assumption) ?_
    rotate_left
    · (intro wq hSw; (try dsimp only at hSw); go_simp; try with_reducible rfl)
    try simp only [Act.put, List.getElem_toArray, List.getElem_cons_succ, List.getElem_cons_zero, List.setIfInBounds_toArray, List.set_cons_zero, List.set_cons_succ]
    refine wpAnyH_ready (rs := [29]) (by kernel_rfl) (by simp) ?_
    refine AllReadyH.cons rfl (fun K hK => ?_) AllReadyH.nil
    go_simp
    refine (hKN.out w6 (hT.out w6 (k6))).mono ?_; rintro e w7 ⟨rfl, j7⟩; have k7 : Kept [] W0 w7 := (k6).trans j7 (by simp)
    try go_wp2_with fail
    refine hK.out _ _ ?_ (fun hHeld => ?_)
    · (try dsimp only); (first | exact ⟨hc0.out.kept k7 (by simp), (hc0.out.kept k7 (by simp)).at.1⟩ | exact ⟨hc0.out.kept k6 (by simp), (hc0.out.kept k6 (by simp)).at.1⟩ | exact ⟨hc0.out.kept k5 (by simp), (hc0.out.kept k5 (by simp)).at.1⟩ | exact ⟨hc0.out.kept k4 (by simp), (hc0.out.kept k4 (by simp)).at.1⟩ | exact ⟨hc0.out.kept k3 (by simp), (hc0.out.kept k3 (by simp)).at.1⟩ | exact ⟨hc0.out.kept k2 (by simp), (hc0.out.kept k2 (by simp)).at.1⟩ | exact ⟨hc0.out.kept k1 (by simp), (hc0.out.kept k1 (by simp)).at.1⟩ | exact ⟨hc0.out.kept (Kept.refl [] W0).drew (by simp), (hc0.out.kept (Kept.refl [] W0).drew (by simp)).at.1⟩)
    clear hK K
    try simp only [Act.put, List.getElem_toArray, List.getElem_cons_succ, List.getElem_cons_zero, List.setIfInBounds_toArray, List.set_cons_zero, List.set_cons_succ]
    refine wpAnyH_take (i := 30) (v := ?_) rfl (by kernel_rfl) (by kernel_rfl) (by kernel_rfl) (fun _ _ _ h => h) (Or.inl ⟨by rfl, ?_⟩) (by assumption) ?_
    rotate_left
    · (intro wq hSw; (try dsimp only at hSw); go_simp; try with_reducible rfl)
    try simp only [Act.put, List.getElem_toArray, List.getElem_cons_succ, List.getElem_cons_zero, List.setIfInBounds_toArray, List.set_cons_zero, List.set_cons_succ]
    refine wpAnyH_take (i := 31) (v := ?_) rfl (by kernel_rfl) (by kernel_rfl) (by kernel_rfl) (fun _ _ _ h => h) (Or.inl ⟨by rfl, ?_⟩) (by assumption) ?_
    rotate_left
    · (intro wq hSw; (try dsimp only at hSw); go_simp; try with_reducible rfl)
    try simp only [Act.put, List.getElem_toArray, List.getElem_cons_succ, List.getElem_cons_zero, List.setIfInBounds_toArray, List.set_cons_zero, List.set_cons_succ]
    refine wpAnyH_done (by kernel_rfl) ?_ _
    go_wp2_with fail
    go_ret
    exact ⟨rfl, hk0.trans k7 (by simp)⟩
end Go.Proofs.YtigaijigdellpaaDoor
