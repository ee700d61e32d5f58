/- The words of a cell, the cell of words: the program's. -/
import Derived.Test.YtpdjlollijbdeaaDoorPakLeaf
import Derived.Test.YtpdjlollijbdeaaDoorCelRv
import Derived.Test.YtpdjlollijbdeaaDoorPenPack
namespace Go.Proofs.YtpdjlollijbdeaaDoor
open Go.RowKit
set_option linter.unusedVariables false
set_option maxRecDepth 10000

set_option maxHeartbeats 1000000 in
theorem Words_any (c : Cl) (hb : PnB c.p) (w : World) (ht : Tabs w) : Calls Tryd.prog 26 #[.agg #[.int .i32 c.r, .int .i32 c.m0, .int .i32 c.m1, .int .i32 c.m2, .int .i64 c.w, .int .i64 c.p.f.k, .int .u8 c.p.f.i, .int .u8 c.p.f.r, .int .u8 c.p.f.g, .int .u8 c.p.f.b, .int .i64 c.p.b.k, .int .u8 c.p.b.i, .int .u8 c.p.b.r, .int .u8 c.p.b.g, .int .u8 c.p.b.b, .int .u8 c.p.fl]] w fun e w' => e = .returned (.tuple #[.agg #[.int .u64 (wordsE c).1.a, .int .u64 (wordsE c).1.b, .int .u64 (wordsE c).1.c], .int .i64 (wordsE c).2]) ∧ Kept [] w w' := by
  obtain ⟨W0, hW0⟩ : ∃ x : World, x = (w.alloc (.cells #[.int .i32 c.r, .int .i32 c.m0, .int .i32 c.m1, .int .i32 c.m2, .int .i64 c.w, .int .i64 c.p.f.k, .int .u8 c.p.f.i, .int .u8 c.p.f.r, .int .u8 c.p.f.g, .int .u8 c.p.f.b, .int .i64 c.p.b.k, .int .u8 c.p.b.i, .int .u8 c.p.b.r, .int .u8 c.p.b.g, .int .u8 c.p.b.b, .int .u8 c.p.fl] 30)).alloc (.cells #[.int .u64 0, .int .u64 0, .int .u64 0] 34) := ⟨_, rfl⟩
  have hk0 : Kept [] w W0 := by rw [hW0]; exact ((Kept.refl [] w).alloc _).alloc _
  have hc0 : Hid (CelIn W0 w.heap.size c) := hide (by rw [hW0]; exact (CelIn.new w c).kept ((Kept.refl [] _).alloc _) (by simp))
  have hz0 : Hid (W3In W0 (w.heap.size + 1) zeroW) := hide (by rw [hW0]; exact heap_new_at (by simp))
  have hV := hide (fun w1 (hk : Kept [] W0 w1) => cvalid_any c w1 ((ht.kept hk0).kept hk))
  have r0 := hc0.out.range
  clear ht
  by_cases hv : validC c = true
  · have hE : wordsE c = (wordsC c, 0) := if_pos hv
    rw [hE]
    have hP := hide (fun w1 => Pack_ok c.p (valid_pen hv) hb w1)
    have hM := hide (fun w1 => marksWord_any c.m0 c.m1 c.m2 (valid_range hv).m0 (valid_range hv).m1 (valid_range hv).m2 w1)
    have hr0 := (valid_range hv).r.1
    have hr1 := (valid_range hv).r.2
    have hw0 := (valid_range hv).w0
    have hw2 := (valid_range hv).w2
    have hQ := hide (word_math (valid_range hv).r hw0 hw2)
    rw [hv] at hV
    clear hv hE hb
    go_enter Tryd.func26, Tryd.ntmps26
    go_upto_region 1 with fail
    rw [← hW0]
    clear hW0
    go_wp2_with (refine wpList_load_cel rfl rfl w.heap.size 0 rfl r0 ?_)
    refine (hV.out _ (Kept.refl _ _)).mono ?_
    rintro e w1 ⟨rfl, hk1⟩
    clear r0
    have r1 := (hc0.out.kept hk1 (by simp)).range.pen
    go_wp2_with (refine wpList_load_pen rfl rfl w.heap.size 5 rfl r1 ?_)
    refine (hP.out _).mono ?_
    rintro e w2 ⟨rfl, hk2'⟩
    have hk2 := hk1.trans hk2' (by simp)
    clear r1 hk2' hk1
    obtain ⟨q0, q1, q2, q3, q4, q5, q6, q7, q8, q9, q10, q11, q12, q13, q14, q15⟩ := (hc0.out.kept hk2 (by simp)).at
    go_upto_region 4 with fail
    refine wp_region_held_drew (S := (fun w' => w'.cell? ⟨w.heap.size, 0, none⟩ = some (.int .i32 c.r) ∧ w'.cell? ⟨w.heap.size, 1, none⟩ = some (.int .i32 c.m0) ∧ w'.cell? ⟨w.heap.size, 2, none⟩ = some (.int .i32 c.m1) ∧ w'.cell? ⟨w.heap.size, 3, none⟩ = some (.int .i32 c.m2) ∧ w'.cell? ⟨w.heap.size, 4, none⟩ = some (.int .i64 c.w) ∧ w'.cell? ⟨w.heap.size, 5, none⟩ = some (.int .i64 c.p.f.k) ∧ w'.cell? ⟨w.heap.size, 6, none⟩ = some (.int .u8 c.p.f.i) ∧ w'.cell? ⟨w.heap.size, 7, none⟩ = some (.int .u8 c.p.f.r) ∧ w'.cell? ⟨w.heap.size, 8, none⟩ = some (.int .u8 c.p.f.g) ∧ w'.cell? ⟨w.heap.size, 9, none⟩ = some (.int .u8 c.p.f.b) ∧ w'.cell? ⟨w.heap.size, 10, none⟩ = some (.int .i64 c.p.b.k) ∧ w'.cell? ⟨w.heap.size, 11, none⟩ = some (.int .u8 c.p.b.i) ∧ w'.cell? ⟨w.heap.size, 12, none⟩ = some (.int .u8 c.p.b.r) ∧ w'.cell? ⟨w.heap.size, 13, none⟩ = some (.int .u8 c.p.b.g) ∧ w'.cell? ⟨w.heap.size, 14, none⟩ = some (.int .u8 c.p.b.b) ∧ w'.cell? ⟨w.heap.size, 15, none⟩ = some (.int .u8 c.p.fl))) (by kernel_rfl) ?_ (fun hHeld => ?_)
    · (try dsimp only); (first | exact (hc0.out.kept hk4 (by simp)).at | exact (hc0.out.kept hk3 (by simp)).at | exact (hc0.out.kept hk2.drew (by simp)).at)
    refine wpAnyH_take (i := 0) (v := ?_) rfl (by kernel_rfl) (by kernel_rfl) (by kernel_rfl) (fun _ _ _ h => h) (Or.inl ⟨by rfl, ?_⟩) (by assumption) ?_
    rotate_left
    · (intro wq hSw; (try dsimp only at hSw); go_simp; try with_reducible rfl)
    try simp only [Act.put, List.getElem_toArray, List.getElem_cons_zero, List.setIfInBounds_toArray, List.set_cons_zero, List.set_cons_succ]
    refine wpAnyH_take (i := 1) (v := ?_) rfl (by kernel_rfl) (by kernel_rfl) (by kernel_rfl) (fun _ _ _ h => h) (Or.inl ⟨by rfl, ?_⟩) (by assumption) ?_
    rotate_left
    · (intro wq hSw; (try dsimp only at hSw); go_simp; try with_reducible rfl)
    try simp only [Act.put, List.getElem_toArray, List.getElem_cons_succ, List.getElem_cons_zero, List.setIfInBounds_toArray, List.set_cons_zero, List.set_cons_succ]
    refine wpAnyH_take (i := 2) (v := ?_) rfl (by kernel_rfl) (by kernel_rfl) (by kernel_rfl) (fun _ _ _ h => h) (Or.inl ⟨by rfl, ?_⟩) (by assumption) ?_
    rotate_left
    · (intro wq hSw; (try dsimp only at hSw); go_simp; try with_reducible rfl)
    try simp only [Act.put, List.getElem_toArray, List.getElem_cons_succ, List.getElem_cons_zero, List.setIfInBounds_toArray, List.set_cons_zero, List.set_cons_succ]
    refine wpAnyH_take (i := 3) (v := ?_) rfl (by kernel_rfl) (by kernel_rfl) (by kernel_rfl) (fun _ _ _ h => h) (Or.inl ⟨by rfl, ?_⟩) (by assumption) ?_
    rotate_left
    · (intro wq hSw; (try dsimp only at hSw); go_simp; try with_reducible rfl)
    try simp only [Act.put, List.getElem_toArray, List.getElem_cons_succ, List.getElem_cons_zero, List.setIfInBounds_toArray, List.set_cons_zero, List.set_cons_succ]
    refine wpAnyH_take (i := 4) (v := ?_) rfl (by kernel_rfl) (by kernel_rfl) (by kernel_rfl) (fun _ _ _ h => h) (Or.inl ⟨by rfl, ?_⟩) (by assumption) ?_
    rotate_left
    · (intro wq hSw; (try dsimp only at hSw); go_simp; try with_reducible rfl)
    try simp only [Act.put, List.getElem_toArray, List.getElem_cons_succ, List.getElem_cons_zero, List.setIfInBounds_toArray, List.set_cons_zero, List.set_cons_succ]
    refine wpAnyH_take (i := 5) (v := ?_) rfl (by kernel_rfl) (by kernel_rfl) (by kernel_rfl) (fun _ _ _ h => h) (Or.inl ⟨by rfl, ?_⟩) (by assumption) ?_
    rotate_left
    · (intro wq hSw; (try dsimp only at hSw); go_simp; try with_reducible rfl)
    try simp only [Act.put, List.getElem_toArray, List.getElem_cons_succ, List.getElem_cons_zero, List.setIfInBounds_toArray, List.set_cons_zero, List.set_cons_succ]
    refine wpAnyH_take (i := 6) (v := ?_) rfl (by kernel_rfl) (by kernel_rfl) (by kernel_rfl) (fun _ _ _ h => h) (Or.inl ⟨by rfl, ?_⟩) (by assumption) ?_
    rotate_left
    · (intro wq hSw; (try dsimp only at hSw); go_simp; try with_reducible rfl)
    try simp only [Act.put, List.getElem_toArray, List.getElem_cons_succ, List.getElem_cons_zero, List.setIfInBounds_toArray, List.set_cons_zero, List.set_cons_succ]
    refine wpAnyH_take (i := 7) (v := ?_) rfl (by kernel_rfl) (by kernel_rfl) (by kernel_rfl) (fun _ _ _ h => h) (Or.inl ⟨by rfl, ?_⟩) (by assumption) ?_
    rotate_left
    · (intro wq hSw; (try dsimp only at hSw); go_simp; try with_reducible rfl)
    try simp only [Act.put, List.getElem_toArray, List.getElem_cons_succ, List.getElem_cons_zero, List.setIfInBounds_toArray, List.set_cons_zero, List.set_cons_succ]
    refine wpAnyH_take (i := 8) (v := ?_) rfl (by kernel_rfl) (by kernel_rfl) (by kernel_rfl) (fun _ _ _ h => h) (Or.inl ⟨by rfl, ?_⟩) (by assumption) ?_
    rotate_left
    · (intro wq hSw; (try dsimp only at hSw); go_simp; try with_reducible rfl)
    try simp only [Act.put, List.getElem_toArray, List.getElem_cons_succ, List.getElem_cons_zero, List.setIfInBounds_toArray, List.set_cons_zero, List.set_cons_succ]
    refine wpAnyH_take (i := 9) (v := ?_) rfl (by kernel_rfl) (by kernel_rfl) (by kernel_rfl) (fun _ _ _ h => h) (Or.inl ⟨by rfl, ?_⟩) (by assumption) ?_
    rotate_left
    · (intro wq hSw; (try dsimp only at hSw); go_simp; try with_reducible rfl)
    try simp only [Act.put, List.getElem_toArray, List.getElem_cons_succ, List.getElem_cons_zero, List.setIfInBounds_toArray, List.set_cons_zero, List.set_cons_succ]
    refine wpAnyH_take (i := 10) (v := ?_) rfl (by kernel_rfl) (by kernel_rfl) (by kernel_rfl) (fun _ _ _ h => h) (Or.inl ⟨by rfl, ?_⟩) (by assumption) ?_
    rotate_left
    · (intro wq hSw; (try dsimp only at hSw); go_simp; try with_reducible rfl)
    try simp only [Act.put, List.getElem_toArray, List.getElem_cons_succ, List.getElem_cons_zero, List.setIfInBounds_toArray, List.set_cons_zero, List.set_cons_succ]
    refine wpAnyH_ready (rs := [11]) (by kernel_rfl) (by simp) ?_
    refine AllReadyH.cons rfl (fun K hK => ?_) AllReadyH.nil
    go_simp
    refine (hM.out w2.drew).mono ?_; rintro e w3 ⟨rfl, hj3⟩; have hk3 : Kept [] W0 w3 := hk2.drew.trans hj3 (by simp)
    try go_wp2_with fail
    refine hK.out _ _ ?_ (fun hHeld => ?_)
    · (try dsimp only); (first | exact (hc0.out.kept hk4 (by simp)).at | exact (hc0.out.kept hk3 (by simp)).at | exact (hc0.out.kept hk2.drew (by simp)).at)
    clear hK K
    try simp only [Act.put, List.getElem_toArray, List.getElem_cons_succ, List.getElem_cons_zero, List.setIfInBounds_toArray, List.set_cons_zero, List.set_cons_succ]
    refine wpAnyH_take (i := 12) (v := ?_) rfl (by kernel_rfl) (by kernel_rfl) (by kernel_rfl) (fun _ _ _ h => h) (Or.inl ⟨by rfl, ?_⟩) (by assumption) ?_
    rotate_left
    · (intro wq hSw; (try dsimp only at hSw); go_simp; try with_reducible rfl)
    try simp only [Act.put, List.getElem_toArray, List.getElem_cons_succ, List.getElem_cons_zero, List.setIfInBounds_toArray, List.set_cons_zero, List.set_cons_succ]
    refine wpAnyH_ready (rs := [13]) (by kernel_rfl) (by simp) ?_
    refine AllReadyH.cons rfl (fun K hK => ?_) AllReadyH.nil
    rw [if_pos (by rfl)]
    refine wp_store_w3 rfl rfl (w.heap.size + 1) rfl (hz0.out.kept hk3 (by simp)) ⟨packI c.p, bits .or .u64 (IntKind.u64.wrap c.r) (IntKind.u64.wrap (IntKind.u64.wrap c.w * 2097152)), c.m0 + 2097152 * (c.m1 + 2097152 * c.m2)⟩ rfl ?_; intro w4 hz4 hj4; have hk4 : Kept [w.heap.size + 1] W0 w4 := (hk3.mono (by simp)).trans hj4 (by simp)
    refine hK.out _ _ ?_ (fun hHeld => ?_)
    · (try dsimp only); (first | exact (hc0.out.kept hk4 (by simp)).at | exact (hc0.out.kept hk3 (by simp)).at | exact (hc0.out.kept hk2.drew (by simp)).at)
    clear hK K
    try simp only [Act.put, List.getElem_toArray, List.getElem_cons_succ, List.getElem_cons_zero, List.setIfInBounds_toArray, List.set_cons_zero, List.set_cons_succ]
    refine wpAnyH_take (i := 14) (v := ?_) rfl (by kernel_rfl) (by kernel_rfl) (by kernel_rfl) (fun _ _ _ h => h) (Or.inl ⟨by rfl, ?_⟩) (by assumption) ?_
    rotate_left
    · (intro wq hSw; (try dsimp only at hSw); go_simp; try with_reducible rfl)
    try simp only [Act.put, List.getElem_toArray, List.getElem_cons_succ, List.getElem_cons_zero, List.setIfInBounds_toArray, List.set_cons_zero, List.set_cons_succ]
    refine wpAnyH_done (by kernel_rfl) ?_ _
    go_wp2_with fail
    refine bodyPost_ret (results_w3e rfl rfl hz4 (v := .int .i64 0) rfl) rfl ?_
    refine ⟨?_, hk0.trans hk4 (by simp)⟩
    simp only
    rw [wraps_u64 c.r (by omega) (by omega), wraps_u64 c.w (by omega) (by omega), wraps_u64 (c.w * 2097152) (by omega) (by omega), hQ.out]
    rfl
  · have hE : wordsE c = (zeroW, 2) := if_neg hv
    rw [hE]
    rw [show validC c = false by simpa using hv] at hV
    clear hv hE hb
    go_enter Tryd.func26, Tryd.ntmps26
    go_upto_region 1 with fail
    rw [← hW0]
    clear hW0
    go_wp2_with (refine wpList_load_cel rfl rfl w.heap.size 0 rfl r0 ?_)
    refine (hV.out _ (Kept.refl _ _)).mono ?_
    rintro e w1 ⟨rfl, hk1⟩
    clear r0
    have z1 := hz0.out.kept hk1 (by simp)
    go_wp2_with (refine wpList_store_w3 rfl rfl rfl (w.heap.size + 1) rfl z1 zeroW rfl ?_; intro w2 hz2 hk2)
    refine bodyPost_ret (results_w3e rfl rfl hz2 (v := .int .i64 2) rfl) rfl ?_
    exact ⟨rfl, (hk0.trans hk1 (by simp)).trans hk2 (by simp)⟩
end Go.Proofs.YtpdjlollijbdeaaDoor
