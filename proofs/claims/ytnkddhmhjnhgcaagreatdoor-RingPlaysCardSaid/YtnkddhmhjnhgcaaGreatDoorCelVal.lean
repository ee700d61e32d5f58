/- cell.Valid, cell.Empty. -/
import Derived.Test.YtnkddhmhjnhgcaaGreatDoorCelMk
namespace Go.Proofs.YtnkddhmhjnhgcaaGreatDoor
open Go.RowKit
set_option linter.unusedVariables false
set_option maxRecDepth 100000

set_option maxHeartbeats 1000000 in
theorem cvalid_any (c : Cl) (w : World) (ht : Tabs w) : Calls Tryz.prog 74 #[.agg #[.int .i32 c.r, .int .i32 c.m0, .int .i32 c.m1, .int .i32 c.m2, .int .i64 c.w, .int .i64 c.p.f.k, .int .u8 c.p.f.i, .int .u8 c.p.f.r, .int .u8 c.p.f.g, .int .u8 c.p.f.b, .int .i64 c.p.b.k, .int .u8 c.p.b.i, .int .u8 c.p.b.r, .int .u8 c.p.b.g, .int .u8 c.p.b.b, .int .u8 c.p.fl]] w fun e w' => e = .returned (.bool (validC c)) ∧ Kept [] w w' := by
  obtain ⟨W0, hW0⟩ : ∃ x : World, x = w.alloc (.cells #[.int .i32 c.r, .int .i32 c.m0, .int .i32 c.m1, .int .i32 c.m2, .int .i64 c.w, .int .i64 c.p.f.k, .int .u8 c.p.f.i, .int .u8 c.p.f.r, .int .u8 c.p.f.g, .int .u8 c.p.f.b, .int .i64 c.p.b.k, .int .u8 c.p.b.i, .int .u8 c.p.b.r, .int .u8 c.p.b.g, .int .u8 c.p.b.b, .int .u8 c.p.fl] 86) := ⟨_, rfl⟩
  have hk0 : Kept [] w W0 := by rw [hW0]; exact (Kept.refl [] w).alloc _
  have hc0 : Hid (CelIn W0 w.heap.size c) := hide (by rw [hW0]; exact CelIn.new w c)
  have hP := hide (fun b h w1 => valid_is c.p b h w1)
  have hWr := hide (fun w1 => Written_any c w1)
  have hS := hide (fun w1 => spacer_any c w1)
  have hO := hide (fun w1 (hk : Kept [] W0 w1) => of_any c.r w1 ((ht.kept hk0).kept hk))
  have hI := hide (fun w1 (hk : Kept [] W0 w1) => inOrder_any c.m0 c.m1 c.m2 w1 ((ht.kept hk0).kept hk))
  have hU := hide (fun w1 => unmarked_any c.m0 c.m1 c.m2 w1)
  have hR := hide (show validC c = (decide (penOk c.p) && (if c.r = 0 then (decide (c.w = 1) || decide (c.w = 0)) && unmI c.m0 c.m1 c.m2 else decide (0 < c.w) && decide (c.w = ofI c.r) && ordI c.m0 c.m1 c.m2)) from rfl)
  generalize validC c = R at *
  generalize unmI c.m0 c.m1 c.m2 = um at *
  generalize ordI c.m0 c.m1 c.m2 = od at *
  generalize ofI c.r = o at *
  clear ht
  go_enter Tryz.func74, Tryz.ntmps74
  go_upto_region 1 with fail
  rw [← hW0]
  clear hW0
  obtain ⟨q0, q1, q2, q3, q4, q5, q6, q7, q8, q9, q10, q11, q12, q13, q14, q15⟩ := hc0.out.at
  go_wp2_with fail
  refine (hP.out _ rfl _).mono ?_
  rintro e w1 ⟨rfl, hk1⟩
  clear q0 q1 q2 q3 q4 q5 q6 q7 q8 q9 q10 q11 q12 q13 q14 q15
  cases hpk : decide (penOk c.p)
  · go_wp2_with fail
    go_ret
    exact ⟨ret_bool (by rw [hR.out, hpk]; rfl), hk0.trans hk1 (by simp)⟩
  · obtain ⟨q0, q1, q2, q3, q4, q5, q6, q7, q8, q9, q10, q11, q12, q13, q14, q15⟩ := (hc0.out.kept hk1 (by simp)).at
    go_wp2_with fail
    refine (hWr.out _).mono ?_
    rintro e w2 ⟨rfl, hk2'⟩
    have hk2 := hk1.trans hk2' (by simp)
    clear q0 q1 q2 q3 q4 q5 q6 q7 q8 q9 q10 q11 q12 q13 q14 q15 hk1 hk2'
    by_cases hr0 : c.r = 0
    · have hd : decide (c.r = 0) = true := decide_eq_true hr0
      have hr := hide hr0
      clear hr0
      obtain ⟨q0, q1, q2, q3, q4, q5, q6, q7, q8, q9, q10, q11, q12, q13, q14, q15⟩ := (hc0.out.kept hk2 (by simp)).at
      by_cases h10 : c.w = 1
      · have hb1 : (c.w == 1) = true := by simpa using h10
        have h1 := hide h10
        clear h10
        go_wp2_with fail
        refine (hU.out _).mono ?_
        rintro e w3 ⟨rfl, hk3⟩
        go_wp2_with fail
        go_ret
        exact ⟨ret_bool (by rw [hR.out, hpk, if_pos hr.out, h1.out]; rfl), hk0.trans (hk2.trans hk3 (by simp)) (by simp)⟩
      · have hb1 : (c.w == 1) = false := by simpa using h10
        have h1 := hide h10
        clear h10
        go_wp2_with fail
        refine (hS.out _).mono ?_
        rintro e w3 ⟨rfl, hk3'⟩
        have hk3 := hk2.trans hk3' (by simp)
        clear q0 q1 q2 q3 q4 q5 q6 q7 q8 q9 q10 q11 q12 q13 q14 q15
        by_cases h20 : c.w = 0
        · have hd0 : decide (c.w = 0) = true := decide_eq_true h20
          have h2 := hide h20
          clear h20
          obtain ⟨q0, q1, q2, q3, q4, q5, q6, q7, q8, q9, q10, q11, q12, q13, q14, q15⟩ := (hc0.out.kept hk3 (by simp)).at
          go_wp2_with fail
          refine (hU.out _).mono ?_
          rintro e w4 ⟨rfl, hk4⟩
          go_wp2_with fail
          go_ret
          exact ⟨ret_bool (by rw [hR.out, hpk, if_pos hr.out, h2.out]; rfl), hk0.trans (hk3.trans hk4 (by simp)) (by simp)⟩
        · have hd0 : decide (c.w = 0) = false := decide_eq_false h20
          have h2 := hide h20
          clear h20
          go_wp2_with fail
          go_ret
          exact ⟨ret_bool (by rw [hR.out, hpk, if_pos hr.out]; simp [h1.out, h2.out]), hk0.trans hk3 (by simp)⟩
    · have hd : decide (c.r = 0) = false := decide_eq_false hr0
      have hr := hide hr0
      clear hr0
      go_upto_region 4 with fail
      obtain ⟨q0, q1, q2, q3, q4, q5, q6, q7, q8, q9, q10, q11, q12, q13, q14, q15⟩ := (hc0.out.kept hk2 (by simp)).at
      by_cases h1 : 0 < c.w
      · have hg : decide (0 < c.w) = true := decide_eq_true h1
        by_cases h20 : c.w = o
        · have hg2 : (c.w == o) = true := by simpa using h20
          have h2 := hide h20
          clear h20
          go_region_held3 (fun w' => w'.cell? ⟨w.heap.size, 0, none⟩ = some (.int .i32 c.r) ∧ w'.cell? ⟨w.heap.size, 1, none⟩ = some (.int .i32 c.m0) ∧ w'.cell? ⟨w.heap.size, 2, none⟩ = some (.int .i32 c.m1) ∧ w'.cell? ⟨w.heap.size, 3, none⟩ = some (.int .i32 c.m2) ∧ w'.cell? ⟨w.heap.size, 4, none⟩ = some (.int .i64 c.w) ∧ w'.cell? ⟨w.heap.size, 5, none⟩ = some (.int .i64 c.p.f.k) ∧ w'.cell? ⟨w.heap.size, 6, none⟩ = some (.int .u8 c.p.f.i) ∧ w'.cell? ⟨w.heap.size, 7, none⟩ = some (.int .u8 c.p.f.r) ∧ w'.cell? ⟨w.heap.size, 8, none⟩ = some (.int .u8 c.p.f.g) ∧ w'.cell? ⟨w.heap.size, 9, none⟩ = some (.int .u8 c.p.f.b) ∧ w'.cell? ⟨w.heap.size, 10, none⟩ = some (.int .i64 c.p.b.k) ∧ w'.cell? ⟨w.heap.size, 11, none⟩ = some (.int .u8 c.p.b.i) ∧ w'.cell? ⟨w.heap.size, 12, none⟩ = some (.int .u8 c.p.b.r) ∧ w'.cell? ⟨w.heap.size, 13, none⟩ = some (.int .u8 c.p.b.g) ∧ w'.cell? ⟨w.heap.size, 14, none⟩ = some (.int .u8 c.p.b.b) ∧ w'.cell? ⟨w.heap.size, 15, none⟩ = some (.int .u8 c.p.fl))
            (first
              | exact (hc0.out.kept hk4 (by simp)).at
              | exact (hc0.out.kept hk3 (by simp)).at
              | exact (hc0.out.kept hk2.drew (by simp)).at)
            (first
              | (go_at_call 82; refine (hO.out w2.drew hk2.drew).mono ?_; rintro e w3 ⟨rfl, hj3⟩; have hk3 : Kept [] W0 w3 := hk2.drew.trans hj3 (by simp))
              | (go_at_call 83; refine (hI.out w3 hk3).mono ?_; rintro e w4 ⟨rfl, hj4⟩; have hk4 : Kept [] W0 w4 := hk3.trans hj4 (by simp)))
          go_wp2_with fail
          go_ret
          exact ⟨ret_bool (by rw [hR.out, hpk, if_neg hr.out, hg, decide_eq_true h2.out]; simp), hk0.trans hk4 (by simp)⟩
        · have hg2 : (c.w == o) = false := by simpa using h20
          have h2 := hide h20
          clear h20
          refine wp_region_held_drew (S := (fun w' => w'.cell? ⟨w.heap.size, 0, none⟩ = some (.int .i32 c.r) ∧ w'.cell? ⟨w.heap.size, 1, none⟩ = some (.int .i32 c.m0) ∧ w'.cell? ⟨w.heap.size, 2, none⟩ = some (.int .i32 c.m1) ∧ w'.cell? ⟨w.heap.size, 3, none⟩ = some (.int .i32 c.m2) ∧ w'.cell? ⟨w.heap.size, 4, none⟩ = some (.int .i64 c.w) ∧ w'.cell? ⟨w.heap.size, 5, none⟩ = some (.int .i64 c.p.f.k) ∧ w'.cell? ⟨w.heap.size, 6, none⟩ = some (.int .u8 c.p.f.i) ∧ w'.cell? ⟨w.heap.size, 7, none⟩ = some (.int .u8 c.p.f.r) ∧ w'.cell? ⟨w.heap.size, 8, none⟩ = some (.int .u8 c.p.f.g) ∧ w'.cell? ⟨w.heap.size, 9, none⟩ = some (.int .u8 c.p.f.b) ∧ w'.cell? ⟨w.heap.size, 10, none⟩ = some (.int .i64 c.p.b.k) ∧ w'.cell? ⟨w.heap.size, 11, none⟩ = some (.int .u8 c.p.b.i) ∧ w'.cell? ⟨w.heap.size, 12, none⟩ = some (.int .u8 c.p.b.r) ∧ w'.cell? ⟨w.heap.size, 13, none⟩ = some (.int .u8 c.p.b.g) ∧ w'.cell? ⟨w.heap.size, 14, none⟩ = some (.int .u8 c.p.b.b) ∧ w'.cell? ⟨w.heap.size, 15, none⟩ = some (.int .u8 c.p.fl))) (by kernel_rfl) ?_ (fun hHeld => ?_)
          · (try dsimp only); (first | exact (hc0.out.kept hk3 (by simp)).at | exact (hc0.out.kept hk2.drew (by simp)).at)
          refine wpAnyH_take (i := 0) (v := ?_) rfl (by kernel_rfl) (by kernel_rfl) (by kernel_rfl) (fun _ _ _ h => h) (Or.inl ⟨by rfl, ?_⟩) (by assumption) ?_
          rotate_left
          · (intro wq hSw; (try dsimp only at hSw); go_simp; try with_reducible rfl)
          try simp only [Act.put, List.getElem_toArray, List.getElem_cons_zero, List.setIfInBounds_toArray, List.set_cons_zero, List.set_cons_succ]
          refine wpAnyH_take (i := 1) (v := ?_) rfl (by kernel_rfl) (by kernel_rfl) (by kernel_rfl) (fun _ _ _ h => h) (Or.inl ⟨by rfl, ?_⟩) (by assumption) ?_
          rotate_left
          · (intro wq hSw; (try dsimp only at hSw); go_simp; try with_reducible rfl)
          try simp only [Act.put, List.getElem_toArray, List.getElem_cons_succ, List.getElem_cons_zero, List.setIfInBounds_toArray, List.set_cons_zero, List.set_cons_succ]
          refine wpAnyH_take (i := 2) (v := ?_) rfl (by kernel_rfl) (by kernel_rfl) (by kernel_rfl) (fun _ _ _ h => h) (Or.inl ⟨by rfl, ?_⟩) (by assumption) ?_
          rotate_left
          · (intro wq hSw; (try dsimp only at hSw); go_simp; try with_reducible rfl)
          try simp only [Act.put, List.getElem_toArray, List.getElem_cons_succ, List.getElem_cons_zero, List.setIfInBounds_toArray, List.set_cons_zero, List.set_cons_succ]
          refine wpAnyH_take (i := 3) (v := ?_) rfl (by kernel_rfl) (by kernel_rfl) (by kernel_rfl) (fun _ _ _ h => h) (Or.inl ⟨by rfl, ?_⟩) (by assumption) ?_
          rotate_left
          · (intro wq hSw; (try dsimp only at hSw); go_simp; try with_reducible rfl)
          try simp only [Act.put, List.getElem_toArray, List.getElem_cons_succ, List.getElem_cons_zero, List.setIfInBounds_toArray, List.set_cons_zero, List.set_cons_succ]
          refine wpAnyH_take (i := 4) (v := ?_) rfl (by kernel_rfl) (by kernel_rfl) (by kernel_rfl) (fun _ _ _ h => h) (Or.inl ⟨by rfl, ?_⟩) (by assumption) ?_
          rotate_left
          · (intro wq hSw; (try dsimp only at hSw); go_simp; try with_reducible rfl)
          try simp only [Act.put, List.getElem_toArray, List.getElem_cons_succ, List.getElem_cons_zero, List.setIfInBounds_toArray, List.set_cons_zero, List.set_cons_succ]
          refine wpAnyH_take (i := 5) (v := ?_) rfl (by kernel_rfl) (by kernel_rfl) (by kernel_rfl) (fun _ _ _ h => h) (Or.inl ⟨by rfl, ?_⟩) (by assumption) ?_
          rotate_left
          · (intro wq hSw; (try dsimp only at hSw); go_simp; try with_reducible rfl)
          try simp only [Act.put, List.getElem_toArray, List.getElem_cons_succ, List.getElem_cons_zero, List.setIfInBounds_toArray, List.set_cons_zero, List.set_cons_succ]
          refine wpAnyH_take (i := 6) (v := ?_) rfl (by kernel_rfl) (by kernel_rfl) (by kernel_rfl) (fun _ _ _ h => h) (Or.inl ⟨by rfl, ?_⟩) (by assumption) ?_
          rotate_left
          · (intro wq hSw; (try dsimp only at hSw); go_simp; try with_reducible rfl)
          try simp only [Act.put, List.getElem_toArray, List.getElem_cons_succ, List.getElem_cons_zero, List.setIfInBounds_toArray, List.set_cons_zero, List.set_cons_succ]
          refine wpAnyH_take (i := 7) (v := ?_) rfl (by kernel_rfl) (by kernel_rfl) (by kernel_rfl) (fun _ _ _ h => h) (Or.inl ⟨by rfl, ?_⟩) (by assumption) ?_
          rotate_left
          · (intro wq hSw; (try dsimp only at hSw); go_simp; try with_reducible rfl)
          try simp only [Act.put, List.getElem_toArray, List.getElem_cons_succ, List.getElem_cons_zero, List.setIfInBounds_toArray, List.set_cons_zero, List.set_cons_succ]
          refine wpAnyH_ready (rs := [8]) (by kernel_rfl) (by simp) ?_
          refine AllReadyH.cons rfl (fun K hK => ?_) AllReadyH.nil
          go_simp
          refine (hO.out w2.drew hk2.drew).mono ?_; rintro e w3 ⟨rfl, hj3⟩; have hk3 : Kept [] W0 w3 := hk2.drew.trans hj3 (by simp)
          try go_wp2_with fail
          refine hK.out _ _ ?_ (fun hHeld => ?_)
          · (try dsimp only); (first | exact (hc0.out.kept hk3 (by simp)).at | exact (hc0.out.kept hk2.drew (by simp)).at)
          clear hK K
          try simp only [Act.put, List.getElem_toArray, List.getElem_cons_succ, List.getElem_cons_zero, List.setIfInBounds_toArray, List.set_cons_zero, List.set_cons_succ]
          refine wpAnyH_take (i := 9) (v := ?_) rfl (by kernel_rfl) (by kernel_rfl) (by kernel_rfl) (fun _ _ _ h => h) (Or.inl ⟨by rfl, ?_⟩) (by assumption) ?_
          rotate_left
          · (intro wq hSw; (try dsimp only at hSw); go_simp; try with_reducible rfl)
          try simp only [Act.put, List.getElem_toArray, List.getElem_cons_succ, List.getElem_cons_zero, List.setIfInBounds_toArray, List.set_cons_zero, List.set_cons_succ]
          refine wpAnyH_take (i := 10) (v := ?_) rfl (by kernel_rfl) (by kernel_rfl) (by kernel_rfl) (fun _ _ _ h => h) (Or.inl ⟨by rfl, ?_⟩) (by assumption) ?_
          rotate_left
          · (intro wq hSw; (try dsimp only at hSw); go_simp; try with_reducible rfl)
          try simp only [Act.put, List.getElem_toArray, List.getElem_cons_succ, List.getElem_cons_zero, List.setIfInBounds_toArray, List.set_cons_zero, List.set_cons_succ]
          refine wpAnyH_take (i := 11) (v := ?_) rfl (by kernel_rfl) (by kernel_rfl) (by kernel_rfl) (fun _ _ _ h => h) (Or.inl ⟨by rfl, ?_⟩) (by assumption) ?_
          rotate_left
          · (intro wq hSw; (try dsimp only at hSw); go_simp; try with_reducible rfl)
          try simp only [Act.put, List.getElem_toArray, List.getElem_cons_succ, List.getElem_cons_zero, List.setIfInBounds_toArray, List.set_cons_zero, List.set_cons_succ]
          refine wpAnyH_take (i := 12) (v := undef) rfl (by kernel_rfl) (by kernel_rfl) (by kernel_rfl) (fun _ _ _ h => h) (Or.inr ⟨by rfl, rfl⟩) (by assumption) ?_
          try simp only [Act.put, List.getElem_toArray, List.getElem_cons_succ, List.getElem_cons_zero, List.setIfInBounds_toArray, List.set_cons_zero, List.set_cons_succ]
          refine wpAnyH_take (i := 13) (v := undef) rfl (by kernel_rfl) (by kernel_rfl) (by kernel_rfl) (fun _ _ _ h => h) (Or.inr ⟨by rfl, rfl⟩) (by assumption) ?_
          try simp only [Act.put, List.getElem_toArray, List.getElem_cons_succ, List.getElem_cons_zero, List.setIfInBounds_toArray, List.set_cons_zero, List.set_cons_succ]
          refine wpAnyH_take (i := 14) (v := undef) rfl (by kernel_rfl) (by kernel_rfl) (by kernel_rfl) (fun _ _ _ h => h) (Or.inr ⟨by rfl, rfl⟩) (by assumption) ?_
          try simp only [Act.put, List.getElem_toArray, List.getElem_cons_succ, List.getElem_cons_zero, List.setIfInBounds_toArray, List.set_cons_zero, List.set_cons_succ]
          refine wpAnyH_take (i := 15) (v := ?_) rfl (by kernel_rfl) (by kernel_rfl) (by kernel_rfl) (fun _ _ _ h => h) (Or.inl ⟨by rfl, ?_⟩) (by assumption) ?_
          rotate_left
          · (intro wq hSw; (try dsimp only at hSw); go_simp; try with_reducible rfl)
          try simp only [Act.put, List.getElem_toArray, List.getElem_cons_succ, List.getElem_cons_zero, List.setIfInBounds_toArray, List.set_cons_zero, List.set_cons_succ]
          refine wpAnyH_take (i := 16) (v := ?_) rfl (by kernel_rfl) (by kernel_rfl) (by kernel_rfl) (fun _ _ _ h => h) (Or.inl ⟨by rfl, ?_⟩) (by assumption) ?_
          rotate_left
          · (intro wq hSw; (try dsimp only at hSw); go_simp; try with_reducible rfl)
          try simp only [Act.put, List.getElem_toArray, List.getElem_cons_succ, List.getElem_cons_zero, List.setIfInBounds_toArray, List.set_cons_zero, List.set_cons_succ]
          refine wpAnyH_done (by kernel_rfl) ?_ _
          go_wp2_with fail
          go_ret
          exact ⟨ret_bool (by rw [hR.out, hpk, if_neg hr.out, hg, decide_eq_false h2.out]; simp), hk0.trans hk3 (by simp)⟩
      · have hg : decide (0 < c.w) = false := decide_eq_false h1
        go_quiet (fail)
        go_wp2_with fail
        go_ret
        exact ⟨ret_bool (by rw [hR.out, hpk, if_neg hr.out, hg]; simp), hk0.trans (hk2.drewN _) (by simp)⟩

end Go.Proofs.YtnkddhmhjnhgcaaGreatDoor
