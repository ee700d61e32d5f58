/- Layer 9: Within, Clamp, Step, Distance. -/
import Derived.Test.YtnkddhmhjnhgcaaDoorPlBox
namespace Go.Proofs.YtnkddhmhjnhgcaaDoor
open Go.RowKit
set_option linter.unusedVariables false
set_option linter.unusedSimpArgs false
set_option maxRecDepth 100000

set_option maxHeartbeats 1000000 in
theorem Within_any (p f t : Pl) (w : World) : Calls Tryd.prog 28 #[.agg #[.int .i64 p.l, .int .i64 p.c], .agg #[.int .i64 f.l, .int .i64 f.c], .agg #[.int .i64 t.l, .int .i64 t.c]] w fun e w' => e = .returned (.bool (withP p f t)) ∧ Kept [] w w' := by
  have hR := hide (show withP p f t = decide (cmpP f p ≤ 0 ∧ cmpP p t < 0) from rfl)
  have h1 := hide (fun w => Compare_any f p w)
  have h2 := hide (fun w => Compare_any p t w)
  generalize withP p f t = R at *
  generalize cmpP f p = C at *
  generalize cmpP p t = D at *
  have hk0 : Kept [] w (((w.alloc (.cells #[.int .i64 p.l, .int .i64 p.c] 49)).alloc (.cells #[.int .i64 f.l, .int .i64 f.c] 49)).alloc (.cells #[.int .i64 t.l, .int .i64 t.c] 49)) := (((Kept.refl [] w).alloc _).alloc _).alloc _
  have x0 : PlB (((w.alloc (.cells #[.int .i64 p.l, .int .i64 p.c] 49)).alloc (.cells #[.int .i64 f.l, .int .i64 f.c] 49)).alloc (.cells #[.int .i64 t.l, .int .i64 t.c] 49)) w.heap.size p := (PlB.new w p).kept (((Kept.refl [] _).alloc _).alloc _) (by simp)
  have x2 : PlB (((w.alloc (.cells #[.int .i64 p.l, .int .i64 p.c] 49)).alloc (.cells #[.int .i64 f.l, .int .i64 f.c] 49)).alloc (.cells #[.int .i64 t.l, .int .i64 t.c] 49)) (w.heap.size + 1 + 1) t := PlB.newAt _ t (by simp)
  obtain ⟨pl, pc⟩ := p
  obtain ⟨fl, fc⟩ := f
  obtain ⟨tl, tc⟩ := t
  go_enter Tryd.func28, Tryd.ntmps28
  go_wp2_with fail
  refine (h1.out _).mono ?_
  rintro e w1 ⟨rfl, j1⟩
  have kw := hk0.trans j1 (by simp)
  replace x0 := x0.kept j1 (by simp)
  replace x2 := x2.kept j1 (by simp)
  have c0 := x0.c0
  have c1 := x0.c1
  have d0 := x2.c0
  have d1 := x2.c1
  simp only at c0 c1 d0 d1
  clear hk0 j1 x0 x2
  generalize w.heap.size = b at *
  by_cases hC : C ≤ 0
  · go_wp2_with fail
    refine (h2.out _).mono ?_
    rintro e w2 ⟨rfl, j2⟩
    by_cases hD : D < 0
    · go_wp2_with fail
      go_ret
      exact ⟨ret_bool (by rw [hR.out]; simp; omega), kw.trans j2 (by simp)⟩
    · go_wp2_with fail
      go_ret
      exact ⟨ret_bool (by rw [hR.out]; simp; omega), kw.trans j2 (by simp)⟩
  · go_wp2_with fail
    go_ret
    exact ⟨ret_bool (by rw [hR.out]; simp; omega), kw⟩
set_option maxHeartbeats 1000000 in
theorem Distance_any (a b : Pl) (c : Int) (w : World) : Calls Tryd.prog 36 #[.agg #[.int .i64 a.l, .int .i64 a.c], .agg #[.int .i64 b.l, .int .i64 b.c], .int .i64 c] w fun e w' => e = .returned (.tuple #[.int .i64 (distP a b c).1, .int .i64 (distP a b c).2]) ∧ Kept [] w w' := by
  have hR := hide (show distP a b c = if inP a c = false ∨ inP b c = false then (0, 2) else (cellP b c - cellP a c, 0) from rfl)
  have h1 := hide (fun w => isCell_any a c w)
  have h2 := hide (fun w => isCell_any b c w)
  have hk0 : Kept [] w ((w.alloc (.cells #[.int .i64 a.l, .int .i64 a.c] 49)).alloc (.cells #[.int .i64 b.l, .int .i64 b.c] 49)) := ((Kept.refl [] w).alloc _).alloc _
  have x0 : PlB ((w.alloc (.cells #[.int .i64 a.l, .int .i64 a.c] 49)).alloc (.cells #[.int .i64 b.l, .int .i64 b.c] 49)) w.heap.size a := (PlB.new w a).kept ((Kept.refl [] _).alloc _) (by simp)
  have x1 : PlB ((w.alloc (.cells #[.int .i64 a.l, .int .i64 a.c] 49)).alloc (.cells #[.int .i64 b.l, .int .i64 b.c] 49)) (w.heap.size + 1) b := PlB.newAt _ b (by simp)
  have hA : inP a c = true → Hid (∀ w, Calls Tryd.prog 64 #[.agg #[.int .i64 a.l, .int .i64 a.c], .int .i64 c] w fun e w' => e = .returned (.int .i64 (cellP a c)) ∧ Kept [] w w') := fun h => hide (fun w => cellsBefore_any a c (by have := cell_bound h; have := (inP_iff a c).1 h; unfold cellP at *; unfold Wd; omega) (by have := cell_bound h; unfold Wd; omega) w)
  have hB : inP b c = true → Hid (∀ w, Calls Tryd.prog 64 #[.agg #[.int .i64 b.l, .int .i64 b.c], .int .i64 c] w fun e w' => e = .returned (.int .i64 (cellP b c)) ∧ Kept [] w w') := fun h => hide (fun w => cellsBefore_any b c (by have := cell_bound h; have := (inP_iff b c).1 h; unfold cellP at *; unfold Wd; omega) (by have := cell_bound h; unfold Wd; omega) w)
  have hbA := fun h : inP a c = true => cell_bound h
  have hbB := fun h : inP b c = true => cell_bound h
  generalize distP a b c = R at *
  generalize cellP a c = ca at *
  generalize cellP b c = cb at *
  generalize lastP c = L at *
  generalize inP a c = ia at *
  generalize inP b c = ib at *
  obtain ⟨al, ac⟩ := a
  obtain ⟨bl, bc⟩ := b
  go_enter Tryd.func36, Tryd.ntmps36
  go_wp2_with fail
  refine (h1.out _).mono ?_
  rintro e w1 ⟨rfl, j1⟩
  have kw := hk0.trans j1 (by simp)
  replace x0 := x0.kept j1 (by simp)
  replace x1 := x1.kept j1 (by simp)
  clear hk0 j1
  have d0 := x1.c0
  have d1 := x1.c1
  simp only at d0 d1
  generalize w.heap.size = g at *
  cases ia with
  | false =>
    go_wp2_with fail
    refine bodyPost_ret (v := .tuple #[.int .i64 0, .int .i64 2]) (by simp [results, Tryd.results36, go_sem]) rfl ?_
    exact ⟨by rw [hR.out, if_pos (.inl (by simp))], kw⟩
  | true =>
    go_wp2_with fail
    refine (h2.out _).mono ?_
    rintro e w2 ⟨rfl, j2⟩
    have kw2 := kw.trans j2 (by simp)
    replace x0 := x0.kept j2 (by simp)
    replace x1 := x1.kept j2 (by simp)
    clear d0 d1 j2
    cases ib with
    | false =>
      go_wp2_with fail
      refine bodyPost_ret (v := .tuple #[.int .i64 0, .int .i64 2]) (by simp [results, Tryd.results36, go_sem]) rfl ?_
      exact ⟨by rw [hR.out, if_pos (.inr (by simp))], kw2⟩
    | true =>
      replace hA := hA (by simp)
      replace hB := hB (by simp)
      have hs : IntKind.i64.wrap (cb - ca) = cb - ca := IntWalk.i64_in _ (by have := hbA (by simp); have := hbB (by simp); omega)
      have c0 := x0.c0
      have c1 := x0.c1
      have d0 := x1.c0
      have d1 := x1.c1
      simp only at c0 c1 d0 d1
      clear x0 x1 kw h1 h2 hbA hbB
      go_upto_region 3 with fail
      refine wp_region_held_drew (S := (fun w' => (w'.cell? ⟨g, 0, none⟩ = some (.int .i64 al) ∧ w'.cell? ⟨g, 1, none⟩ = some (.int .i64 ac)) ∧ (w'.cell? ⟨g + 1, 0, none⟩ = some (.int .i64 bl) ∧ w'.cell? ⟨g + 1, 1, none⟩ = some (.int .i64 bc)))) (by kernel_rfl) ?_ (fun hHeld => ?_)
      · (try dsimp only); (first | exact ⟨⟨k4.cell c0 (by simp), k4.cell c1 (by simp)⟩, ⟨k4.cell d0 (by simp), k4.cell d1 (by simp)⟩⟩ | exact ⟨⟨k3.cell c0 (by simp), k3.cell c1 (by simp)⟩, ⟨k3.cell d0 (by simp), k3.cell d1 (by simp)⟩⟩ | exact ⟨⟨((Kept.refl [] w2).drew).cell c0 (by simp), ((Kept.refl [] w2).drew).cell c1 (by simp)⟩, ⟨((Kept.refl [] w2).drew).cell d0 (by simp), ((Kept.refl [] w2).drew).cell d1 (by simp)⟩⟩)
      refine wpAnyH_take (i := 0) (v := ?_) rfl (by kernel_rfl) (by kernel_rfl) (by kernel_rfl) (fun _ _ _ h => h) (Or.inl ⟨by rfl, ?_⟩) (by assumption) ?_
      rotate_left
      · (intro wq hSw; (try dsimp only at hSw); go_simp; try with_reducible rfl)
      try simp only [Act.put, List.getElem_toArray, List.getElem_cons_zero, List.setIfInBounds_toArray, List.set_cons_zero, List.set_cons_succ]
      refine wpAnyH_take (i := 1) (v := ?_) rfl (by kernel_rfl) (by kernel_rfl) (by kernel_rfl) (fun _ _ _ h => h) (Or.inl ⟨by rfl, ?_⟩) (by assumption) ?_
      rotate_left
      · (intro wq hSw; (try dsimp only at hSw); go_simp; try with_reducible rfl)
      try simp only [Act.put, List.getElem_toArray, List.getElem_cons_succ, List.getElem_cons_zero, List.setIfInBounds_toArray, List.set_cons_zero, List.set_cons_succ]
      refine wpAnyH_take (i := 3) (v := ?_) rfl (by kernel_rfl) (by kernel_rfl) (by kernel_rfl) (fun _ _ _ h => h) (Or.inl ⟨by rfl, ?_⟩) (by assumption) ?_
      rotate_left
      · (intro wq hSw; (try dsimp only at hSw); go_simp; try with_reducible rfl)
      try simp only [Act.put, List.getElem_toArray, List.getElem_cons_succ, List.getElem_cons_zero, List.setIfInBounds_toArray, List.set_cons_zero, List.set_cons_succ]
      refine wpAnyH_take (i := 4) (v := ?_) rfl (by kernel_rfl) (by kernel_rfl) (by kernel_rfl) (fun _ _ _ h => h) (Or.inl ⟨by rfl, ?_⟩) (by assumption) ?_
      rotate_left
      · (intro wq hSw; (try dsimp only at hSw); go_simp; try with_reducible rfl)
      try simp only [Act.put, List.getElem_toArray, List.getElem_cons_succ, List.getElem_cons_zero, List.setIfInBounds_toArray, List.set_cons_zero, List.set_cons_succ]
      refine wpAnyH_ready (rs := [2]) (by kernel_rfl) (by simp) ?_
      refine AllReadyH.cons rfl (fun K hK => ?_) AllReadyH.nil
      go_simp
      refine (hB.out _).mono ?_; rintro e w3 ⟨rfl, j3⟩; have k3 : Kept [] w2 w3 := (Kept.refl [] w2).drew.trans j3 (by simp)
      try go_wp2_with fail
      refine hK.out _ _ ?_ (fun hHeld => ?_)
      · (try dsimp only); (first | exact ⟨⟨k4.cell c0 (by simp), k4.cell c1 (by simp)⟩, ⟨k4.cell d0 (by simp), k4.cell d1 (by simp)⟩⟩ | exact ⟨⟨k3.cell c0 (by simp), k3.cell c1 (by simp)⟩, ⟨k3.cell d0 (by simp), k3.cell d1 (by simp)⟩⟩ | exact ⟨⟨((Kept.refl [] w2).drew).cell c0 (by simp), ((Kept.refl [] w2).drew).cell c1 (by simp)⟩, ⟨((Kept.refl [] w2).drew).cell d0 (by simp), ((Kept.refl [] w2).drew).cell d1 (by simp)⟩⟩)
      clear hK K
      try simp only [Act.put, List.getElem_toArray, List.getElem_cons_succ, List.getElem_cons_zero, List.setIfInBounds_toArray, List.set_cons_zero, List.set_cons_succ]
      refine wpAnyH_ready (rs := [5]) (by kernel_rfl) (by simp) ?_
      refine AllReadyH.cons rfl (fun K hK => ?_) AllReadyH.nil
      go_simp
      refine (hA.out _).mono ?_; rintro e w4 ⟨rfl, j4⟩; have k4 : Kept [] w2 w4 := k3.trans j4 (by simp)
      try go_wp2_with fail
      refine hK.out _ _ ?_ (fun hHeld => ?_)
      · (try dsimp only); (first | exact ⟨⟨k4.cell c0 (by simp), k4.cell c1 (by simp)⟩, ⟨k4.cell d0 (by simp), k4.cell d1 (by simp)⟩⟩ | exact ⟨⟨k3.cell c0 (by simp), k3.cell c1 (by simp)⟩, ⟨k3.cell d0 (by simp), k3.cell d1 (by simp)⟩⟩ | exact ⟨⟨((Kept.refl [] w2).drew).cell c0 (by simp), ((Kept.refl [] w2).drew).cell c1 (by simp)⟩, ⟨((Kept.refl [] w2).drew).cell d0 (by simp), ((Kept.refl [] w2).drew).cell d1 (by simp)⟩⟩)
      clear hK K
      try simp only [Act.put, List.getElem_toArray, List.getElem_cons_succ, List.getElem_cons_zero, List.setIfInBounds_toArray, List.set_cons_zero, List.set_cons_succ]
      refine wpAnyH_take (i := 6) (v := ?_) rfl (by kernel_rfl) (by kernel_rfl) (by kernel_rfl) (fun _ _ _ h => h) (Or.inl ⟨by rfl, ?_⟩) (by assumption) ?_
      rotate_left
      · (intro wq hSw; (try dsimp only at hSw); go_simp; try with_reducible rfl)
      try simp only [Act.put, List.getElem_toArray, List.getElem_cons_succ, List.getElem_cons_zero, List.setIfInBounds_toArray, List.set_cons_zero, List.set_cons_succ]
      refine wpAnyH_take (i := 7) (v := ?_) rfl (by kernel_rfl) (by kernel_rfl) (by kernel_rfl) (fun _ _ _ h => h) (Or.inl ⟨by rfl, ?_⟩) (by assumption) ?_
      rotate_left
      · (intro wq hSw; (try dsimp only at hSw); go_simp; try with_reducible rfl)
      try simp only [Act.put, List.getElem_toArray, List.getElem_cons_succ, List.getElem_cons_zero, List.setIfInBounds_toArray, List.set_cons_zero, List.set_cons_succ]
      refine wpAnyH_take (i := 8) (v := ?_) rfl (by kernel_rfl) (by kernel_rfl) (by kernel_rfl) (fun _ _ _ h => h) (Or.inl ⟨by rfl, ?_⟩) (by assumption) ?_
      rotate_left
      · (intro wq hSw; (try dsimp only at hSw); go_simp; try with_reducible rfl)
      try simp only [Act.put, List.getElem_toArray, List.getElem_cons_succ, List.getElem_cons_zero, List.setIfInBounds_toArray, List.set_cons_zero, List.set_cons_succ]
      refine wpAnyH_done (by kernel_rfl) ?_ _
      go_wp2_with fail
      refine bodyPost_ret (v := .tuple #[.int .i64 (cb - ca), .int .i64 0]) (by simp [results, Tryd.results36, go_sem]) rfl ?_
      exact ⟨by rw [hR.out, if_neg (by simp)], kw2.trans k4 (by simp)⟩
set_option maxHeartbeats 1000000 in
theorem Clamp_any (p : Pl) (f n c : Int) (w : World) : Calls Tryd.prog 61 #[.agg #[.int .i64 p.l, .int .i64 p.c], .int .i64 f, .int .i64 n, .int .i64 c] w fun e w' => e = .returned (.tuple #[.agg #[.int .i64 (clampP p f n c).1.l, .int .i64 (clampP p f n c).1.c], .int .i64 (clampP p f n c).2]) ∧ Kept [] w w' := by
  have hR := hide (show clampP p f n c = if f < 0 ∨ n ≤ f ∨ 1099511627777 < n ∨ colP c = false then (p0, 2) else if p.l < f then (⟨f, 0⟩, 0) else if n ≤ p.l then (⟨n - 1, c - 1⟩, 0) else (⟨p.l, min (max p.c 0) (c - 1)⟩, 0) from rfl)
  have h1 := hide (fun w => validColumns_any c w)
  have hk0 : Kept [] w ((w.alloc (.cells #[.int .i64 p.l, .int .i64 p.c] 49)).alloc (.cells #[.int .i64 0, .int .i64 0] 49)) := ((Kept.refl [] w).alloc _).alloc _
  have x0 : PlB ((w.alloc (.cells #[.int .i64 p.l, .int .i64 p.c] 49)).alloc (.cells #[.int .i64 0, .int .i64 0] 49)) w.heap.size p := (PlB.new w p).kept ((Kept.refl [] _).alloc _) (by simp)
  have x1 : PlB ((w.alloc (.cells #[.int .i64 p.l, .int .i64 p.c] 49)).alloc (.cells #[.int .i64 0, .int .i64 0] 49)) (w.heap.size + 1) p0 := PlB.newAt _ p0 (by simp)
  have hcI := fun h : colP c = true => (colP_iff c).1 h
  generalize clampP p f n c = R at *
  generalize colP c = K at *
  obtain ⟨pl, pc⟩ := p
  simp only at hR
  go_enter Tryd.func61, Tryd.ntmps61
  go_upto_region 1 with fail
  obtain ⟨W0, hW0⟩ : ∃ x : World, x = (w.alloc (.cells #[.int .i64 pl, .int .i64 pc] 49)).alloc (.cells #[.int .i64 0, .int .i64 0] 49) := ⟨_, rfl⟩
  simp only at hk0 x0 x1
  rw [← hW0] at hk0 x0 x1 ⊢
  clear hW0
  have kw := hk0
  clear hk0
  generalize hg : w.heap.size = g at *
  replace hg := hide hg
  have b0 := x0.c0
  have b1 := x0.c1
  have b2 := x0.f1
  have d0 := x1.c0
  have d1 := x1.c1
  have f0 := x1.f0
  have f1 := x1.f1
  simp only at b0 b1 d0 d1
  by_cases h2 : f < 0
  · go_wp2_with fail
    refine bodyPost_ret (results_pl2 (v := .int .i64 2) rfl rfl (x1.set p0) rfl) rfl ?_
    exact ⟨by rw [hR.out, if_pos (.inl h2)], kw.trans (kept_set _ _ _ _) (fun x hx => .inr (by have := hg.out; simp at hx; omega))⟩
  · by_cases h3 : n ≤ f
    · go_wp2_with fail
      refine bodyPost_ret (results_pl2 (v := .int .i64 2) rfl rfl (x1.set p0) rfl) rfl ?_
      exact ⟨by rw [hR.out, if_pos (.inr (.inl h3))], kw.trans (kept_set _ _ _ _) (fun x hx => .inr (by have := hg.out; simp at hx; omega))⟩
    · by_cases h4 : n > 1099511627777
      · go_wp2_with fail
        refine bodyPost_ret (results_pl2 (v := .int .i64 2) rfl rfl (x1.set p0) rfl) rfl ?_
        exact ⟨by rw [hR.out, if_pos (.inr (.inr (.inl h4)))], kw.trans (kept_set _ _ _ _) (fun x hx => .inr (by have := hg.out; simp at hx; omega))⟩
      · go_wp2_with fail
        refine (h1.out _).mono ?_
        rintro e w1 ⟨rfl, rfl⟩
        cases K with
        | false =>
          go_wp2_with fail
          refine bodyPost_ret (results_pl2 (v := .int .i64 2) rfl rfl (x1.set p0) rfl) rfl ?_
          exact ⟨by rw [hR.out, if_pos (.inr (.inr (.inr (by simp))))], kw.trans (kept_set _ _ _ _) (fun x hx => .inr (by have := hg.out; simp at hx; omega))⟩
        | true =>
          have hc := hide (hcI rfl)
          have hR1 := hide (show R = if pl < f then (⟨f, 0⟩, 0) else if n ≤ pl then (⟨n - 1, c - 1⟩, 0) else (⟨pl, min (max pc 0) (c - 1)⟩, 0) by rw [hR.out, if_neg (by simp; omega)])
          clear hR hcI
          have hR := hR1
          clear hR1
          have e1 : IntKind.i64.wrap (c - 1) = c - 1 := IntWalk.i64_in _ (by have := hc.out; omega)
          have e2 : IntKind.i64.wrap (n - 1) = n - 1 := IntWalk.i64_in _ (by omega)
          by_cases h5 : pl < f
          · go_wp2_with fail
            refine bodyPost_ret (results_pl2 (v := .int .i64 0) rfl rfl (x1.set ⟨f, 0⟩) rfl) rfl ?_
            exact ⟨by rw [hR.out, if_pos h5], kw.trans (kept_set _ _ _ _) (fun x hx => .inr (by have := hg.out; simp at hx; omega))⟩
          · by_cases h6 : n ≤ pl
            · go_wp2_with fail
              refine (lastCell_any (n - 1) c (by have := hc.out; omega) _).mono ?_
              rintro e w1 ⟨rfl, j1⟩
              replace x1 := x1.kept j1 (by simp)
              replace kw := kw.trans j1 (by simp)
              clear d0 d1 f0 f1 b0 b1 b2
              have d0 := x1.c0
              have d1 := x1.c1
              have f0 := x1.f0
              have f1 := x1.f1
              go_wp2_with fail
              refine bodyPost_ret (results_pl2 (v := .int .i64 0) rfl rfl (x1.set ⟨n - 1, c - 1⟩) rfl) rfl ?_
              exact ⟨by rw [hR.out, if_neg (by omega), if_pos h6], kw.trans (kept_set _ _ _ _) (fun x hx => .inr (by have := hg.out; simp at hx; omega))⟩
            · go_upto_region 8 with fail
              generalize hu : (if pc < 0 then 0 else pc) = u
              generalize hm : (if c - 1 < u then c - 1 else u) = m
              have hme := hide (show min (max pc 0) (c - 1) = m by rw [← hm, ← hu]; split <;> split <;> omega)
              replace hm := hide hm
              replace hu := hide hu
              have hw0 : PlB (w1.setCell ⟨g, 1, none⟩ (.int .i64 m)) g ⟨pl, m⟩ := x0.set1 _
              have hw1 : PlB (w1.setCell ⟨g, 1, none⟩ (.int .i64 m)) (g + 1) p0 := x1.kept (kept_set1 _ _ _) (by simp)
              have kz := kw.trans (kept_set1 w1 g (.int .i64 m)) (fun x hx => .inr (by have := hg.out; simp at hx; omega))
              generalize w1.setCell ⟨g, 1, none⟩ (.int .i64 m) = w2 at *
              clear x0 x1 b0 b1 b2 d0 d1 f0 f1
              have b0 := hw0.c0
              have b1 := hw0.c1
              have d0 := hw1.c0
              have d1 := hw1.c1
              have f0 := hw1.f0
              have f1 := hw1.f1
              simp only at b0 b1
              go_wp2_with fail
              refine bodyPost_ret (results_pl2 (v := .int .i64 0) rfl rfl (hw1.set ⟨pl, m⟩) rfl) rfl ?_
              exact ⟨by rw [hR.out, if_neg (by omega), if_neg (by omega), hme.out], kz.trans (kept_set _ _ _ _) (fun x hx => .inr (by have := hg.out; simp at hx; omega))⟩
end Go.Proofs.YtnkddhmhjnhgcaaDoor
