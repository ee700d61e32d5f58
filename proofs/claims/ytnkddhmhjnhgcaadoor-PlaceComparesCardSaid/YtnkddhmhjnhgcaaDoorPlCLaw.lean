/- Layer 9: the laws PlaceClamps, PlaceSteps, PlaceCompares. -/
import Derived.Test.YtnkddhmhjnhgcaaDoorPlRef
import Derived.Test.YtnkddhmhjnhgcaaDoorPlKn
namespace Go.Proofs.YtnkddhmhjnhgcaaDoor
open Go.RowKit Go.Sort
set_option linter.unusedVariables false
set_option linter.unusedSimpArgs false
set_option maxRecDepth 100000

theorem pl_neq2 (p q : Pl) (w : World) : (binOp .neq 49 (.agg #[.int .i64 p.l, .int .i64 p.c]) (.agg #[.int .i64 q.l, .int .i64 q.c])).run Tryd.prog w = .ok (.bool (!decide (p = q))) w := by
  obtain ⟨a, b⟩ := p
  obtain ⟨c, d⟩ := q
  rcases Classical.em (¬ a = c) with h0 | h0
  · rw [show decide ((⟨a, b⟩ : Pl) = ⟨c, d⟩) = false from decide_eq_false (fun h => h0 (by injection h))]
    go_simp
  · replace h0 := Classical.not_not.1 h0
    rcases Classical.em (¬ b = d) with h1 | h1
    · rw [show decide ((⟨a, b⟩ : Pl) = ⟨c, d⟩) = false from decide_eq_false (fun h => h1 (by injection h))]
      go_simp
    · replace h1 := Classical.not_not.1 h1
      subst h0 h1
      rw [decide_eq_true rfl]
      go_simp
theorem pl_eql2 (p q : Pl) (w : World) : (binOp .eql 49 (.agg #[.int .i64 p.l, .int .i64 p.c]) (.agg #[.int .i64 q.l, .int .i64 q.c])).run Tryd.prog w = .ok (.bool (decide (p = q))) w := by
  obtain ⟨a, b⟩ := p
  obtain ⟨c, d⟩ := q
  rcases Classical.em (¬ a = c) with h0 | h0
  · rw [show decide ((⟨a, b⟩ : Pl) = ⟨c, d⟩) = false from decide_eq_false (fun h => h0 (by injection h))]
    go_simp
  · replace h0 := Classical.not_not.1 h0
    rcases Classical.em (¬ b = d) with h1 | h1
    · rw [show decide ((⟨a, b⟩ : Pl) = ⟨c, d⟩) = false from decide_eq_false (fun h => h1 (by injection h))]
      go_simp
    · replace h1 := Classical.not_not.1 h1
      subst h0 h1
      rw [decide_eq_true rfl]
      go_simp
theorem rBefore_is (a b : Pl) (v : Bool) (h : befP a b = v) (w : World) : Calls Tryd.prog 23 #[.agg #[.int .i64 a.l, .int .i64 a.c], .agg #[.int .i64 b.l, .int .i64 b.c]] w fun e w' => e = .returned (.bool v) ∧ Kept [] w w' := by
  subst h
  exact rBefore_any a b w
set_option maxHeartbeats 4000000 in
theorem placeClamps_any (p : Pl) (f n c : Int) (w : World) (ht : PlT w) : Calls Tryd.prog 6 #[.agg #[.int .i64 p.l, .int .i64 p.c], .int .i64 f, .int .i64 n, .int .i64 c] w fun e w' => e = .returned (.bool true) ∧ Kept [] w w' := by
  have hKn := hide (fun w1 (hk : Kept [] w w1) => known9_any w1 (ht.kept hk))
  clear ht
  have hR := hide (fun w => rClamp_any p f n c w)
  obtain ⟨⟨Q, z⟩, hq⟩ : ∃ R, clampP p f n c = R := ⟨_, rfl⟩
  have hC := hide (fun w => clamps_any p f n c Q z true (by rw [hq]; simp) w)
  rw [hq] at hR
  simp only at hR
  clear hq
  have hk0 : Kept [] w (w.alloc (.cells #[.int .i64 p.l, .int .i64 p.c] 49)) := (Kept.refl [] w).alloc _
  have x0 := PlB.new w p
  go_enter Tryd.func6, Tryd.ntmps6
  go_wp2_with fail
  refine (hR.out _).mono ?_
  rintro e w1 ⟨rfl, j1⟩
  have k1 := hide ((hk0.trans j1 (by simp)).alloc (.cells #[.int .i64 Q.l, .int .i64 Q.c] 49))
  have x1 := (x0.kept j1 (by simp)).kept ((Kept.refl [] w1).alloc (.cells #[.int .i64 Q.l, .int .i64 Q.c] 49)) (by simp)
  have c0 := (x0.kept j1 (by simp)).c0
  have c1 := (x0.kept j1 (by simp)).c1
  have hlt := (x0.kept j1 (by simp)).lt
  go_wp2_with fail
  refine (hC.out _).mono ?_
  rintro e w2 ⟨rfl, j2⟩
  go_wp2_with fail
  refine (hKn.out _ (k1.out.trans j2 (by simp))).mono ?_
  rintro e w3 ⟨rfl, j3⟩
  go_wp2_with fail
  go_ret
  exact ⟨rfl, (k1.out.trans j2 (by simp)).trans j3 (by simp)⟩
set_option maxHeartbeats 4000000 in
theorem placeSteps_any (p q : Pl) (n c : Int) (hn : Wd n) (w : World) (ht : PlT w) : Calls Tryd.prog 7 #[.agg #[.int .i64 p.l, .int .i64 p.c], .agg #[.int .i64 q.l, .int .i64 q.c], .int .i64 n, .int .i64 c] w fun e w' => e = .returned (.bool true) ∧ Kept [] w w' := by
  have hKn := hide (fun w1 (hk : Kept [] w w1) => known9_any w1 (ht.kept hk))
  clear ht
  have hR := hide (fun w => rStep_any p n c hn w)
  obtain ⟨⟨Q, z⟩, hq⟩ : ∃ R, stepP p n c = R := ⟨_, rfl⟩
  have hC := hide (fun w => steps_any p n c hn Q z true (by rw [hq]; simp) w)
  rw [hq] at hR
  simp only at hR
  clear hq
  have hI1 := hide (fun w => rIn_any p c w)
  have hI2 := hide (fun w => rIn_any q c w)
  have hk0 : Kept [] w ((w.alloc (.cells #[.int .i64 p.l, .int .i64 p.c] 49)).alloc (.cells #[.int .i64 q.l, .int .i64 q.c] 49)) := ((Kept.refl [] w).alloc _).alloc _
  have x0 : PlB ((w.alloc (.cells #[.int .i64 p.l, .int .i64 p.c] 49)).alloc (.cells #[.int .i64 q.l, .int .i64 q.c] 49)) w.heap.size p := (PlB.new w p).kept ((Kept.refl [] _).alloc _) (by simp)
  have y0 : PlB ((w.alloc (.cells #[.int .i64 p.l, .int .i64 p.c] 49)).alloc (.cells #[.int .i64 q.l, .int .i64 q.c] 49)) (w.heap.size + 1) q := PlB.newAt _ q (by simp)
  go_enter Tryd.func7, Tryd.ntmps7
  go_wp2_with fail
  refine (hR.out _).mono ?_
  rintro e w1 ⟨rfl, j1⟩
  have k1 := hide ((hk0.trans j1 (by simp)).alloc (.cells #[.int .i64 Q.l, .int .i64 Q.c] 49))
  have x1 := hide ((x0.kept j1 (by simp)).kept ((Kept.refl [] w1).alloc (.cells #[.int .i64 Q.l, .int .i64 Q.c] 49)) (by simp))
  have y1 := hide ((y0.kept j1 (by simp)).kept ((Kept.refl [] w1).alloc (.cells #[.int .i64 Q.l, .int .i64 Q.c] 49)) (by simp))
  have c0 := (x0.kept j1 (by simp)).c0
  have c1 := (x0.kept j1 (by simp)).c1
  have hlt := (x0.kept j1 (by simp)).lt
  generalize w.heap.size = g at *
  go_wp2_with fail
  refine (hC.out _).mono ?_
  rintro e w2 ⟨rfl, j2⟩
  have k2 := hide (k1.out.trans j2 (by simp))
  have x2 := hide (x1.out.kept j2 (by simp))
  have y2 := hide (y1.out.kept j2 (by simp))
  clear c0 c1 hlt x0 y0 x1 y1 k1 j1 j2 hk0
  have c0 := x2.out.c0
  have c1 := x2.out.c1
  go_wp2_with fail
  refine (hI1.out _).mono ?_
  rintro e w3 ⟨rfl, j3⟩
  have k3 := hide (k2.out.trans j3 (by simp))
  have x3 := hide (x2.out.kept j3 (by simp))
  have y3 := hide (y2.out.kept j3 (by simp))
  clear c0 c1 x2 y2 k2 j3
  have c0 := x3.out.c0
  have c1 := x3.out.c1
  have d0 := y3.out.c0
  have d1 := y3.out.c1
  cases h1 : inP p c with
  | false =>
    have hD := hide (fun w => distance_any p q c 0 2 true (by unfold distP; rw [if_pos (.inl h1)]; simp) w)
    have h1 := hide h1
    go_wp2_with fail
    refine (hD.out _).mono ?_
    rintro e w4 ⟨rfl, j4⟩
    go_wp2_with fail
    refine (hKn.out _ (k3.out.trans j4 (by simp))).mono ?_
    rintro e w5 ⟨rfl, j5⟩
    go_wp2_with fail
    go_ret
    exact ⟨rfl, (k3.out.trans j4 (by simp)).trans j5 (by simp)⟩
  | true =>
    have h1' := hide h1
    go_wp2_with fail
    refine (hI2.out _).mono ?_
    rintro e w4 ⟨rfl, j4⟩
    have k4 := hide (k3.out.trans j4 (by simp))
    have x4 := hide (x3.out.kept j4 (by simp))
    have y4 := hide (y3.out.kept j4 (by simp))
    clear c0 c1 d0 d1 x3 y3 k3 j4
    have c0 := x4.out.c0
    have c1 := x4.out.c1
    have d0 := y4.out.c0
    have d1 := y4.out.c1
    cases h2 : inP q c with
    | false =>
      have hD := hide (fun w => distance_any p q c 0 2 true (by unfold distP; rw [if_pos (.inr h2)]; simp) w)
      have h2 := hide h2
      clear h1
      go_wp2_with fail
      refine (hD.out _).mono ?_
      rintro e w5 ⟨rfl, j5⟩
      go_wp2_with fail
      refine (hKn.out _ (k4.out.trans j5 (by simp))).mono ?_
      rintro e w6 ⟨rfl, j6⟩
      go_wp2_with fail
      go_ret
      exact ⟨rfl, (k4.out.trans j5 (by simp)).trans j6 (by simp)⟩
    | true =>
      have hDs : distP p q c = (cellP q c - cellP p c, 0) := by unfold distP; rw [if_neg (by simp [h1, h2])]
      have hD := hide (fun w => Distance_any p q c w)
      rw [hDs] at hD
      simp only at hD
      have hb1 := cell_bound h1
      have hb2 := cell_bound h2
      have hS := hide (fun w => rStep_any p (cellP q c - cellP p c) c (by unfold Wd; omega) w)
      rw [step_dist h1 h2] at hS
      simp only at hS
      clear hDs hb1 hb2 h1
      have h2 := hide h2
      generalize cellP q c - cellP p c = D at *
      have hne := fun w => pl_eql2 q q w
      rw [decide_eq_true rfl] at hne
      go_wp2_with fail
      refine (hD.out _).mono ?_
      rintro e w5 ⟨rfl, j5⟩
      have k5 := hide (k4.out.trans j5 (by simp))
      have x5 := hide (x4.out.kept j5 (by simp))
      have y5 := hide (y4.out.kept j5 (by simp))
      clear c0 c1 d0 d1 x4 y4 k4 j5
      have c0 := x5.out.c0
      have c1 := x5.out.c1
      go_wp2_with fail
      refine (hS.out _).mono ?_
      rintro e w6 ⟨rfl, j6⟩
      have k6 := hide ((k5.out.trans j6 (by simp)).alloc (.cells #[.int .i64 q.l, .int .i64 q.c] 49))
      have y6 := hide (y5.out.kept j6 (by simp))
      clear c0 c1 x5 y5 k5 j6
      have d0 := y6.out.c0
      have d1 := y6.out.c1
      have hlt := y6.out.lt
      go_wp2_with fail
      refine (hKn.out _ k6.out).mono ?_
      rintro e w7 ⟨rfl, j7⟩
      go_wp2_with fail
      go_ret
      exact ⟨rfl, k6.out.trans j7 (by simp)⟩
set_option maxHeartbeats 4000000 in
theorem placeCompares_any (a b c : Pl) (w : World) (ht : PlT w) : Calls Tryd.prog 5 #[.agg #[.int .i64 a.l, .int .i64 a.c], .agg #[.int .i64 b.l, .int .i64 b.c], .agg #[.int .i64 c.l, .int .i64 c.c]] w fun e w' => e = .returned (.bool true) ∧ Kept [] w w' := by
  have hKn := hide (fun w1 (hk : Kept [] w w1) => known9_any w1 (ht.kept hk))
  clear ht
  have hk0 := hide (show Kept [] w (((w.alloc (.cells #[.int .i64 a.l, .int .i64 a.c] 49)).alloc (.cells #[.int .i64 b.l, .int .i64 b.c] 49)).alloc (.cells #[.int .i64 c.l, .int .i64 c.c] 49)) from (((Kept.refl [] w).alloc _).alloc _).alloc _)
  have xa0 := hide (show PlB (((w.alloc (.cells #[.int .i64 a.l, .int .i64 a.c] 49)).alloc (.cells #[.int .i64 b.l, .int .i64 b.c] 49)).alloc (.cells #[.int .i64 c.l, .int .i64 c.c] 49)) w.heap.size a from (PlB.new w a).kept (((Kept.refl [] _).alloc _).alloc _) (by simp))
  have xb0 := hide (show PlB (((w.alloc (.cells #[.int .i64 a.l, .int .i64 a.c] 49)).alloc (.cells #[.int .i64 b.l, .int .i64 b.c] 49)).alloc (.cells #[.int .i64 c.l, .int .i64 c.c] 49)) (w.heap.size + 1) b from (PlB.newAt _ b (by simp)).kept ((Kept.refl [] _).alloc _) (by simp))
  have xc0 := hide (show PlB (((w.alloc (.cells #[.int .i64 a.l, .int .i64 a.c] 49)).alloc (.cells #[.int .i64 b.l, .int .i64 b.c] 49)).alloc (.cells #[.int .i64 c.l, .int .i64 c.c] 49)) (w.heap.size + 1 + 1) c from PlB.newAt _ c (by simp))
  rcases cmpP_cases a b with ⟨hb1, hX⟩ | ⟨hb2, hX⟩ | ⟨hab, hX⟩
  · have hb2 := bef_irr hb1
    have hC1 := hide (fun w => Compare_is a b (-1) hX w)
    have hC2 := hide (fun w => Compare_is b a 1 (by rw [cmpP_neg a b, hX] <;> rfl) w)
    have hOr := hide (fun w => Order_is a b a b (by unfold ordP; rw [cmpP_neg a b, hX] <;> rfl) w)
    have hW0 : withP a b c = (false && befP a c) := by
      unfold withP
      rw [cmpP_neg a b, hX, Bool.eq_iff_iff]
      simp [cmpP_lt]
    have hWi := hide (fun w => Within_is a b c _ hW0 w)
    have hB1 := hide (fun w => rBefore_is a b true hb1 w)
    have hB2 := hide (fun w => rBefore_is b a false hb2 w)
    have hB3 := hide (fun w => rBefore_any a c w)
    have hV1 := hide (fun w => Valid_any a w)
    have hV2 := hide (fun w => rValid_any a w)
    generalize befP a c = B3 at *
    generalize vP a = V at *
    have hX := hide hX
    have hb1 := hide hb1
    have hb2 := hide hb2
    clear hW0
    go_enter Tryd.func5, Tryd.ntmps5
    go_wp2_with fail
    refine (hB1.out _).mono ?_
    rintro e w1 ⟨rfl, j1⟩
    have xa := hide (xa0.out.kept j1 (by simp))
    have xb := hide (xb0.out.kept j1 (by simp))
    have xc := hide (xc0.out.kept j1 (by simp))
    have k1 := hide (hk0.out.trans j1 (by simp))
    clear j1 xa0 xb0 xc0 hk0
    generalize w.heap.size = g at *
    have ca := xa.out.c0
    have da := xa.out.c1
    have cb := xb.out.c0
    have db := xb.out.c1
    have cc := xc.out.c0
    have dc := xc.out.c1
    go_upto_region 6 with fail
    refine wp_region_held_drew (S := (fun w' => (w'.cell? ⟨g, 0, none⟩ = some (.int .i64 a.l) ∧ w'.cell? ⟨g, 1, none⟩ = some (.int .i64 a.c)) ∧ (w'.cell? ⟨g + 1, 0, none⟩ = some (.int .i64 b.l) ∧ w'.cell? ⟨g + 1, 1, none⟩ = some (.int .i64 b.c)) ∧ (w'.cell? ⟨g + 1 + 1, 0, none⟩ = some (.int .i64 c.l) ∧ w'.cell? ⟨g + 1 + 1, 1, none⟩ = some (.int .i64 c.c)))) (by kernel_rfl) ?_ (fun hHeld => ?_)
    · (try dsimp only); (first | exact ⟨⟨m6.cell ca (by simp), m6.cell da (by simp)⟩, ⟨m6.cell cb (by simp), m6.cell db (by simp)⟩, ⟨m6.cell cc (by simp), m6.cell dc (by simp)⟩⟩ | exact ⟨⟨m5.cell ca (by simp), m5.cell da (by simp)⟩, ⟨m5.cell cb (by simp), m5.cell db (by simp)⟩, ⟨m5.cell cc (by simp), m5.cell dc (by simp)⟩⟩ | exact ⟨⟨m4.cell ca (by simp), m4.cell da (by simp)⟩, ⟨m4.cell cb (by simp), m4.cell db (by simp)⟩, ⟨m4.cell cc (by simp), m4.cell dc (by simp)⟩⟩ | exact ⟨⟨m3.cell ca (by simp), m3.cell da (by simp)⟩, ⟨m3.cell cb (by simp), m3.cell db (by simp)⟩, ⟨m3.cell cc (by simp), m3.cell dc (by simp)⟩⟩ | exact ⟨⟨((Kept.refl [] w1).drew).cell ca (by simp), ((Kept.refl [] w1).drew).cell da (by simp)⟩, ⟨((Kept.refl [] w1).drew).cell cb (by simp), ((Kept.refl [] w1).drew).cell db (by simp)⟩, ⟨((Kept.refl [] w1).drew).cell cc (by simp), ((Kept.refl [] w1).drew).cell dc (by simp)⟩⟩)
    refine wpAnyH_take (i := 0) (v := ?_) rfl (by kernel_rfl) (by kernel_rfl) (by kernel_rfl) (fun _ _ _ h => h) (Or.inl ⟨by rfl, ?_⟩) (by assumption) ?_
    rotate_left
    · (intro wq hSw; (try dsimp only at hSw); go_simp; try with_reducible rfl)
    try simp only [Act.put, List.getElem_toArray, List.getElem_cons_zero, List.setIfInBounds_toArray, List.set_cons_zero, List.set_cons_succ]
    refine wpAnyH_take (i := 2) (v := ?_) rfl (by kernel_rfl) (by kernel_rfl) (by kernel_rfl) (fun _ _ _ h => h) (Or.inl ⟨by rfl, ?_⟩) (by assumption) ?_
    rotate_left
    · (intro wq hSw; (try dsimp only at hSw); go_simp; try with_reducible rfl)
    try simp only [Act.put, List.getElem_toArray, List.getElem_cons_succ, List.getElem_cons_zero, List.setIfInBounds_toArray, List.set_cons_zero, List.set_cons_succ]
    refine wpAnyH_ready (rs := [1]) (by kernel_rfl) (by simp) ?_
    refine AllReadyH.cons rfl (fun K hK => ?_) AllReadyH.nil
    go_simp
    refine (hV1.out _).mono ?_; rintro e w3 ⟨rfl, i3⟩; have m3 : Kept [] w1 w3 := (Kept.refl [] w1).drew.trans i3 (by simp)
    try go_wp2_with fail
    refine hK.out _ _ ?_ (fun hHeld => ?_)
    · (try dsimp only); (first | exact ⟨⟨m6.cell ca (by simp), m6.cell da (by simp)⟩, ⟨m6.cell cb (by simp), m6.cell db (by simp)⟩, ⟨m6.cell cc (by simp), m6.cell dc (by simp)⟩⟩ | exact ⟨⟨m5.cell ca (by simp), m5.cell da (by simp)⟩, ⟨m5.cell cb (by simp), m5.cell db (by simp)⟩, ⟨m5.cell cc (by simp), m5.cell dc (by simp)⟩⟩ | exact ⟨⟨m4.cell ca (by simp), m4.cell da (by simp)⟩, ⟨m4.cell cb (by simp), m4.cell db (by simp)⟩, ⟨m4.cell cc (by simp), m4.cell dc (by simp)⟩⟩ | exact ⟨⟨m3.cell ca (by simp), m3.cell da (by simp)⟩, ⟨m3.cell cb (by simp), m3.cell db (by simp)⟩, ⟨m3.cell cc (by simp), m3.cell dc (by simp)⟩⟩ | exact ⟨⟨((Kept.refl [] w1).drew).cell ca (by simp), ((Kept.refl [] w1).drew).cell da (by simp)⟩, ⟨((Kept.refl [] w1).drew).cell cb (by simp), ((Kept.refl [] w1).drew).cell db (by simp)⟩, ⟨((Kept.refl [] w1).drew).cell cc (by simp), ((Kept.refl [] w1).drew).cell dc (by simp)⟩⟩)
    clear hK K
    try simp only [Act.put, List.getElem_toArray, List.getElem_cons_succ, List.getElem_cons_zero, List.setIfInBounds_toArray, List.set_cons_zero, List.set_cons_succ]
    refine wpAnyH_ready (rs := [3]) (by kernel_rfl) (by simp) ?_
    refine AllReadyH.cons rfl (fun K hK => ?_) AllReadyH.nil
    go_simp
    refine (hV2.out _).mono ?_; rintro e w4 ⟨rfl, i4⟩; have m4 : Kept [] w1 w4 := m3.trans i4 (by simp)
    try go_wp2_with fail
    refine hK.out _ _ ?_ (fun hHeld => ?_)
    · (try dsimp only); (first | exact ⟨⟨m6.cell ca (by simp), m6.cell da (by simp)⟩, ⟨m6.cell cb (by simp), m6.cell db (by simp)⟩, ⟨m6.cell cc (by simp), m6.cell dc (by simp)⟩⟩ | exact ⟨⟨m5.cell ca (by simp), m5.cell da (by simp)⟩, ⟨m5.cell cb (by simp), m5.cell db (by simp)⟩, ⟨m5.cell cc (by simp), m5.cell dc (by simp)⟩⟩ | exact ⟨⟨m4.cell ca (by simp), m4.cell da (by simp)⟩, ⟨m4.cell cb (by simp), m4.cell db (by simp)⟩, ⟨m4.cell cc (by simp), m4.cell dc (by simp)⟩⟩ | exact ⟨⟨m3.cell ca (by simp), m3.cell da (by simp)⟩, ⟨m3.cell cb (by simp), m3.cell db (by simp)⟩, ⟨m3.cell cc (by simp), m3.cell dc (by simp)⟩⟩ | exact ⟨⟨((Kept.refl [] w1).drew).cell ca (by simp), ((Kept.refl [] w1).drew).cell da (by simp)⟩, ⟨((Kept.refl [] w1).drew).cell cb (by simp), ((Kept.refl [] w1).drew).cell db (by simp)⟩, ⟨((Kept.refl [] w1).drew).cell cc (by simp), ((Kept.refl [] w1).drew).cell dc (by simp)⟩⟩)
    clear hK K
    try simp only [Act.put, List.getElem_toArray, List.getElem_cons_succ, List.getElem_cons_zero, List.setIfInBounds_toArray, List.set_cons_zero, List.set_cons_succ]
    refine wpAnyH_take (i := 4) (v := ?_) rfl (by kernel_rfl) (by kernel_rfl) (by kernel_rfl) (fun _ _ _ h => h) (Or.inl ⟨by rfl, ?_⟩) (by assumption) ?_
    rotate_left
    · (intro wq hSw; (try dsimp only at hSw); go_simp; try with_reducible rfl)
    try simp only [Act.put, List.getElem_toArray, List.getElem_cons_succ, List.getElem_cons_zero, List.setIfInBounds_toArray, List.set_cons_zero, List.set_cons_succ]
    refine wpAnyH_take (i := 5) (v := ?_) rfl (by kernel_rfl) (by kernel_rfl) (by kernel_rfl) (fun _ _ _ h => h) (Or.inl ⟨by rfl, ?_⟩) (by assumption) ?_
    rotate_left
    · (intro wq hSw; (try dsimp only at hSw); go_simp; try with_reducible rfl)
    try simp only [Act.put, List.getElem_toArray, List.getElem_cons_succ, List.getElem_cons_zero, List.setIfInBounds_toArray, List.set_cons_zero, List.set_cons_succ]
    refine wpAnyH_take (i := 6) (v := ?_) rfl (by kernel_rfl) (by kernel_rfl) (by kernel_rfl) (fun _ _ _ h => h) (Or.inl ⟨by rfl, ?_⟩) (by assumption) ?_
    rotate_left
    · (intro wq hSw; (try dsimp only at hSw); go_simp; try with_reducible rfl)
    try simp only [Act.put, List.getElem_toArray, List.getElem_cons_succ, List.getElem_cons_zero, List.setIfInBounds_toArray, List.set_cons_zero, List.set_cons_succ]
    refine wpAnyH_take (i := 7) (v := ?_) rfl (by kernel_rfl) (by kernel_rfl) (by kernel_rfl) (fun _ _ _ h => h) (Or.inl ⟨by rfl, ?_⟩) (by assumption) ?_
    rotate_left
    · (intro wq hSw; (try dsimp only at hSw); go_simp; try with_reducible rfl)
    try simp only [Act.put, List.getElem_toArray, List.getElem_cons_succ, List.getElem_cons_zero, List.setIfInBounds_toArray, List.set_cons_zero, List.set_cons_succ]
    refine wpAnyH_take (i := 9) (v := ?_) rfl (by kernel_rfl) (by kernel_rfl) (by kernel_rfl) (fun _ _ _ h => h) (Or.inl ⟨by rfl, ?_⟩) (by assumption) ?_
    rotate_left
    · (intro wq hSw; (try dsimp only at hSw); go_simp; try with_reducible rfl)
    try simp only [Act.put, List.getElem_toArray, List.getElem_cons_succ, List.getElem_cons_zero, List.setIfInBounds_toArray, List.set_cons_zero, List.set_cons_succ]
    refine wpAnyH_ready (rs := [8]) (by kernel_rfl) (by simp) ?_
    refine AllReadyH.cons rfl (fun K hK => ?_) AllReadyH.nil
    go_simp
    refine (hC1.out _).mono ?_; rintro e w5 ⟨rfl, i5⟩; have m5 : Kept [] w1 w5 := m4.trans i5 (by simp)
    try go_wp2_with fail
    refine hK.out _ _ ?_ (fun hHeld => ?_)
    · (try dsimp only); (first | exact ⟨⟨m6.cell ca (by simp), m6.cell da (by simp)⟩, ⟨m6.cell cb (by simp), m6.cell db (by simp)⟩, ⟨m6.cell cc (by simp), m6.cell dc (by simp)⟩⟩ | exact ⟨⟨m5.cell ca (by simp), m5.cell da (by simp)⟩, ⟨m5.cell cb (by simp), m5.cell db (by simp)⟩, ⟨m5.cell cc (by simp), m5.cell dc (by simp)⟩⟩ | exact ⟨⟨m4.cell ca (by simp), m4.cell da (by simp)⟩, ⟨m4.cell cb (by simp), m4.cell db (by simp)⟩, ⟨m4.cell cc (by simp), m4.cell dc (by simp)⟩⟩ | exact ⟨⟨m3.cell ca (by simp), m3.cell da (by simp)⟩, ⟨m3.cell cb (by simp), m3.cell db (by simp)⟩, ⟨m3.cell cc (by simp), m3.cell dc (by simp)⟩⟩ | exact ⟨⟨((Kept.refl [] w1).drew).cell ca (by simp), ((Kept.refl [] w1).drew).cell da (by simp)⟩, ⟨((Kept.refl [] w1).drew).cell cb (by simp), ((Kept.refl [] w1).drew).cell db (by simp)⟩, ⟨((Kept.refl [] w1).drew).cell cc (by simp), ((Kept.refl [] w1).drew).cell dc (by simp)⟩⟩)
    clear hK K
    try simp only [Act.put, List.getElem_toArray, List.getElem_cons_succ, List.getElem_cons_zero, List.setIfInBounds_toArray, List.set_cons_zero, List.set_cons_succ]
    refine wpAnyH_take (i := 10) (v := ?_) rfl (by kernel_rfl) (by kernel_rfl) (by kernel_rfl) (fun _ _ _ h => h) (Or.inl ⟨by rfl, ?_⟩) (by assumption) ?_
    rotate_left
    · (intro wq hSw; (try dsimp only at hSw); go_simp; try with_reducible rfl)
    try simp only [Act.put, List.getElem_toArray, List.getElem_cons_succ, List.getElem_cons_zero, List.setIfInBounds_toArray, List.set_cons_zero, List.set_cons_succ]
    refine wpAnyH_take (i := 11) (v := ?_) rfl (by kernel_rfl) (by kernel_rfl) (by kernel_rfl) (fun _ _ _ h => h) (Or.inl ⟨by rfl, ?_⟩) (by assumption) ?_
    rotate_left
    · (intro wq hSw; (try dsimp only at hSw); go_simp; try with_reducible rfl)
    try simp only [Act.put, List.getElem_toArray, List.getElem_cons_succ, List.getElem_cons_zero, List.setIfInBounds_toArray, List.set_cons_zero, List.set_cons_succ]
    refine wpAnyH_take (i := 12) (v := ?_) rfl (by kernel_rfl) (by kernel_rfl) (by kernel_rfl) (fun _ _ _ h => h) (Or.inl ⟨by rfl, ?_⟩) (by assumption) ?_
    rotate_left
    · (intro wq hSw; (try dsimp only at hSw); go_simp; try with_reducible rfl)
    try simp only [Act.put, List.getElem_toArray, List.getElem_cons_succ, List.getElem_cons_zero, List.setIfInBounds_toArray, List.set_cons_zero, List.set_cons_succ]
    refine wpAnyH_take (i := 13) (v := ?_) rfl (by kernel_rfl) (by kernel_rfl) (by kernel_rfl) (fun _ _ _ h => h) (Or.inl ⟨by rfl, ?_⟩) (by assumption) ?_
    rotate_left
    · (intro wq hSw; (try dsimp only at hSw); go_simp; try with_reducible rfl)
    try simp only [Act.put, List.getElem_toArray, List.getElem_cons_succ, List.getElem_cons_zero, List.setIfInBounds_toArray, List.set_cons_zero, List.set_cons_succ]
    refine wpAnyH_take (i := 14) (v := ?_) rfl (by kernel_rfl) (by kernel_rfl) (by kernel_rfl) (fun _ _ _ h => h) (Or.inl ⟨by rfl, ?_⟩) (by assumption) ?_
    rotate_left
    · (intro wq hSw; (try dsimp only at hSw); go_simp; try with_reducible rfl)
    try simp only [Act.put, List.getElem_toArray, List.getElem_cons_succ, List.getElem_cons_zero, List.setIfInBounds_toArray, List.set_cons_zero, List.set_cons_succ]
    refine wpAnyH_take (i := 16) (v := ?_) rfl (by kernel_rfl) (by kernel_rfl) (by kernel_rfl) (fun _ _ _ h => h) (Or.inl ⟨by rfl, ?_⟩) (by assumption) ?_
    rotate_left
    · (intro wq hSw; (try dsimp only at hSw); go_simp; try with_reducible rfl)
    try simp only [Act.put, List.getElem_toArray, List.getElem_cons_succ, List.getElem_cons_zero, List.setIfInBounds_toArray, List.set_cons_zero, List.set_cons_succ]
    refine wpAnyH_take (i := 17) (v := ?_) rfl (by kernel_rfl) (by kernel_rfl) (by kernel_rfl) (fun _ _ _ h => h) (Or.inl ⟨by rfl, ?_⟩) (by assumption) ?_
    rotate_left
    · (intro wq hSw; (try dsimp only at hSw); go_simp; try with_reducible rfl)
    try simp only [Act.put, List.getElem_toArray, List.getElem_cons_succ, List.getElem_cons_zero, List.setIfInBounds_toArray, List.set_cons_zero, List.set_cons_succ]
    refine wpAnyH_ready (rs := [15]) (by kernel_rfl) (by simp) ?_
    refine AllReadyH.cons rfl (fun K hK => ?_) AllReadyH.nil
    go_simp
    refine (hC2.out _).mono ?_; rintro e w6 ⟨rfl, i6⟩; have m6 : Kept [] w1 w6 := m5.trans i6 (by simp)
    try go_wp2_with fail
    refine hK.out _ _ ?_ (fun hHeld => ?_)
    · (try dsimp only); (first | exact ⟨⟨m6.cell ca (by simp), m6.cell da (by simp)⟩, ⟨m6.cell cb (by simp), m6.cell db (by simp)⟩, ⟨m6.cell cc (by simp), m6.cell dc (by simp)⟩⟩ | exact ⟨⟨m5.cell ca (by simp), m5.cell da (by simp)⟩, ⟨m5.cell cb (by simp), m5.cell db (by simp)⟩, ⟨m5.cell cc (by simp), m5.cell dc (by simp)⟩⟩ | exact ⟨⟨m4.cell ca (by simp), m4.cell da (by simp)⟩, ⟨m4.cell cb (by simp), m4.cell db (by simp)⟩, ⟨m4.cell cc (by simp), m4.cell dc (by simp)⟩⟩ | exact ⟨⟨m3.cell ca (by simp), m3.cell da (by simp)⟩, ⟨m3.cell cb (by simp), m3.cell db (by simp)⟩, ⟨m3.cell cc (by simp), m3.cell dc (by simp)⟩⟩ | exact ⟨⟨((Kept.refl [] w1).drew).cell ca (by simp), ((Kept.refl [] w1).drew).cell da (by simp)⟩, ⟨((Kept.refl [] w1).drew).cell cb (by simp), ((Kept.refl [] w1).drew).cell db (by simp)⟩, ⟨((Kept.refl [] w1).drew).cell cc (by simp), ((Kept.refl [] w1).drew).cell dc (by simp)⟩⟩)
    clear hK K
    try simp only [Act.put, List.getElem_toArray, List.getElem_cons_succ, List.getElem_cons_zero, List.setIfInBounds_toArray, List.set_cons_zero, List.set_cons_succ]
    refine wpAnyH_take (i := 18) (v := ?_) rfl (by kernel_rfl) (by kernel_rfl) (by kernel_rfl) (fun _ _ _ h => h) (Or.inl ⟨by rfl, ?_⟩) (by assumption) ?_
    rotate_left
    · (intro wq hSw; (try dsimp only at hSw); go_simp; try with_reducible rfl)
    try simp only [Act.put, List.getElem_toArray, List.getElem_cons_succ, List.getElem_cons_zero, List.setIfInBounds_toArray, List.set_cons_zero, List.set_cons_succ]
    refine wpAnyH_take (i := 19) (v := ?_) rfl (by kernel_rfl) (by kernel_rfl) (by kernel_rfl) (fun _ _ _ h => h) (Or.inl ⟨by rfl, ?_⟩) (by assumption) ?_
    rotate_left
    · (intro wq hSw; (try dsimp only at hSw); go_simp; try with_reducible rfl)
    try simp only [Act.put, List.getElem_toArray, List.getElem_cons_succ, List.getElem_cons_zero, List.setIfInBounds_toArray, List.set_cons_zero, List.set_cons_succ]
    refine wpAnyH_done (by kernel_rfl) ?_ _
    have k6 := hide (k1.out.trans m6 (by simp))
    have xa := hide (xa.out.kept m6 (by simp))
    have xb := hide (xb.out.kept m6 (by simp))
    have xc := hide (xc.out.kept m6 (by simp))
    clear ca da cb db cc dc m3 m4 m5 m6 i3 i4 i5 i6
    have ca := xa.out.c0
    have da := xa.out.c1
    have cb := xb.out.c0
    have db := xb.out.c1
    have cc := xc.out.c0
    have dc := xc.out.c1
    go_wp2_with fail
    refine (hOr.out _).mono ?_
    rintro e w7 ⟨rfl, j7⟩
    go_upto_region 9 with fail
    obtain ⟨w8, hw8⟩ : ∃ z : World, z = (w7.alloc (.cells #[.int .i64 a.l, .int .i64 a.c] 49)).alloc (.cells #[.int .i64 b.l, .int .i64 b.c] 49) := ⟨_, rfl⟩
    have j8 : Kept [] w6 w8 := by rw [hw8]; exact ((j7.alloc _).alloc _)
    have hx : PlB w8 w7.heap.size a := by rw [hw8]; exact (PlB.newAt w7 a rfl).kept ((Kept.refl [] _).alloc _) (by simp)
    have hy : PlB w8 (w7.heap.size + 1) b := by rw [hw8]; exact PlB.newAt _ b (by simp)
    rw [← hw8]
    clear hw8
    generalize w7.heap.size = g7 at *
    have k8 := hide (k6.out.trans j8 (by simp))
    have xa := hide (xa.out.kept j8 (by simp))
    have xb := hide (xb.out.kept j8 (by simp))
    have xc := hide (xc.out.kept j8 (by simp))
    clear ca da cb db cc dc j8 j7 k6
    have ca := xa.out.c0
    have da := xa.out.c1
    have cb := xb.out.c0
    have db := xb.out.c1
    have cc := xc.out.c0
    have dc := xc.out.c1
    have cx := hx.c0
    have dx := hx.c1
    have cy := hy.c0
    have dy := hy.c1
    have n1 := fun w => pl_neq2 a a w
    have n2 := fun w => pl_neq2 b b w
    rw [decide_eq_true rfl, Bool.not_true] at n1 n2
    go_upto_region 11 with fail
    clear cx dx cy dy n1 n2 hx hy
    refine wp_region_held_drew (S := (fun w' => (w'.cell? ⟨g, 0, none⟩ = some (.int .i64 a.l) ∧ w'.cell? ⟨g, 1, none⟩ = some (.int .i64 a.c)) ∧ (w'.cell? ⟨g + 1, 0, none⟩ = some (.int .i64 b.l) ∧ w'.cell? ⟨g + 1, 1, none⟩ = some (.int .i64 b.c)) ∧ (w'.cell? ⟨g + 1 + 1, 0, none⟩ = some (.int .i64 c.l) ∧ w'.cell? ⟨g + 1 + 1, 1, none⟩ = some (.int .i64 c.c)))) (by kernel_rfl) ?_ (fun hHeld => ?_)
    · (try dsimp only); (first | exact ⟨⟨m12.cell ca (by simp), m12.cell da (by simp)⟩, ⟨m12.cell cb (by simp), m12.cell db (by simp)⟩, ⟨m12.cell cc (by simp), m12.cell dc (by simp)⟩⟩ | exact ⟨⟨m10.cell ca (by simp), m10.cell da (by simp)⟩, ⟨m10.cell cb (by simp), m10.cell db (by simp)⟩, ⟨m10.cell cc (by simp), m10.cell dc (by simp)⟩⟩ | exact ⟨⟨m9.cell ca (by simp), m9.cell da (by simp)⟩, ⟨m9.cell cb (by simp), m9.cell db (by simp)⟩, ⟨m9.cell cc (by simp), m9.cell dc (by simp)⟩⟩ | exact ⟨⟨((Kept.refl [] w8).drew).cell ca (by simp), ((Kept.refl [] w8).drew).cell da (by simp)⟩, ⟨((Kept.refl [] w8).drew).cell cb (by simp), ((Kept.refl [] w8).drew).cell db (by simp)⟩, ⟨((Kept.refl [] w8).drew).cell cc (by simp), ((Kept.refl [] w8).drew).cell dc (by simp)⟩⟩)
    refine wpAnyH_take (i := 0) (v := ?_) rfl (by kernel_rfl) (by kernel_rfl) (by kernel_rfl) (fun _ _ _ h => h) (Or.inl ⟨by rfl, ?_⟩) (by assumption) ?_
    rotate_left
    · (intro wq hSw; (try dsimp only at hSw); go_simp; try with_reducible rfl)
    try simp only [Act.put, List.getElem_toArray, List.getElem_cons_zero, List.setIfInBounds_toArray, List.set_cons_zero, List.set_cons_succ]
    refine wpAnyH_take (i := 1) (v := ?_) rfl (by kernel_rfl) (by kernel_rfl) (by kernel_rfl) (fun _ _ _ h => h) (Or.inl ⟨by rfl, ?_⟩) (by assumption) ?_
    rotate_left
    · (intro wq hSw; (try dsimp only at hSw); go_simp; try with_reducible rfl)
    try simp only [Act.put, List.getElem_toArray, List.getElem_cons_succ, List.getElem_cons_zero, List.setIfInBounds_toArray, List.set_cons_zero, List.set_cons_succ]
    refine wpAnyH_take (i := 2) (v := ?_) rfl (by kernel_rfl) (by kernel_rfl) (by kernel_rfl) (fun _ _ _ h => h) (Or.inl ⟨by rfl, ?_⟩) (by assumption) ?_
    rotate_left
    · (intro wq hSw; (try dsimp only at hSw); go_simp; try with_reducible rfl)
    try simp only [Act.put, List.getElem_toArray, List.getElem_cons_succ, List.getElem_cons_zero, List.setIfInBounds_toArray, List.set_cons_zero, List.set_cons_succ]
    refine wpAnyH_take (i := 4) (v := ?_) rfl (by kernel_rfl) (by kernel_rfl) (by kernel_rfl) (fun _ _ _ h => h) (Or.inl ⟨by rfl, ?_⟩) (by assumption) ?_
    rotate_left
    · (intro wq hSw; (try dsimp only at hSw); go_simp; try with_reducible rfl)
    try simp only [Act.put, List.getElem_toArray, List.getElem_cons_succ, List.getElem_cons_zero, List.setIfInBounds_toArray, List.set_cons_zero, List.set_cons_succ]
    refine wpAnyH_take (i := 5) (v := ?_) rfl (by kernel_rfl) (by kernel_rfl) (by kernel_rfl) (fun _ _ _ h => h) (Or.inl ⟨by rfl, ?_⟩) (by assumption) ?_
    rotate_left
    · (intro wq hSw; (try dsimp only at hSw); go_simp; try with_reducible rfl)
    try simp only [Act.put, List.getElem_toArray, List.getElem_cons_succ, List.getElem_cons_zero, List.setIfInBounds_toArray, List.set_cons_zero, List.set_cons_succ]
    refine wpAnyH_ready (rs := [3]) (by kernel_rfl) (by simp) ?_
    refine AllReadyH.cons rfl (fun K hK => ?_) AllReadyH.nil
    go_simp
    refine (hWi.out _).mono ?_; rintro e w9 ⟨rfl, i9⟩; have m9 : Kept [] w8 w9 := (Kept.refl [] w8).drew.trans i9 (by simp)
    try go_wp2_with fail
    refine hK.out _ _ ?_ (fun hHeld => ?_)
    · (try dsimp only); (first | exact ⟨⟨m12.cell ca (by simp), m12.cell da (by simp)⟩, ⟨m12.cell cb (by simp), m12.cell db (by simp)⟩, ⟨m12.cell cc (by simp), m12.cell dc (by simp)⟩⟩ | exact ⟨⟨m10.cell ca (by simp), m10.cell da (by simp)⟩, ⟨m10.cell cb (by simp), m10.cell db (by simp)⟩, ⟨m10.cell cc (by simp), m10.cell dc (by simp)⟩⟩ | exact ⟨⟨m9.cell ca (by simp), m9.cell da (by simp)⟩, ⟨m9.cell cb (by simp), m9.cell db (by simp)⟩, ⟨m9.cell cc (by simp), m9.cell dc (by simp)⟩⟩ | exact ⟨⟨((Kept.refl [] w8).drew).cell ca (by simp), ((Kept.refl [] w8).drew).cell da (by simp)⟩, ⟨((Kept.refl [] w8).drew).cell cb (by simp), ((Kept.refl [] w8).drew).cell db (by simp)⟩, ⟨((Kept.refl [] w8).drew).cell cc (by simp), ((Kept.refl [] w8).drew).cell dc (by simp)⟩⟩)
    clear hK K
    try simp only [Act.put, List.getElem_toArray, List.getElem_cons_succ, List.getElem_cons_zero, List.setIfInBounds_toArray, List.set_cons_zero, List.set_cons_succ]
    refine wpAnyH_ready (rs := [6]) (by kernel_rfl) (by simp) ?_
    refine AllReadyH.cons rfl (fun K hK => ?_) AllReadyH.nil
    go_simp
    refine (hB1.out _).mono ?_; rintro e w10 ⟨rfl, i10⟩; have m10 : Kept [] w8 w10 := m9.trans i10 (by simp)
    try go_wp2_with fail
    refine hK.out _ _ ?_ (fun hHeld => ?_)
    · (try dsimp only); (first | exact ⟨⟨m12.cell ca (by simp), m12.cell da (by simp)⟩, ⟨m12.cell cb (by simp), m12.cell db (by simp)⟩, ⟨m12.cell cc (by simp), m12.cell dc (by simp)⟩⟩ | exact ⟨⟨m10.cell ca (by simp), m10.cell da (by simp)⟩, ⟨m10.cell cb (by simp), m10.cell db (by simp)⟩, ⟨m10.cell cc (by simp), m10.cell dc (by simp)⟩⟩ | exact ⟨⟨m9.cell ca (by simp), m9.cell da (by simp)⟩, ⟨m9.cell cb (by simp), m9.cell db (by simp)⟩, ⟨m9.cell cc (by simp), m9.cell dc (by simp)⟩⟩ | exact ⟨⟨((Kept.refl [] w8).drew).cell ca (by simp), ((Kept.refl [] w8).drew).cell da (by simp)⟩, ⟨((Kept.refl [] w8).drew).cell cb (by simp), ((Kept.refl [] w8).drew).cell db (by simp)⟩, ⟨((Kept.refl [] w8).drew).cell cc (by simp), ((Kept.refl [] w8).drew).cell dc (by simp)⟩⟩)
    clear hK K
    try simp only [Act.put, List.getElem_toArray, List.getElem_cons_succ, List.getElem_cons_zero, List.setIfInBounds_toArray, List.set_cons_zero, List.set_cons_succ]
    refine wpAnyH_take (i := 7) (v := ?_) rfl (by kernel_rfl) (by kernel_rfl) (by kernel_rfl) (fun _ _ _ h => h) (Or.inl ⟨by rfl, ?_⟩) (by assumption) ?_
    rotate_left
    · (intro wq hSw; (try dsimp only at hSw); go_simp; try with_reducible rfl)
    try simp only [Act.put, List.getElem_toArray, List.getElem_cons_succ, List.getElem_cons_zero, List.setIfInBounds_toArray, List.set_cons_zero, List.set_cons_succ]
    refine wpAnyH_take (i := 8) (v := ?_) rfl (by kernel_rfl) (by kernel_rfl) (by kernel_rfl) (fun _ _ _ h => h) (Or.inl ⟨by rfl, ?_⟩) (by assumption) ?_
    rotate_left
    · (intro wq hSw; (try dsimp only at hSw); go_simp; try with_reducible rfl)
    try simp only [Act.put, List.getElem_toArray, List.getElem_cons_succ, List.getElem_cons_zero, List.setIfInBounds_toArray, List.set_cons_zero, List.set_cons_succ]
    refine wpAnyH_take (i := 9) (v := undef) rfl (by kernel_rfl) (by kernel_rfl) (by kernel_rfl) (fun _ _ _ h => h) (Or.inr ⟨by rfl, rfl⟩) (by assumption) ?_
    try simp only [Act.put, List.getElem_toArray, List.getElem_cons_succ, List.getElem_cons_zero, List.setIfInBounds_toArray, List.set_cons_zero, List.set_cons_succ]
    refine wpAnyH_take (i := 10) (v := undef) rfl (by kernel_rfl) (by kernel_rfl) (by kernel_rfl) (fun _ _ _ h => h) (Or.inr ⟨by rfl, rfl⟩) (by assumption) ?_
    try simp only [Act.put, List.getElem_toArray, List.getElem_cons_succ, List.getElem_cons_zero, List.setIfInBounds_toArray, List.set_cons_zero, List.set_cons_succ]
    refine wpAnyH_take (i := 11) (v := undef) rfl (by kernel_rfl) (by kernel_rfl) (by kernel_rfl) (fun _ _ _ h => h) (Or.inr ⟨by rfl, rfl⟩) (by assumption) ?_
    try simp only [Act.put, List.getElem_toArray, List.getElem_cons_succ, List.getElem_cons_zero, List.setIfInBounds_toArray, List.set_cons_zero, List.set_cons_succ]
    refine wpAnyH_take (i := 12) (v := ?_) rfl (by kernel_rfl) (by kernel_rfl) (by kernel_rfl) (fun _ _ _ h => h) (Or.inl ⟨by rfl, ?_⟩) (by assumption) ?_
    rotate_left
    · (intro wq hSw; (try dsimp only at hSw); go_simp; try with_reducible rfl)
    try simp only [Act.put, List.getElem_toArray, List.getElem_cons_succ, List.getElem_cons_zero, List.setIfInBounds_toArray, List.set_cons_zero, List.set_cons_succ]
    refine wpAnyH_take (i := 13) (v := ?_) rfl (by kernel_rfl) (by kernel_rfl) (by kernel_rfl) (fun _ _ _ h => h) (Or.inl ⟨by rfl, ?_⟩) (by assumption) ?_
    rotate_left
    · (intro wq hSw; (try dsimp only at hSw); go_simp; try with_reducible rfl)
    try simp only [Act.put, List.getElem_toArray, List.getElem_cons_succ, List.getElem_cons_zero, List.setIfInBounds_toArray, List.set_cons_zero, List.set_cons_succ]
    refine wpAnyH_take (i := 14) (v := ?_) rfl (by kernel_rfl) (by kernel_rfl) (by kernel_rfl) (fun _ _ _ h => h) (Or.inl ⟨by rfl, ?_⟩) (by assumption) ?_
    rotate_left
    · (intro wq hSw; (try dsimp only at hSw); go_simp; try with_reducible rfl)
    try simp only [Act.put, List.getElem_toArray, List.getElem_cons_succ, List.getElem_cons_zero, List.setIfInBounds_toArray, List.set_cons_zero, List.set_cons_succ]
    refine wpAnyH_ready (rs := [15]) (by kernel_rfl) (by simp) ?_
    refine AllReadyH.cons rfl (fun K hK => ?_) AllReadyH.nil
    go_simp
    refine (hKn.out _ (k8.out.trans m10 (by simp))).mono ?_; rintro e w12 ⟨rfl, i12⟩; have m12 : Kept [] w8 w12 := m10.trans i12 (by simp)
    try go_wp2_with fail
    refine hK.out _ _ ?_ (fun hHeld => ?_)
    · (try dsimp only); (first | exact ⟨⟨m12.cell ca (by simp), m12.cell da (by simp)⟩, ⟨m12.cell cb (by simp), m12.cell db (by simp)⟩, ⟨m12.cell cc (by simp), m12.cell dc (by simp)⟩⟩ | exact ⟨⟨m10.cell ca (by simp), m10.cell da (by simp)⟩, ⟨m10.cell cb (by simp), m10.cell db (by simp)⟩, ⟨m10.cell cc (by simp), m10.cell dc (by simp)⟩⟩ | exact ⟨⟨m9.cell ca (by simp), m9.cell da (by simp)⟩, ⟨m9.cell cb (by simp), m9.cell db (by simp)⟩, ⟨m9.cell cc (by simp), m9.cell dc (by simp)⟩⟩ | exact ⟨⟨((Kept.refl [] w8).drew).cell ca (by simp), ((Kept.refl [] w8).drew).cell da (by simp)⟩, ⟨((Kept.refl [] w8).drew).cell cb (by simp), ((Kept.refl [] w8).drew).cell db (by simp)⟩, ⟨((Kept.refl [] w8).drew).cell cc (by simp), ((Kept.refl [] w8).drew).cell dc (by simp)⟩⟩)
    clear hK K
    try simp only [Act.put, List.getElem_toArray, List.getElem_cons_succ, List.getElem_cons_zero, List.setIfInBounds_toArray, List.set_cons_zero, List.set_cons_succ]
    refine wpAnyH_take (i := 16) (v := ?_) rfl (by kernel_rfl) (by kernel_rfl) (by kernel_rfl) (fun _ _ _ h => h) (Or.inl ⟨by rfl, ?_⟩) (by assumption) ?_
    rotate_left
    · (intro wq hSw; (try dsimp only at hSw); go_simp; try with_reducible rfl)
    try simp only [Act.put, List.getElem_toArray, List.getElem_cons_succ, List.getElem_cons_zero, List.setIfInBounds_toArray, List.set_cons_zero, List.set_cons_succ]
    refine wpAnyH_take (i := 17) (v := ?_) rfl (by kernel_rfl) (by kernel_rfl) (by kernel_rfl) (fun _ _ _ h => h) (Or.inl ⟨by rfl, ?_⟩) (by assumption) ?_
    rotate_left
    · (intro wq hSw; (try dsimp only at hSw); go_simp; try with_reducible rfl)
    try simp only [Act.put, List.getElem_toArray, List.getElem_cons_succ, List.getElem_cons_zero, List.setIfInBounds_toArray, List.set_cons_zero, List.set_cons_succ]
    refine wpAnyH_done (by kernel_rfl) ?_ _
    go_wp2_with fail
    go_ret
    exact ⟨rfl, k8.out.trans m12 (by simp)⟩
  · have hb1 := bef_irr hb2
    have hC1 := hide (fun w => Compare_is a b 1 hX w)
    have hC2 := hide (fun w => Compare_is b a (-1) (by rw [cmpP_neg a b, hX] <;> rfl) w)
    have hOr := hide (fun w => Order_is a b b a (by unfold ordP; rw [cmpP_neg a b, hX] <;> rfl) w)
    have hW0 : withP a b c = (true && befP a c) := by
      unfold withP
      rw [cmpP_neg a b, hX, Bool.eq_iff_iff]
      simp [cmpP_lt]
    have hWi := hide (fun w => Within_is a b c _ hW0 w)
    have hB1 := hide (fun w => rBefore_is a b false hb1 w)
    have hB2 := hide (fun w => rBefore_is b a true hb2 w)
    have hB3 := hide (fun w => rBefore_any a c w)
    have hV1 := hide (fun w => Valid_any a w)
    have hV2 := hide (fun w => rValid_any a w)
    generalize befP a c = B3 at *
    generalize vP a = V at *
    have hX := hide hX
    have hb1 := hide hb1
    have hb2 := hide hb2
    clear hW0
    go_enter Tryd.func5, Tryd.ntmps5
    go_wp2_with fail
    refine (hB1.out _).mono ?_
    rintro e w1 ⟨rfl, j1⟩
    have xa := hide (xa0.out.kept j1 (by simp))
    have xb := hide (xb0.out.kept j1 (by simp))
    have xc := hide (xc0.out.kept j1 (by simp))
    have k1 := hide (hk0.out.trans j1 (by simp))
    clear j1 xa0 xb0 xc0 hk0
    generalize w.heap.size = g at *
    have ca := xa.out.c0
    have da := xa.out.c1
    have cb := xb.out.c0
    have db := xb.out.c1
    have cc := xc.out.c0
    have dc := xc.out.c1
    go_wp2_with fail
    refine (hB2.out _).mono ?_
    rintro e w2 ⟨rfl, j2⟩
    have k2 := hide (k1.out.trans j2 (by simp))
    have xa := hide (xa.out.kept j2 (by simp))
    have xb := hide (xb.out.kept j2 (by simp))
    have xc := hide (xc.out.kept j2 (by simp))
    clear ca da cb db cc dc j2
    have ca := xa.out.c0
    have da := xa.out.c1
    have cb := xb.out.c0
    have db := xb.out.c1
    have cc := xc.out.c0
    have dc := xc.out.c1
    go_upto_region 6 with fail
    refine wp_region_held_drew (S := (fun w' => (w'.cell? ⟨g, 0, none⟩ = some (.int .i64 a.l) ∧ w'.cell? ⟨g, 1, none⟩ = some (.int .i64 a.c)) ∧ (w'.cell? ⟨g + 1, 0, none⟩ = some (.int .i64 b.l) ∧ w'.cell? ⟨g + 1, 1, none⟩ = some (.int .i64 b.c)) ∧ (w'.cell? ⟨g + 1 + 1, 0, none⟩ = some (.int .i64 c.l) ∧ w'.cell? ⟨g + 1 + 1, 1, none⟩ = some (.int .i64 c.c)))) (by kernel_rfl) ?_ (fun hHeld => ?_)
    · (try dsimp only); (first | exact ⟨⟨m6.cell ca (by simp), m6.cell da (by simp)⟩, ⟨m6.cell cb (by simp), m6.cell db (by simp)⟩, ⟨m6.cell cc (by simp), m6.cell dc (by simp)⟩⟩ | exact ⟨⟨m5.cell ca (by simp), m5.cell da (by simp)⟩, ⟨m5.cell cb (by simp), m5.cell db (by simp)⟩, ⟨m5.cell cc (by simp), m5.cell dc (by simp)⟩⟩ | exact ⟨⟨m4.cell ca (by simp), m4.cell da (by simp)⟩, ⟨m4.cell cb (by simp), m4.cell db (by simp)⟩, ⟨m4.cell cc (by simp), m4.cell dc (by simp)⟩⟩ | exact ⟨⟨m3.cell ca (by simp), m3.cell da (by simp)⟩, ⟨m3.cell cb (by simp), m3.cell db (by simp)⟩, ⟨m3.cell cc (by simp), m3.cell dc (by simp)⟩⟩ | exact ⟨⟨((Kept.refl [] w2).drew).cell ca (by simp), ((Kept.refl [] w2).drew).cell da (by simp)⟩, ⟨((Kept.refl [] w2).drew).cell cb (by simp), ((Kept.refl [] w2).drew).cell db (by simp)⟩, ⟨((Kept.refl [] w2).drew).cell cc (by simp), ((Kept.refl [] w2).drew).cell dc (by simp)⟩⟩)
    refine wpAnyH_take (i := 0) (v := ?_) rfl (by kernel_rfl) (by kernel_rfl) (by kernel_rfl) (fun _ _ _ h => h) (Or.inl ⟨by rfl, ?_⟩) (by assumption) ?_
    rotate_left
    · (intro wq hSw; (try dsimp only at hSw); go_simp; try with_reducible rfl)
    try simp only [Act.put, List.getElem_toArray, List.getElem_cons_zero, List.setIfInBounds_toArray, List.set_cons_zero, List.set_cons_succ]
    refine wpAnyH_take (i := 2) (v := ?_) rfl (by kernel_rfl) (by kernel_rfl) (by kernel_rfl) (fun _ _ _ h => h) (Or.inl ⟨by rfl, ?_⟩) (by assumption) ?_
    rotate_left
    · (intro wq hSw; (try dsimp only at hSw); go_simp; try with_reducible rfl)
    try simp only [Act.put, List.getElem_toArray, List.getElem_cons_succ, List.getElem_cons_zero, List.setIfInBounds_toArray, List.set_cons_zero, List.set_cons_succ]
    refine wpAnyH_ready (rs := [1]) (by kernel_rfl) (by simp) ?_
    refine AllReadyH.cons rfl (fun K hK => ?_) AllReadyH.nil
    go_simp
    refine (hV1.out _).mono ?_; rintro e w3 ⟨rfl, i3⟩; have m3 : Kept [] w2 w3 := (Kept.refl [] w2).drew.trans i3 (by simp)
    try go_wp2_with fail
    refine hK.out _ _ ?_ (fun hHeld => ?_)
    · (try dsimp only); (first | exact ⟨⟨m6.cell ca (by simp), m6.cell da (by simp)⟩, ⟨m6.cell cb (by simp), m6.cell db (by simp)⟩, ⟨m6.cell cc (by simp), m6.cell dc (by simp)⟩⟩ | exact ⟨⟨m5.cell ca (by simp), m5.cell da (by simp)⟩, ⟨m5.cell cb (by simp), m5.cell db (by simp)⟩, ⟨m5.cell cc (by simp), m5.cell dc (by simp)⟩⟩ | exact ⟨⟨m4.cell ca (by simp), m4.cell da (by simp)⟩, ⟨m4.cell cb (by simp), m4.cell db (by simp)⟩, ⟨m4.cell cc (by simp), m4.cell dc (by simp)⟩⟩ | exact ⟨⟨m3.cell ca (by simp), m3.cell da (by simp)⟩, ⟨m3.cell cb (by simp), m3.cell db (by simp)⟩, ⟨m3.cell cc (by simp), m3.cell dc (by simp)⟩⟩ | exact ⟨⟨((Kept.refl [] w2).drew).cell ca (by simp), ((Kept.refl [] w2).drew).cell da (by simp)⟩, ⟨((Kept.refl [] w2).drew).cell cb (by simp), ((Kept.refl [] w2).drew).cell db (by simp)⟩, ⟨((Kept.refl [] w2).drew).cell cc (by simp), ((Kept.refl [] w2).drew).cell dc (by simp)⟩⟩)
    clear hK K
    try simp only [Act.put, List.getElem_toArray, List.getElem_cons_succ, List.getElem_cons_zero, List.setIfInBounds_toArray, List.set_cons_zero, List.set_cons_succ]
    refine wpAnyH_ready (rs := [3]) (by kernel_rfl) (by simp) ?_
    refine AllReadyH.cons rfl (fun K hK => ?_) AllReadyH.nil
    go_simp
    refine (hV2.out _).mono ?_; rintro e w4 ⟨rfl, i4⟩; have m4 : Kept [] w2 w4 := m3.trans i4 (by simp)
    try go_wp2_with fail
    refine hK.out _ _ ?_ (fun hHeld => ?_)
    · (try dsimp only); (first | exact ⟨⟨m6.cell ca (by simp), m6.cell da (by simp)⟩, ⟨m6.cell cb (by simp), m6.cell db (by simp)⟩, ⟨m6.cell cc (by simp), m6.cell dc (by simp)⟩⟩ | exact ⟨⟨m5.cell ca (by simp), m5.cell da (by simp)⟩, ⟨m5.cell cb (by simp), m5.cell db (by simp)⟩, ⟨m5.cell cc (by simp), m5.cell dc (by simp)⟩⟩ | exact ⟨⟨m4.cell ca (by simp), m4.cell da (by simp)⟩, ⟨m4.cell cb (by simp), m4.cell db (by simp)⟩, ⟨m4.cell cc (by simp), m4.cell dc (by simp)⟩⟩ | exact ⟨⟨m3.cell ca (by simp), m3.cell da (by simp)⟩, ⟨m3.cell cb (by simp), m3.cell db (by simp)⟩, ⟨m3.cell cc (by simp), m3.cell dc (by simp)⟩⟩ | exact ⟨⟨((Kept.refl [] w2).drew).cell ca (by simp), ((Kept.refl [] w2).drew).cell da (by simp)⟩, ⟨((Kept.refl [] w2).drew).cell cb (by simp), ((Kept.refl [] w2).drew).cell db (by simp)⟩, ⟨((Kept.refl [] w2).drew).cell cc (by simp), ((Kept.refl [] w2).drew).cell dc (by simp)⟩⟩)
    clear hK K
    try simp only [Act.put, List.getElem_toArray, List.getElem_cons_succ, List.getElem_cons_zero, List.setIfInBounds_toArray, List.set_cons_zero, List.set_cons_succ]
    refine wpAnyH_take (i := 4) (v := ?_) rfl (by kernel_rfl) (by kernel_rfl) (by kernel_rfl) (fun _ _ _ h => h) (Or.inl ⟨by rfl, ?_⟩) (by assumption) ?_
    rotate_left
    · (intro wq hSw; (try dsimp only at hSw); go_simp; try with_reducible rfl)
    try simp only [Act.put, List.getElem_toArray, List.getElem_cons_succ, List.getElem_cons_zero, List.setIfInBounds_toArray, List.set_cons_zero, List.set_cons_succ]
    refine wpAnyH_take (i := 5) (v := ?_) rfl (by kernel_rfl) (by kernel_rfl) (by kernel_rfl) (fun _ _ _ h => h) (Or.inl ⟨by rfl, ?_⟩) (by assumption) ?_
    rotate_left
    · (intro wq hSw; (try dsimp only at hSw); go_simp; try with_reducible rfl)
    try simp only [Act.put, List.getElem_toArray, List.getElem_cons_succ, List.getElem_cons_zero, List.setIfInBounds_toArray, List.set_cons_zero, List.set_cons_succ]
    refine wpAnyH_take (i := 6) (v := ?_) rfl (by kernel_rfl) (by kernel_rfl) (by kernel_rfl) (fun _ _ _ h => h) (Or.inl ⟨by rfl, ?_⟩) (by assumption) ?_
    rotate_left
    · (intro wq hSw; (try dsimp only at hSw); go_simp; try with_reducible rfl)
    try simp only [Act.put, List.getElem_toArray, List.getElem_cons_succ, List.getElem_cons_zero, List.setIfInBounds_toArray, List.set_cons_zero, List.set_cons_succ]
    refine wpAnyH_take (i := 7) (v := ?_) rfl (by kernel_rfl) (by kernel_rfl) (by kernel_rfl) (fun _ _ _ h => h) (Or.inl ⟨by rfl, ?_⟩) (by assumption) ?_
    rotate_left
    · (intro wq hSw; (try dsimp only at hSw); go_simp; try with_reducible rfl)
    try simp only [Act.put, List.getElem_toArray, List.getElem_cons_succ, List.getElem_cons_zero, List.setIfInBounds_toArray, List.set_cons_zero, List.set_cons_succ]
    refine wpAnyH_take (i := 9) (v := ?_) rfl (by kernel_rfl) (by kernel_rfl) (by kernel_rfl) (fun _ _ _ h => h) (Or.inl ⟨by rfl, ?_⟩) (by assumption) ?_
    rotate_left
    · (intro wq hSw; (try dsimp only at hSw); go_simp; try with_reducible rfl)
    try simp only [Act.put, List.getElem_toArray, List.getElem_cons_succ, List.getElem_cons_zero, List.setIfInBounds_toArray, List.set_cons_zero, List.set_cons_succ]
    refine wpAnyH_ready (rs := [8]) (by kernel_rfl) (by simp) ?_
    refine AllReadyH.cons rfl (fun K hK => ?_) AllReadyH.nil
    go_simp
    refine (hC1.out _).mono ?_; rintro e w5 ⟨rfl, i5⟩; have m5 : Kept [] w2 w5 := m4.trans i5 (by simp)
    try go_wp2_with fail
    refine hK.out _ _ ?_ (fun hHeld => ?_)
    · (try dsimp only); (first | exact ⟨⟨m6.cell ca (by simp), m6.cell da (by simp)⟩, ⟨m6.cell cb (by simp), m6.cell db (by simp)⟩, ⟨m6.cell cc (by simp), m6.cell dc (by simp)⟩⟩ | exact ⟨⟨m5.cell ca (by simp), m5.cell da (by simp)⟩, ⟨m5.cell cb (by simp), m5.cell db (by simp)⟩, ⟨m5.cell cc (by simp), m5.cell dc (by simp)⟩⟩ | exact ⟨⟨m4.cell ca (by simp), m4.cell da (by simp)⟩, ⟨m4.cell cb (by simp), m4.cell db (by simp)⟩, ⟨m4.cell cc (by simp), m4.cell dc (by simp)⟩⟩ | exact ⟨⟨m3.cell ca (by simp), m3.cell da (by simp)⟩, ⟨m3.cell cb (by simp), m3.cell db (by simp)⟩, ⟨m3.cell cc (by simp), m3.cell dc (by simp)⟩⟩ | exact ⟨⟨((Kept.refl [] w2).drew).cell ca (by simp), ((Kept.refl [] w2).drew).cell da (by simp)⟩, ⟨((Kept.refl [] w2).drew).cell cb (by simp), ((Kept.refl [] w2).drew).cell db (by simp)⟩, ⟨((Kept.refl [] w2).drew).cell cc (by simp), ((Kept.refl [] w2).drew).cell dc (by simp)⟩⟩)
    clear hK K
    try simp only [Act.put, List.getElem_toArray, List.getElem_cons_succ, List.getElem_cons_zero, List.setIfInBounds_toArray, List.set_cons_zero, List.set_cons_succ]
    refine wpAnyH_take (i := 10) (v := ?_) rfl (by kernel_rfl) (by kernel_rfl) (by kernel_rfl) (fun _ _ _ h => h) (Or.inl ⟨by rfl, ?_⟩) (by assumption) ?_
    rotate_left
    · (intro wq hSw; (try dsimp only at hSw); go_simp; try with_reducible rfl)
    try simp only [Act.put, List.getElem_toArray, List.getElem_cons_succ, List.getElem_cons_zero, List.setIfInBounds_toArray, List.set_cons_zero, List.set_cons_succ]
    refine wpAnyH_take (i := 11) (v := ?_) rfl (by kernel_rfl) (by kernel_rfl) (by kernel_rfl) (fun _ _ _ h => h) (Or.inl ⟨by rfl, ?_⟩) (by assumption) ?_
    rotate_left
    · (intro wq hSw; (try dsimp only at hSw); go_simp; try with_reducible rfl)
    try simp only [Act.put, List.getElem_toArray, List.getElem_cons_succ, List.getElem_cons_zero, List.setIfInBounds_toArray, List.set_cons_zero, List.set_cons_succ]
    refine wpAnyH_take (i := 12) (v := ?_) rfl (by kernel_rfl) (by kernel_rfl) (by kernel_rfl) (fun _ _ _ h => h) (Or.inl ⟨by rfl, ?_⟩) (by assumption) ?_
    rotate_left
    · (intro wq hSw; (try dsimp only at hSw); go_simp; try with_reducible rfl)
    try simp only [Act.put, List.getElem_toArray, List.getElem_cons_succ, List.getElem_cons_zero, List.setIfInBounds_toArray, List.set_cons_zero, List.set_cons_succ]
    refine wpAnyH_take (i := 13) (v := ?_) rfl (by kernel_rfl) (by kernel_rfl) (by kernel_rfl) (fun _ _ _ h => h) (Or.inl ⟨by rfl, ?_⟩) (by assumption) ?_
    rotate_left
    · (intro wq hSw; (try dsimp only at hSw); go_simp; try with_reducible rfl)
    try simp only [Act.put, List.getElem_toArray, List.getElem_cons_succ, List.getElem_cons_zero, List.setIfInBounds_toArray, List.set_cons_zero, List.set_cons_succ]
    refine wpAnyH_take (i := 14) (v := ?_) rfl (by kernel_rfl) (by kernel_rfl) (by kernel_rfl) (fun _ _ _ h => h) (Or.inl ⟨by rfl, ?_⟩) (by assumption) ?_
    rotate_left
    · (intro wq hSw; (try dsimp only at hSw); go_simp; try with_reducible rfl)
    try simp only [Act.put, List.getElem_toArray, List.getElem_cons_succ, List.getElem_cons_zero, List.setIfInBounds_toArray, List.set_cons_zero, List.set_cons_succ]
    refine wpAnyH_take (i := 16) (v := ?_) rfl (by kernel_rfl) (by kernel_rfl) (by kernel_rfl) (fun _ _ _ h => h) (Or.inl ⟨by rfl, ?_⟩) (by assumption) ?_
    rotate_left
    · (intro wq hSw; (try dsimp only at hSw); go_simp; try with_reducible rfl)
    try simp only [Act.put, List.getElem_toArray, List.getElem_cons_succ, List.getElem_cons_zero, List.setIfInBounds_toArray, List.set_cons_zero, List.set_cons_succ]
    refine wpAnyH_take (i := 17) (v := ?_) rfl (by kernel_rfl) (by kernel_rfl) (by kernel_rfl) (fun _ _ _ h => h) (Or.inl ⟨by rfl, ?_⟩) (by assumption) ?_
    rotate_left
    · (intro wq hSw; (try dsimp only at hSw); go_simp; try with_reducible rfl)
    try simp only [Act.put, List.getElem_toArray, List.getElem_cons_succ, List.getElem_cons_zero, List.setIfInBounds_toArray, List.set_cons_zero, List.set_cons_succ]
    refine wpAnyH_ready (rs := [15]) (by kernel_rfl) (by simp) ?_
    refine AllReadyH.cons rfl (fun K hK => ?_) AllReadyH.nil
    go_simp
    refine (hC2.out _).mono ?_; rintro e w6 ⟨rfl, i6⟩; have m6 : Kept [] w2 w6 := m5.trans i6 (by simp)
    try go_wp2_with fail
    refine hK.out _ _ ?_ (fun hHeld => ?_)
    · (try dsimp only); (first | exact ⟨⟨m6.cell ca (by simp), m6.cell da (by simp)⟩, ⟨m6.cell cb (by simp), m6.cell db (by simp)⟩, ⟨m6.cell cc (by simp), m6.cell dc (by simp)⟩⟩ | exact ⟨⟨m5.cell ca (by simp), m5.cell da (by simp)⟩, ⟨m5.cell cb (by simp), m5.cell db (by simp)⟩, ⟨m5.cell cc (by simp), m5.cell dc (by simp)⟩⟩ | exact ⟨⟨m4.cell ca (by simp), m4.cell da (by simp)⟩, ⟨m4.cell cb (by simp), m4.cell db (by simp)⟩, ⟨m4.cell cc (by simp), m4.cell dc (by simp)⟩⟩ | exact ⟨⟨m3.cell ca (by simp), m3.cell da (by simp)⟩, ⟨m3.cell cb (by simp), m3.cell db (by simp)⟩, ⟨m3.cell cc (by simp), m3.cell dc (by simp)⟩⟩ | exact ⟨⟨((Kept.refl [] w2).drew).cell ca (by simp), ((Kept.refl [] w2).drew).cell da (by simp)⟩, ⟨((Kept.refl [] w2).drew).cell cb (by simp), ((Kept.refl [] w2).drew).cell db (by simp)⟩, ⟨((Kept.refl [] w2).drew).cell cc (by simp), ((Kept.refl [] w2).drew).cell dc (by simp)⟩⟩)
    clear hK K
    try simp only [Act.put, List.getElem_toArray, List.getElem_cons_succ, List.getElem_cons_zero, List.setIfInBounds_toArray, List.set_cons_zero, List.set_cons_succ]
    refine wpAnyH_take (i := 18) (v := ?_) rfl (by kernel_rfl) (by kernel_rfl) (by kernel_rfl) (fun _ _ _ h => h) (Or.inl ⟨by rfl, ?_⟩) (by assumption) ?_
    rotate_left
    · (intro wq hSw; (try dsimp only at hSw); go_simp; try with_reducible rfl)
    try simp only [Act.put, List.getElem_toArray, List.getElem_cons_succ, List.getElem_cons_zero, List.setIfInBounds_toArray, List.set_cons_zero, List.set_cons_succ]
    refine wpAnyH_take (i := 19) (v := ?_) rfl (by kernel_rfl) (by kernel_rfl) (by kernel_rfl) (fun _ _ _ h => h) (Or.inl ⟨by rfl, ?_⟩) (by assumption) ?_
    rotate_left
    · (intro wq hSw; (try dsimp only at hSw); go_simp; try with_reducible rfl)
    try simp only [Act.put, List.getElem_toArray, List.getElem_cons_succ, List.getElem_cons_zero, List.setIfInBounds_toArray, List.set_cons_zero, List.set_cons_succ]
    refine wpAnyH_done (by kernel_rfl) ?_ _
    have k6 := hide (k2.out.trans m6 (by simp))
    have xa := hide (xa.out.kept m6 (by simp))
    have xb := hide (xb.out.kept m6 (by simp))
    have xc := hide (xc.out.kept m6 (by simp))
    clear ca da cb db cc dc m3 m4 m5 m6 i3 i4 i5 i6
    have ca := xa.out.c0
    have da := xa.out.c1
    have cb := xb.out.c0
    have db := xb.out.c1
    have cc := xc.out.c0
    have dc := xc.out.c1
    go_wp2_with fail
    refine (hOr.out _).mono ?_
    rintro e w7 ⟨rfl, j7⟩
    go_upto_region 9 with fail
    obtain ⟨w8, hw8⟩ : ∃ z : World, z = (w7.alloc (.cells #[.int .i64 b.l, .int .i64 b.c] 49)).alloc (.cells #[.int .i64 a.l, .int .i64 a.c] 49) := ⟨_, rfl⟩
    have j8 : Kept [] w6 w8 := by rw [hw8]; exact ((j7.alloc _).alloc _)
    have hx : PlB w8 w7.heap.size b := by rw [hw8]; exact (PlB.newAt w7 b rfl).kept ((Kept.refl [] _).alloc _) (by simp)
    have hy : PlB w8 (w7.heap.size + 1) a := by rw [hw8]; exact PlB.newAt _ a (by simp)
    rw [← hw8]
    clear hw8
    generalize w7.heap.size = g7 at *
    have k8 := hide (k6.out.trans j8 (by simp))
    have xa := hide (xa.out.kept j8 (by simp))
    have xb := hide (xb.out.kept j8 (by simp))
    have xc := hide (xc.out.kept j8 (by simp))
    clear ca da cb db cc dc j8 j7 k6
    have ca := xa.out.c0
    have da := xa.out.c1
    have cb := xb.out.c0
    have db := xb.out.c1
    have cc := xc.out.c0
    have dc := xc.out.c1
    have cx := hx.c0
    have dx := hx.c1
    have cy := hy.c0
    have dy := hy.c1
    have n1 := fun w => pl_neq2 b b w
    have n2 := fun w => pl_neq2 a a w
    rw [decide_eq_true rfl, Bool.not_true] at n1 n2
    go_upto_region 11 with fail
    clear cx dx cy dy n1 n2 hx hy
    refine wp_region_held_drew (S := (fun w' => (w'.cell? ⟨g, 0, none⟩ = some (.int .i64 a.l) ∧ w'.cell? ⟨g, 1, none⟩ = some (.int .i64 a.c)) ∧ (w'.cell? ⟨g + 1, 0, none⟩ = some (.int .i64 b.l) ∧ w'.cell? ⟨g + 1, 1, none⟩ = some (.int .i64 b.c)) ∧ (w'.cell? ⟨g + 1 + 1, 0, none⟩ = some (.int .i64 c.l) ∧ w'.cell? ⟨g + 1 + 1, 1, none⟩ = some (.int .i64 c.c)))) (by kernel_rfl) ?_ (fun hHeld => ?_)
    · (try dsimp only); (first | exact ⟨⟨m12.cell ca (by simp), m12.cell da (by simp)⟩, ⟨m12.cell cb (by simp), m12.cell db (by simp)⟩, ⟨m12.cell cc (by simp), m12.cell dc (by simp)⟩⟩ | exact ⟨⟨m11.cell ca (by simp), m11.cell da (by simp)⟩, ⟨m11.cell cb (by simp), m11.cell db (by simp)⟩, ⟨m11.cell cc (by simp), m11.cell dc (by simp)⟩⟩ | exact ⟨⟨m10.cell ca (by simp), m10.cell da (by simp)⟩, ⟨m10.cell cb (by simp), m10.cell db (by simp)⟩, ⟨m10.cell cc (by simp), m10.cell dc (by simp)⟩⟩ | exact ⟨⟨m9.cell ca (by simp), m9.cell da (by simp)⟩, ⟨m9.cell cb (by simp), m9.cell db (by simp)⟩, ⟨m9.cell cc (by simp), m9.cell dc (by simp)⟩⟩ | exact ⟨⟨((Kept.refl [] w8).drew).cell ca (by simp), ((Kept.refl [] w8).drew).cell da (by simp)⟩, ⟨((Kept.refl [] w8).drew).cell cb (by simp), ((Kept.refl [] w8).drew).cell db (by simp)⟩, ⟨((Kept.refl [] w8).drew).cell cc (by simp), ((Kept.refl [] w8).drew).cell dc (by simp)⟩⟩)
    refine wpAnyH_take (i := 0) (v := ?_) rfl (by kernel_rfl) (by kernel_rfl) (by kernel_rfl) (fun _ _ _ h => h) (Or.inl ⟨by rfl, ?_⟩) (by assumption) ?_
    rotate_left
    · (intro wq hSw; (try dsimp only at hSw); go_simp; try with_reducible rfl)
    try simp only [Act.put, List.getElem_toArray, List.getElem_cons_zero, List.setIfInBounds_toArray, List.set_cons_zero, List.set_cons_succ]
    refine wpAnyH_take (i := 1) (v := ?_) rfl (by kernel_rfl) (by kernel_rfl) (by kernel_rfl) (fun _ _ _ h => h) (Or.inl ⟨by rfl, ?_⟩) (by assumption) ?_
    rotate_left
    · (intro wq hSw; (try dsimp only at hSw); go_simp; try with_reducible rfl)
    try simp only [Act.put, List.getElem_toArray, List.getElem_cons_succ, List.getElem_cons_zero, List.setIfInBounds_toArray, List.set_cons_zero, List.set_cons_succ]
    refine wpAnyH_take (i := 2) (v := ?_) rfl (by kernel_rfl) (by kernel_rfl) (by kernel_rfl) (fun _ _ _ h => h) (Or.inl ⟨by rfl, ?_⟩) (by assumption) ?_
    rotate_left
    · (intro wq hSw; (try dsimp only at hSw); go_simp; try with_reducible rfl)
    try simp only [Act.put, List.getElem_toArray, List.getElem_cons_succ, List.getElem_cons_zero, List.setIfInBounds_toArray, List.set_cons_zero, List.set_cons_succ]
    refine wpAnyH_take (i := 4) (v := ?_) rfl (by kernel_rfl) (by kernel_rfl) (by kernel_rfl) (fun _ _ _ h => h) (Or.inl ⟨by rfl, ?_⟩) (by assumption) ?_
    rotate_left
    · (intro wq hSw; (try dsimp only at hSw); go_simp; try with_reducible rfl)
    try simp only [Act.put, List.getElem_toArray, List.getElem_cons_succ, List.getElem_cons_zero, List.setIfInBounds_toArray, List.set_cons_zero, List.set_cons_succ]
    refine wpAnyH_take (i := 5) (v := ?_) rfl (by kernel_rfl) (by kernel_rfl) (by kernel_rfl) (fun _ _ _ h => h) (Or.inl ⟨by rfl, ?_⟩) (by assumption) ?_
    rotate_left
    · (intro wq hSw; (try dsimp only at hSw); go_simp; try with_reducible rfl)
    try simp only [Act.put, List.getElem_toArray, List.getElem_cons_succ, List.getElem_cons_zero, List.setIfInBounds_toArray, List.set_cons_zero, List.set_cons_succ]
    refine wpAnyH_ready (rs := [3]) (by kernel_rfl) (by simp) ?_
    refine AllReadyH.cons rfl (fun K hK => ?_) AllReadyH.nil
    go_simp
    refine (hWi.out _).mono ?_; rintro e w9 ⟨rfl, i9⟩; have m9 : Kept [] w8 w9 := (Kept.refl [] w8).drew.trans i9 (by simp)
    try go_wp2_with fail
    refine hK.out _ _ ?_ (fun hHeld => ?_)
    · (try dsimp only); (first | exact ⟨⟨m12.cell ca (by simp), m12.cell da (by simp)⟩, ⟨m12.cell cb (by simp), m12.cell db (by simp)⟩, ⟨m12.cell cc (by simp), m12.cell dc (by simp)⟩⟩ | exact ⟨⟨m11.cell ca (by simp), m11.cell da (by simp)⟩, ⟨m11.cell cb (by simp), m11.cell db (by simp)⟩, ⟨m11.cell cc (by simp), m11.cell dc (by simp)⟩⟩ | exact ⟨⟨m10.cell ca (by simp), m10.cell da (by simp)⟩, ⟨m10.cell cb (by simp), m10.cell db (by simp)⟩, ⟨m10.cell cc (by simp), m10.cell dc (by simp)⟩⟩ | exact ⟨⟨m9.cell ca (by simp), m9.cell da (by simp)⟩, ⟨m9.cell cb (by simp), m9.cell db (by simp)⟩, ⟨m9.cell cc (by simp), m9.cell dc (by simp)⟩⟩ | exact ⟨⟨((Kept.refl [] w8).drew).cell ca (by simp), ((Kept.refl [] w8).drew).cell da (by simp)⟩, ⟨((Kept.refl [] w8).drew).cell cb (by simp), ((Kept.refl [] w8).drew).cell db (by simp)⟩, ⟨((Kept.refl [] w8).drew).cell cc (by simp), ((Kept.refl [] w8).drew).cell dc (by simp)⟩⟩)
    clear hK K
    try simp only [Act.put, List.getElem_toArray, List.getElem_cons_succ, List.getElem_cons_zero, List.setIfInBounds_toArray, List.set_cons_zero, List.set_cons_succ]
    refine wpAnyH_ready (rs := [6]) (by kernel_rfl) (by simp) ?_
    refine AllReadyH.cons rfl (fun K hK => ?_) AllReadyH.nil
    go_simp
    refine (hB1.out _).mono ?_; rintro e w10 ⟨rfl, i10⟩; have m10 : Kept [] w8 w10 := m9.trans i10 (by simp)
    try go_wp2_with fail
    refine hK.out _ _ ?_ (fun hHeld => ?_)
    · (try dsimp only); (first | exact ⟨⟨m12.cell ca (by simp), m12.cell da (by simp)⟩, ⟨m12.cell cb (by simp), m12.cell db (by simp)⟩, ⟨m12.cell cc (by simp), m12.cell dc (by simp)⟩⟩ | exact ⟨⟨m11.cell ca (by simp), m11.cell da (by simp)⟩, ⟨m11.cell cb (by simp), m11.cell db (by simp)⟩, ⟨m11.cell cc (by simp), m11.cell dc (by simp)⟩⟩ | exact ⟨⟨m10.cell ca (by simp), m10.cell da (by simp)⟩, ⟨m10.cell cb (by simp), m10.cell db (by simp)⟩, ⟨m10.cell cc (by simp), m10.cell dc (by simp)⟩⟩ | exact ⟨⟨m9.cell ca (by simp), m9.cell da (by simp)⟩, ⟨m9.cell cb (by simp), m9.cell db (by simp)⟩, ⟨m9.cell cc (by simp), m9.cell dc (by simp)⟩⟩ | exact ⟨⟨((Kept.refl [] w8).drew).cell ca (by simp), ((Kept.refl [] w8).drew).cell da (by simp)⟩, ⟨((Kept.refl [] w8).drew).cell cb (by simp), ((Kept.refl [] w8).drew).cell db (by simp)⟩, ⟨((Kept.refl [] w8).drew).cell cc (by simp), ((Kept.refl [] w8).drew).cell dc (by simp)⟩⟩)
    clear hK K
    try simp only [Act.put, List.getElem_toArray, List.getElem_cons_succ, List.getElem_cons_zero, List.setIfInBounds_toArray, List.set_cons_zero, List.set_cons_succ]
    refine wpAnyH_take (i := 7) (v := ?_) rfl (by kernel_rfl) (by kernel_rfl) (by kernel_rfl) (fun _ _ _ h => h) (Or.inl ⟨by rfl, ?_⟩) (by assumption) ?_
    rotate_left
    · (intro wq hSw; (try dsimp only at hSw); go_simp; try with_reducible rfl)
    try simp only [Act.put, List.getElem_toArray, List.getElem_cons_succ, List.getElem_cons_zero, List.setIfInBounds_toArray, List.set_cons_zero, List.set_cons_succ]
    refine wpAnyH_take (i := 8) (v := ?_) rfl (by kernel_rfl) (by kernel_rfl) (by kernel_rfl) (fun _ _ _ h => h) (Or.inl ⟨by rfl, ?_⟩) (by assumption) ?_
    rotate_left
    · (intro wq hSw; (try dsimp only at hSw); go_simp; try with_reducible rfl)
    try simp only [Act.put, List.getElem_toArray, List.getElem_cons_succ, List.getElem_cons_zero, List.setIfInBounds_toArray, List.set_cons_zero, List.set_cons_succ]
    refine wpAnyH_take (i := 9) (v := ?_) rfl (by kernel_rfl) (by kernel_rfl) (by kernel_rfl) (fun _ _ _ h => h) (Or.inl ⟨by rfl, ?_⟩) (by assumption) ?_
    rotate_left
    · (intro wq hSw; (try dsimp only at hSw); go_simp; try with_reducible rfl)
    try simp only [Act.put, List.getElem_toArray, List.getElem_cons_succ, List.getElem_cons_zero, List.setIfInBounds_toArray, List.set_cons_zero, List.set_cons_succ]
    refine wpAnyH_take (i := 10) (v := ?_) rfl (by kernel_rfl) (by kernel_rfl) (by kernel_rfl) (fun _ _ _ h => h) (Or.inl ⟨by rfl, ?_⟩) (by assumption) ?_
    rotate_left
    · (intro wq hSw; (try dsimp only at hSw); go_simp; try with_reducible rfl)
    try simp only [Act.put, List.getElem_toArray, List.getElem_cons_succ, List.getElem_cons_zero, List.setIfInBounds_toArray, List.set_cons_zero, List.set_cons_succ]
    refine wpAnyH_ready (rs := [11]) (by kernel_rfl) (by simp) ?_
    refine AllReadyH.cons rfl (fun K hK => ?_) AllReadyH.nil
    go_simp
    refine (hB3.out _).mono ?_; rintro e w11 ⟨rfl, i11⟩; have m11 : Kept [] w8 w11 := m10.trans i11 (by simp)
    try go_wp2_with fail
    refine hK.out _ _ ?_ (fun hHeld => ?_)
    · (try dsimp only); (first | exact ⟨⟨m12.cell ca (by simp), m12.cell da (by simp)⟩, ⟨m12.cell cb (by simp), m12.cell db (by simp)⟩, ⟨m12.cell cc (by simp), m12.cell dc (by simp)⟩⟩ | exact ⟨⟨m11.cell ca (by simp), m11.cell da (by simp)⟩, ⟨m11.cell cb (by simp), m11.cell db (by simp)⟩, ⟨m11.cell cc (by simp), m11.cell dc (by simp)⟩⟩ | exact ⟨⟨m10.cell ca (by simp), m10.cell da (by simp)⟩, ⟨m10.cell cb (by simp), m10.cell db (by simp)⟩, ⟨m10.cell cc (by simp), m10.cell dc (by simp)⟩⟩ | exact ⟨⟨m9.cell ca (by simp), m9.cell da (by simp)⟩, ⟨m9.cell cb (by simp), m9.cell db (by simp)⟩, ⟨m9.cell cc (by simp), m9.cell dc (by simp)⟩⟩ | exact ⟨⟨((Kept.refl [] w8).drew).cell ca (by simp), ((Kept.refl [] w8).drew).cell da (by simp)⟩, ⟨((Kept.refl [] w8).drew).cell cb (by simp), ((Kept.refl [] w8).drew).cell db (by simp)⟩, ⟨((Kept.refl [] w8).drew).cell cc (by simp), ((Kept.refl [] w8).drew).cell dc (by simp)⟩⟩)
    clear hK K
    try simp only [Act.put, List.getElem_toArray, List.getElem_cons_succ, List.getElem_cons_zero, List.setIfInBounds_toArray, List.set_cons_zero, List.set_cons_succ]
    refine wpAnyH_take (i := 12) (v := ?_) rfl (by kernel_rfl) (by kernel_rfl) (by kernel_rfl) (fun _ _ _ h => h) (Or.inl ⟨by rfl, ?_⟩) (by assumption) ?_
    rotate_left
    · (intro wq hSw; (try dsimp only at hSw); go_simp; try with_reducible rfl)
    try simp only [Act.put, List.getElem_toArray, List.getElem_cons_succ, List.getElem_cons_zero, List.setIfInBounds_toArray, List.set_cons_zero, List.set_cons_succ]
    refine wpAnyH_take (i := 13) (v := ?_) rfl (by kernel_rfl) (by kernel_rfl) (by kernel_rfl) (fun _ _ _ h => h) (Or.inl ⟨by rfl, ?_⟩) (by assumption) ?_
    rotate_left
    · (intro wq hSw; (try dsimp only at hSw); go_simp; try with_reducible rfl)
    try simp only [Act.put, List.getElem_toArray, List.getElem_cons_succ, List.getElem_cons_zero, List.setIfInBounds_toArray, List.set_cons_zero, List.set_cons_succ]
    refine wpAnyH_take (i := 14) (v := ?_) rfl (by kernel_rfl) (by kernel_rfl) (by kernel_rfl) (fun _ _ _ h => h) (Or.inl ⟨by rfl, ?_⟩) (by assumption) ?_
    rotate_left
    · (intro wq hSw; (try dsimp only at hSw); go_simp; try with_reducible rfl)
    try simp only [Act.put, List.getElem_toArray, List.getElem_cons_succ, List.getElem_cons_zero, List.setIfInBounds_toArray, List.set_cons_zero, List.set_cons_succ]
    refine wpAnyH_ready (rs := [15]) (by kernel_rfl) (by simp) ?_
    refine AllReadyH.cons rfl (fun K hK => ?_) AllReadyH.nil
    go_simp
    refine (hKn.out _ (k8.out.trans m11 (by simp))).mono ?_; rintro e w12 ⟨rfl, i12⟩; have m12 : Kept [] w8 w12 := m11.trans i12 (by simp)
    try go_wp2_with fail
    refine hK.out _ _ ?_ (fun hHeld => ?_)
    · (try dsimp only); (first | exact ⟨⟨m12.cell ca (by simp), m12.cell da (by simp)⟩, ⟨m12.cell cb (by simp), m12.cell db (by simp)⟩, ⟨m12.cell cc (by simp), m12.cell dc (by simp)⟩⟩ | exact ⟨⟨m11.cell ca (by simp), m11.cell da (by simp)⟩, ⟨m11.cell cb (by simp), m11.cell db (by simp)⟩, ⟨m11.cell cc (by simp), m11.cell dc (by simp)⟩⟩ | exact ⟨⟨m10.cell ca (by simp), m10.cell da (by simp)⟩, ⟨m10.cell cb (by simp), m10.cell db (by simp)⟩, ⟨m10.cell cc (by simp), m10.cell dc (by simp)⟩⟩ | exact ⟨⟨m9.cell ca (by simp), m9.cell da (by simp)⟩, ⟨m9.cell cb (by simp), m9.cell db (by simp)⟩, ⟨m9.cell cc (by simp), m9.cell dc (by simp)⟩⟩ | exact ⟨⟨((Kept.refl [] w8).drew).cell ca (by simp), ((Kept.refl [] w8).drew).cell da (by simp)⟩, ⟨((Kept.refl [] w8).drew).cell cb (by simp), ((Kept.refl [] w8).drew).cell db (by simp)⟩, ⟨((Kept.refl [] w8).drew).cell cc (by simp), ((Kept.refl [] w8).drew).cell dc (by simp)⟩⟩)
    clear hK K
    try simp only [Act.put, List.getElem_toArray, List.getElem_cons_succ, List.getElem_cons_zero, List.setIfInBounds_toArray, List.set_cons_zero, List.set_cons_succ]
    refine wpAnyH_take (i := 16) (v := ?_) rfl (by kernel_rfl) (by kernel_rfl) (by kernel_rfl) (fun _ _ _ h => h) (Or.inl ⟨by rfl, ?_⟩) (by assumption) ?_
    rotate_left
    · (intro wq hSw; (try dsimp only at hSw); go_simp; try with_reducible rfl)
    try simp only [Act.put, List.getElem_toArray, List.getElem_cons_succ, List.getElem_cons_zero, List.setIfInBounds_toArray, List.set_cons_zero, List.set_cons_succ]
    refine wpAnyH_take (i := 17) (v := ?_) rfl (by kernel_rfl) (by kernel_rfl) (by kernel_rfl) (fun _ _ _ h => h) (Or.inl ⟨by rfl, ?_⟩) (by assumption) ?_
    rotate_left
    · (intro wq hSw; (try dsimp only at hSw); go_simp; try with_reducible rfl)
    try simp only [Act.put, List.getElem_toArray, List.getElem_cons_succ, List.getElem_cons_zero, List.setIfInBounds_toArray, List.set_cons_zero, List.set_cons_succ]
    refine wpAnyH_done (by kernel_rfl) ?_ _
    go_wp2_with fail
    go_ret
    exact ⟨rfl, k8.out.trans m12 (by simp)⟩
  · have hb1 : befP a b = false := by rw [hab]; exact bef_self b
    have hb2 : befP b a = false := by rw [hab]; exact bef_self b
    replace hab := hide hab
    have hC1 := hide (fun w => Compare_is a b 0 hX w)
    have hC2 := hide (fun w => Compare_is b a 0 (by rw [cmpP_neg a b, hX] <;> rfl) w)
    have hOr := hide (fun w => Order_is a b a b (by unfold ordP; rw [cmpP_neg a b, hX] <;> rfl) w)
    have hW0 : withP a b c = (true && befP a c) := by
      unfold withP
      rw [cmpP_neg a b, hX, Bool.eq_iff_iff]
      simp [cmpP_lt]
    have hWi := hide (fun w => Within_is a b c _ hW0 w)
    have hB1 := hide (fun w => rBefore_is a b false hb1 w)
    have hB2 := hide (fun w => rBefore_is b a false hb2 w)
    have hB3 := hide (fun w => rBefore_any a c w)
    have hV1 := hide (fun w => Valid_any a w)
    have hV2 := hide (fun w => rValid_any a w)
    generalize befP a c = B3 at *
    generalize vP a = V at *
    have hX := hide hX
    have hb1 := hide hb1
    have hb2 := hide hb2
    clear hW0
    go_enter Tryd.func5, Tryd.ntmps5
    go_wp2_with fail
    refine (hB1.out _).mono ?_
    rintro e w1 ⟨rfl, j1⟩
    have xa := hide (xa0.out.kept j1 (by simp))
    have xb := hide (xb0.out.kept j1 (by simp))
    have xc := hide (xc0.out.kept j1 (by simp))
    have k1 := hide (hk0.out.trans j1 (by simp))
    clear j1 xa0 xb0 xc0 hk0
    generalize w.heap.size = g at *
    have ca := xa.out.c0
    have da := xa.out.c1
    have cb := xb.out.c0
    have db := xb.out.c1
    have cc := xc.out.c0
    have dc := xc.out.c1
    go_wp2_with fail
    refine (hB2.out _).mono ?_
    rintro e w2 ⟨rfl, j2⟩
    have k2 := hide (k1.out.trans j2 (by simp))
    have xa := hide (xa.out.kept j2 (by simp))
    have xb := hide (xb.out.kept j2 (by simp))
    have xc := hide (xc.out.kept j2 (by simp))
    clear ca da cb db cc dc j2
    have ca := xa.out.c0
    have da := xa.out.c1
    have cb := xb.out.c0
    have db := xb.out.c1
    have cc := xc.out.c0
    have dc := xc.out.c1
    go_upto_region 6 with fail
    refine wp_region_held_drew (S := (fun w' => (w'.cell? ⟨g, 0, none⟩ = some (.int .i64 a.l) ∧ w'.cell? ⟨g, 1, none⟩ = some (.int .i64 a.c)) ∧ (w'.cell? ⟨g + 1, 0, none⟩ = some (.int .i64 b.l) ∧ w'.cell? ⟨g + 1, 1, none⟩ = some (.int .i64 b.c)) ∧ (w'.cell? ⟨g + 1 + 1, 0, none⟩ = some (.int .i64 c.l) ∧ w'.cell? ⟨g + 1 + 1, 1, none⟩ = some (.int .i64 c.c)))) (by kernel_rfl) ?_ (fun hHeld => ?_)
    · (try dsimp only); (first | exact ⟨⟨m6.cell ca (by simp), m6.cell da (by simp)⟩, ⟨m6.cell cb (by simp), m6.cell db (by simp)⟩, ⟨m6.cell cc (by simp), m6.cell dc (by simp)⟩⟩ | exact ⟨⟨m5.cell ca (by simp), m5.cell da (by simp)⟩, ⟨m5.cell cb (by simp), m5.cell db (by simp)⟩, ⟨m5.cell cc (by simp), m5.cell dc (by simp)⟩⟩ | exact ⟨⟨m4.cell ca (by simp), m4.cell da (by simp)⟩, ⟨m4.cell cb (by simp), m4.cell db (by simp)⟩, ⟨m4.cell cc (by simp), m4.cell dc (by simp)⟩⟩ | exact ⟨⟨m3.cell ca (by simp), m3.cell da (by simp)⟩, ⟨m3.cell cb (by simp), m3.cell db (by simp)⟩, ⟨m3.cell cc (by simp), m3.cell dc (by simp)⟩⟩ | exact ⟨⟨((Kept.refl [] w2).drew).cell ca (by simp), ((Kept.refl [] w2).drew).cell da (by simp)⟩, ⟨((Kept.refl [] w2).drew).cell cb (by simp), ((Kept.refl [] w2).drew).cell db (by simp)⟩, ⟨((Kept.refl [] w2).drew).cell cc (by simp), ((Kept.refl [] w2).drew).cell dc (by simp)⟩⟩)
    refine wpAnyH_take (i := 0) (v := ?_) rfl (by kernel_rfl) (by kernel_rfl) (by kernel_rfl) (fun _ _ _ h => h) (Or.inl ⟨by rfl, ?_⟩) (by assumption) ?_
    rotate_left
    · (intro wq hSw; (try dsimp only at hSw); go_simp; try with_reducible rfl)
    try simp only [Act.put, List.getElem_toArray, List.getElem_cons_zero, List.setIfInBounds_toArray, List.set_cons_zero, List.set_cons_succ]
    refine wpAnyH_take (i := 2) (v := ?_) rfl (by kernel_rfl) (by kernel_rfl) (by kernel_rfl) (fun _ _ _ h => h) (Or.inl ⟨by rfl, ?_⟩) (by assumption) ?_
    rotate_left
    · (intro wq hSw; (try dsimp only at hSw); go_simp; try with_reducible rfl)
    try simp only [Act.put, List.getElem_toArray, List.getElem_cons_succ, List.getElem_cons_zero, List.setIfInBounds_toArray, List.set_cons_zero, List.set_cons_succ]
    refine wpAnyH_ready (rs := [1]) (by kernel_rfl) (by simp) ?_
    refine AllReadyH.cons rfl (fun K hK => ?_) AllReadyH.nil
    go_simp
    refine (hV1.out _).mono ?_; rintro e w3 ⟨rfl, i3⟩; have m3 : Kept [] w2 w3 := (Kept.refl [] w2).drew.trans i3 (by simp)
    try go_wp2_with fail
    refine hK.out _ _ ?_ (fun hHeld => ?_)
    · (try dsimp only); (first | exact ⟨⟨m6.cell ca (by simp), m6.cell da (by simp)⟩, ⟨m6.cell cb (by simp), m6.cell db (by simp)⟩, ⟨m6.cell cc (by simp), m6.cell dc (by simp)⟩⟩ | exact ⟨⟨m5.cell ca (by simp), m5.cell da (by simp)⟩, ⟨m5.cell cb (by simp), m5.cell db (by simp)⟩, ⟨m5.cell cc (by simp), m5.cell dc (by simp)⟩⟩ | exact ⟨⟨m4.cell ca (by simp), m4.cell da (by simp)⟩, ⟨m4.cell cb (by simp), m4.cell db (by simp)⟩, ⟨m4.cell cc (by simp), m4.cell dc (by simp)⟩⟩ | exact ⟨⟨m3.cell ca (by simp), m3.cell da (by simp)⟩, ⟨m3.cell cb (by simp), m3.cell db (by simp)⟩, ⟨m3.cell cc (by simp), m3.cell dc (by simp)⟩⟩ | exact ⟨⟨((Kept.refl [] w2).drew).cell ca (by simp), ((Kept.refl [] w2).drew).cell da (by simp)⟩, ⟨((Kept.refl [] w2).drew).cell cb (by simp), ((Kept.refl [] w2).drew).cell db (by simp)⟩, ⟨((Kept.refl [] w2).drew).cell cc (by simp), ((Kept.refl [] w2).drew).cell dc (by simp)⟩⟩)
    clear hK K
    try simp only [Act.put, List.getElem_toArray, List.getElem_cons_succ, List.getElem_cons_zero, List.setIfInBounds_toArray, List.set_cons_zero, List.set_cons_succ]
    refine wpAnyH_ready (rs := [3]) (by kernel_rfl) (by simp) ?_
    refine AllReadyH.cons rfl (fun K hK => ?_) AllReadyH.nil
    go_simp
    refine (hV2.out _).mono ?_; rintro e w4 ⟨rfl, i4⟩; have m4 : Kept [] w2 w4 := m3.trans i4 (by simp)
    try go_wp2_with fail
    refine hK.out _ _ ?_ (fun hHeld => ?_)
    · (try dsimp only); (first | exact ⟨⟨m6.cell ca (by simp), m6.cell da (by simp)⟩, ⟨m6.cell cb (by simp), m6.cell db (by simp)⟩, ⟨m6.cell cc (by simp), m6.cell dc (by simp)⟩⟩ | exact ⟨⟨m5.cell ca (by simp), m5.cell da (by simp)⟩, ⟨m5.cell cb (by simp), m5.cell db (by simp)⟩, ⟨m5.cell cc (by simp), m5.cell dc (by simp)⟩⟩ | exact ⟨⟨m4.cell ca (by simp), m4.cell da (by simp)⟩, ⟨m4.cell cb (by simp), m4.cell db (by simp)⟩, ⟨m4.cell cc (by simp), m4.cell dc (by simp)⟩⟩ | exact ⟨⟨m3.cell ca (by simp), m3.cell da (by simp)⟩, ⟨m3.cell cb (by simp), m3.cell db (by simp)⟩, ⟨m3.cell cc (by simp), m3.cell dc (by simp)⟩⟩ | exact ⟨⟨((Kept.refl [] w2).drew).cell ca (by simp), ((Kept.refl [] w2).drew).cell da (by simp)⟩, ⟨((Kept.refl [] w2).drew).cell cb (by simp), ((Kept.refl [] w2).drew).cell db (by simp)⟩, ⟨((Kept.refl [] w2).drew).cell cc (by simp), ((Kept.refl [] w2).drew).cell dc (by simp)⟩⟩)
    clear hK K
    try simp only [Act.put, List.getElem_toArray, List.getElem_cons_succ, List.getElem_cons_zero, List.setIfInBounds_toArray, List.set_cons_zero, List.set_cons_succ]
    refine wpAnyH_take (i := 4) (v := ?_) rfl (by kernel_rfl) (by kernel_rfl) (by kernel_rfl) (fun _ _ _ h => h) (Or.inl ⟨by rfl, ?_⟩) (by assumption) ?_
    rotate_left
    · (intro wq hSw; (try dsimp only at hSw); go_simp; try with_reducible rfl)
    try simp only [Act.put, List.getElem_toArray, List.getElem_cons_succ, List.getElem_cons_zero, List.setIfInBounds_toArray, List.set_cons_zero, List.set_cons_succ]
    refine wpAnyH_take (i := 5) (v := ?_) rfl (by kernel_rfl) (by kernel_rfl) (by kernel_rfl) (fun _ _ _ h => h) (Or.inl ⟨by rfl, ?_⟩) (by assumption) ?_
    rotate_left
    · (intro wq hSw; (try dsimp only at hSw); go_simp; try with_reducible rfl)
    try simp only [Act.put, List.getElem_toArray, List.getElem_cons_succ, List.getElem_cons_zero, List.setIfInBounds_toArray, List.set_cons_zero, List.set_cons_succ]
    refine wpAnyH_take (i := 6) (v := ?_) rfl (by kernel_rfl) (by kernel_rfl) (by kernel_rfl) (fun _ _ _ h => h) (Or.inl ⟨by rfl, ?_⟩) (by assumption) ?_
    rotate_left
    · (intro wq hSw; (try dsimp only at hSw); go_simp; try with_reducible rfl)
    try simp only [Act.put, List.getElem_toArray, List.getElem_cons_succ, List.getElem_cons_zero, List.setIfInBounds_toArray, List.set_cons_zero, List.set_cons_succ]
    refine wpAnyH_take (i := 7) (v := ?_) rfl (by kernel_rfl) (by kernel_rfl) (by kernel_rfl) (fun _ _ _ h => h) (Or.inl ⟨by rfl, ?_⟩) (by assumption) ?_
    rotate_left
    · (intro wq hSw; (try dsimp only at hSw); go_simp; try with_reducible rfl)
    try simp only [Act.put, List.getElem_toArray, List.getElem_cons_succ, List.getElem_cons_zero, List.setIfInBounds_toArray, List.set_cons_zero, List.set_cons_succ]
    refine wpAnyH_take (i := 9) (v := ?_) rfl (by kernel_rfl) (by kernel_rfl) (by kernel_rfl) (fun _ _ _ h => h) (Or.inl ⟨by rfl, ?_⟩) (by assumption) ?_
    rotate_left
    · (intro wq hSw; (try dsimp only at hSw); go_simp; try with_reducible rfl)
    try simp only [Act.put, List.getElem_toArray, List.getElem_cons_succ, List.getElem_cons_zero, List.setIfInBounds_toArray, List.set_cons_zero, List.set_cons_succ]
    refine wpAnyH_ready (rs := [8]) (by kernel_rfl) (by simp) ?_
    refine AllReadyH.cons rfl (fun K hK => ?_) AllReadyH.nil
    go_simp
    refine (hC1.out _).mono ?_; rintro e w5 ⟨rfl, i5⟩; have m5 : Kept [] w2 w5 := m4.trans i5 (by simp)
    try go_wp2_with fail
    refine hK.out _ _ ?_ (fun hHeld => ?_)
    · (try dsimp only); (first | exact ⟨⟨m6.cell ca (by simp), m6.cell da (by simp)⟩, ⟨m6.cell cb (by simp), m6.cell db (by simp)⟩, ⟨m6.cell cc (by simp), m6.cell dc (by simp)⟩⟩ | exact ⟨⟨m5.cell ca (by simp), m5.cell da (by simp)⟩, ⟨m5.cell cb (by simp), m5.cell db (by simp)⟩, ⟨m5.cell cc (by simp), m5.cell dc (by simp)⟩⟩ | exact ⟨⟨m4.cell ca (by simp), m4.cell da (by simp)⟩, ⟨m4.cell cb (by simp), m4.cell db (by simp)⟩, ⟨m4.cell cc (by simp), m4.cell dc (by simp)⟩⟩ | exact ⟨⟨m3.cell ca (by simp), m3.cell da (by simp)⟩, ⟨m3.cell cb (by simp), m3.cell db (by simp)⟩, ⟨m3.cell cc (by simp), m3.cell dc (by simp)⟩⟩ | exact ⟨⟨((Kept.refl [] w2).drew).cell ca (by simp), ((Kept.refl [] w2).drew).cell da (by simp)⟩, ⟨((Kept.refl [] w2).drew).cell cb (by simp), ((Kept.refl [] w2).drew).cell db (by simp)⟩, ⟨((Kept.refl [] w2).drew).cell cc (by simp), ((Kept.refl [] w2).drew).cell dc (by simp)⟩⟩)
    clear hK K
    try simp only [Act.put, List.getElem_toArray, List.getElem_cons_succ, List.getElem_cons_zero, List.setIfInBounds_toArray, List.set_cons_zero, List.set_cons_succ]
    refine wpAnyH_take (i := 10) (v := ?_) rfl (by kernel_rfl) (by kernel_rfl) (by kernel_rfl) (fun _ _ _ h => h) (Or.inl ⟨by rfl, ?_⟩) (by assumption) ?_
    rotate_left
    · (intro wq hSw; (try dsimp only at hSw); go_simp; try with_reducible rfl)
    try simp only [Act.put, List.getElem_toArray, List.getElem_cons_succ, List.getElem_cons_zero, List.setIfInBounds_toArray, List.set_cons_zero, List.set_cons_succ]
    refine wpAnyH_take (i := 11) (v := ?_) rfl (by kernel_rfl) (by kernel_rfl) (by kernel_rfl) (fun _ _ _ h => h) (Or.inl ⟨by rfl, ?_⟩) (by assumption) ?_
    rotate_left
    · (intro wq hSw; (try dsimp only at hSw); go_simp; try with_reducible rfl)
    try simp only [Act.put, List.getElem_toArray, List.getElem_cons_succ, List.getElem_cons_zero, List.setIfInBounds_toArray, List.set_cons_zero, List.set_cons_succ]
    refine wpAnyH_take (i := 12) (v := ?_) rfl (by kernel_rfl) (by kernel_rfl) (by kernel_rfl) (fun _ _ _ h => h) (Or.inl ⟨by rfl, ?_⟩) (by assumption) ?_
    rotate_left
    · (intro wq hSw; (try dsimp only at hSw); go_simp; try with_reducible rfl)
    try simp only [Act.put, List.getElem_toArray, List.getElem_cons_succ, List.getElem_cons_zero, List.setIfInBounds_toArray, List.set_cons_zero, List.set_cons_succ]
    refine wpAnyH_take (i := 13) (v := ?_) rfl (by kernel_rfl) (by kernel_rfl) (by kernel_rfl) (fun _ _ _ h => h) (Or.inl ⟨by rfl, ?_⟩) (by assumption) ?_
    rotate_left
    · (intro wq hSw; (try dsimp only at hSw); go_simp; try with_reducible rfl)
    try simp only [Act.put, List.getElem_toArray, List.getElem_cons_succ, List.getElem_cons_zero, List.setIfInBounds_toArray, List.set_cons_zero, List.set_cons_succ]
    refine wpAnyH_take (i := 14) (v := ?_) rfl (by kernel_rfl) (by kernel_rfl) (by kernel_rfl) (fun _ _ _ h => h) (Or.inl ⟨by rfl, ?_⟩) (by assumption) ?_
    rotate_left
    · (intro wq hSw; (try dsimp only at hSw); go_simp; try with_reducible rfl)
    try simp only [Act.put, List.getElem_toArray, List.getElem_cons_succ, List.getElem_cons_zero, List.setIfInBounds_toArray, List.set_cons_zero, List.set_cons_succ]
    refine wpAnyH_take (i := 16) (v := ?_) rfl (by kernel_rfl) (by kernel_rfl) (by kernel_rfl) (fun _ _ _ h => h) (Or.inl ⟨by rfl, ?_⟩) (by assumption) ?_
    rotate_left
    · (intro wq hSw; (try dsimp only at hSw); go_simp; try with_reducible rfl)
    try simp only [Act.put, List.getElem_toArray, List.getElem_cons_succ, List.getElem_cons_zero, List.setIfInBounds_toArray, List.set_cons_zero, List.set_cons_succ]
    refine wpAnyH_take (i := 17) (v := ?_) rfl (by kernel_rfl) (by kernel_rfl) (by kernel_rfl) (fun _ _ _ h => h) (Or.inl ⟨by rfl, ?_⟩) (by assumption) ?_
    rotate_left
    · (intro wq hSw; (try dsimp only at hSw); go_simp; try with_reducible rfl)
    try simp only [Act.put, List.getElem_toArray, List.getElem_cons_succ, List.getElem_cons_zero, List.setIfInBounds_toArray, List.set_cons_zero, List.set_cons_succ]
    refine wpAnyH_ready (rs := [15]) (by kernel_rfl) (by simp) ?_
    refine AllReadyH.cons rfl (fun K hK => ?_) AllReadyH.nil
    go_simp
    refine (hC2.out _).mono ?_; rintro e w6 ⟨rfl, i6⟩; have m6 : Kept [] w2 w6 := m5.trans i6 (by simp)
    try go_wp2_with fail
    refine hK.out _ _ ?_ (fun hHeld => ?_)
    · (try dsimp only); (first | exact ⟨⟨m6.cell ca (by simp), m6.cell da (by simp)⟩, ⟨m6.cell cb (by simp), m6.cell db (by simp)⟩, ⟨m6.cell cc (by simp), m6.cell dc (by simp)⟩⟩ | exact ⟨⟨m5.cell ca (by simp), m5.cell da (by simp)⟩, ⟨m5.cell cb (by simp), m5.cell db (by simp)⟩, ⟨m5.cell cc (by simp), m5.cell dc (by simp)⟩⟩ | exact ⟨⟨m4.cell ca (by simp), m4.cell da (by simp)⟩, ⟨m4.cell cb (by simp), m4.cell db (by simp)⟩, ⟨m4.cell cc (by simp), m4.cell dc (by simp)⟩⟩ | exact ⟨⟨m3.cell ca (by simp), m3.cell da (by simp)⟩, ⟨m3.cell cb (by simp), m3.cell db (by simp)⟩, ⟨m3.cell cc (by simp), m3.cell dc (by simp)⟩⟩ | exact ⟨⟨((Kept.refl [] w2).drew).cell ca (by simp), ((Kept.refl [] w2).drew).cell da (by simp)⟩, ⟨((Kept.refl [] w2).drew).cell cb (by simp), ((Kept.refl [] w2).drew).cell db (by simp)⟩, ⟨((Kept.refl [] w2).drew).cell cc (by simp), ((Kept.refl [] w2).drew).cell dc (by simp)⟩⟩)
    clear hK K
    try simp only [Act.put, List.getElem_toArray, List.getElem_cons_succ, List.getElem_cons_zero, List.setIfInBounds_toArray, List.set_cons_zero, List.set_cons_succ]
    refine wpAnyH_take (i := 18) (v := ?_) rfl (by kernel_rfl) (by kernel_rfl) (by kernel_rfl) (fun _ _ _ h => h) (Or.inl ⟨by rfl, ?_⟩) (by assumption) ?_
    rotate_left
    · (intro wq hSw; (try dsimp only at hSw); go_simp; try with_reducible rfl)
    try simp only [Act.put, List.getElem_toArray, List.getElem_cons_succ, List.getElem_cons_zero, List.setIfInBounds_toArray, List.set_cons_zero, List.set_cons_succ]
    refine wpAnyH_take (i := 19) (v := ?_) rfl (by kernel_rfl) (by kernel_rfl) (by kernel_rfl) (fun _ _ _ h => h) (Or.inl ⟨by rfl, ?_⟩) (by assumption) ?_
    rotate_left
    · (intro wq hSw; (try dsimp only at hSw); go_simp; try with_reducible rfl)
    try simp only [Act.put, List.getElem_toArray, List.getElem_cons_succ, List.getElem_cons_zero, List.setIfInBounds_toArray, List.set_cons_zero, List.set_cons_succ]
    refine wpAnyH_done (by kernel_rfl) ?_ _
    have k6 := hide (k2.out.trans m6 (by simp))
    have xa := hide (xa.out.kept m6 (by simp))
    have xb := hide (xb.out.kept m6 (by simp))
    have xc := hide (xc.out.kept m6 (by simp))
    clear ca da cb db cc dc m3 m4 m5 m6 i3 i4 i5 i6
    have ca := xa.out.c0
    have da := xa.out.c1
    have cb := xb.out.c0
    have db := xb.out.c1
    have cc := xc.out.c0
    have dc := xc.out.c1
    go_wp2_with fail
    refine (hOr.out _).mono ?_
    rintro e w7 ⟨rfl, j7⟩
    go_upto_region 9 with fail
    obtain ⟨w8, hw8⟩ : ∃ z : World, z = (w7.alloc (.cells #[.int .i64 a.l, .int .i64 a.c] 49)).alloc (.cells #[.int .i64 b.l, .int .i64 b.c] 49) := ⟨_, rfl⟩
    have j8 : Kept [] w6 w8 := by rw [hw8]; exact ((j7.alloc _).alloc _)
    have hx : PlB w8 w7.heap.size a := by rw [hw8]; exact (PlB.newAt w7 a rfl).kept ((Kept.refl [] _).alloc _) (by simp)
    have hy : PlB w8 (w7.heap.size + 1) b := by rw [hw8]; exact PlB.newAt _ b (by simp)
    rw [← hw8]
    clear hw8
    generalize w7.heap.size = g7 at *
    have k8 := hide (k6.out.trans j8 (by simp))
    have xa := hide (xa.out.kept j8 (by simp))
    have xb := hide (xb.out.kept j8 (by simp))
    have xc := hide (xc.out.kept j8 (by simp))
    clear ca da cb db cc dc j8 j7 k6
    have ca := xa.out.c0
    have da := xa.out.c1
    have cb := xb.out.c0
    have db := xb.out.c1
    have cc := xc.out.c0
    have dc := xc.out.c1
    have cx := hx.c0
    have dx := hx.c1
    have cy := hy.c0
    have dy := hy.c1
    have n1 := fun w => pl_neq2 a a w
    have n2 := fun w => pl_neq2 b b w
    rw [decide_eq_true rfl, Bool.not_true] at n1 n2
    go_upto_region 11 with fail
    clear cx dx cy dy n1 n2 hx hy
    refine wp_region_held_drew (S := (fun w' => (w'.cell? ⟨g, 0, none⟩ = some (.int .i64 a.l) ∧ w'.cell? ⟨g, 1, none⟩ = some (.int .i64 a.c)) ∧ (w'.cell? ⟨g + 1, 0, none⟩ = some (.int .i64 b.l) ∧ w'.cell? ⟨g + 1, 1, none⟩ = some (.int .i64 b.c)) ∧ (w'.cell? ⟨g + 1 + 1, 0, none⟩ = some (.int .i64 c.l) ∧ w'.cell? ⟨g + 1 + 1, 1, none⟩ = some (.int .i64 c.c)))) (by kernel_rfl) ?_ (fun hHeld => ?_)
    · (try dsimp only); (first | exact ⟨⟨m12.cell ca (by simp), m12.cell da (by simp)⟩, ⟨m12.cell cb (by simp), m12.cell db (by simp)⟩, ⟨m12.cell cc (by simp), m12.cell dc (by simp)⟩⟩ | exact ⟨⟨m11.cell ca (by simp), m11.cell da (by simp)⟩, ⟨m11.cell cb (by simp), m11.cell db (by simp)⟩, ⟨m11.cell cc (by simp), m11.cell dc (by simp)⟩⟩ | exact ⟨⟨m10.cell ca (by simp), m10.cell da (by simp)⟩, ⟨m10.cell cb (by simp), m10.cell db (by simp)⟩, ⟨m10.cell cc (by simp), m10.cell dc (by simp)⟩⟩ | exact ⟨⟨m9.cell ca (by simp), m9.cell da (by simp)⟩, ⟨m9.cell cb (by simp), m9.cell db (by simp)⟩, ⟨m9.cell cc (by simp), m9.cell dc (by simp)⟩⟩ | exact ⟨⟨((Kept.refl [] w8).drew).cell ca (by simp), ((Kept.refl [] w8).drew).cell da (by simp)⟩, ⟨((Kept.refl [] w8).drew).cell cb (by simp), ((Kept.refl [] w8).drew).cell db (by simp)⟩, ⟨((Kept.refl [] w8).drew).cell cc (by simp), ((Kept.refl [] w8).drew).cell dc (by simp)⟩⟩)
    refine wpAnyH_take (i := 0) (v := ?_) rfl (by kernel_rfl) (by kernel_rfl) (by kernel_rfl) (fun _ _ _ h => h) (Or.inl ⟨by rfl, ?_⟩) (by assumption) ?_
    rotate_left
    · (intro wq hSw; (try dsimp only at hSw); go_simp; try with_reducible rfl)
    try simp only [Act.put, List.getElem_toArray, List.getElem_cons_zero, List.setIfInBounds_toArray, List.set_cons_zero, List.set_cons_succ]
    refine wpAnyH_take (i := 1) (v := ?_) rfl (by kernel_rfl) (by kernel_rfl) (by kernel_rfl) (fun _ _ _ h => h) (Or.inl ⟨by rfl, ?_⟩) (by assumption) ?_
    rotate_left
    · (intro wq hSw; (try dsimp only at hSw); go_simp; try with_reducible rfl)
    try simp only [Act.put, List.getElem_toArray, List.getElem_cons_succ, List.getElem_cons_zero, List.setIfInBounds_toArray, List.set_cons_zero, List.set_cons_succ]
    refine wpAnyH_take (i := 2) (v := ?_) rfl (by kernel_rfl) (by kernel_rfl) (by kernel_rfl) (fun _ _ _ h => h) (Or.inl ⟨by rfl, ?_⟩) (by assumption) ?_
    rotate_left
    · (intro wq hSw; (try dsimp only at hSw); go_simp; try with_reducible rfl)
    try simp only [Act.put, List.getElem_toArray, List.getElem_cons_succ, List.getElem_cons_zero, List.setIfInBounds_toArray, List.set_cons_zero, List.set_cons_succ]
    refine wpAnyH_take (i := 4) (v := ?_) rfl (by kernel_rfl) (by kernel_rfl) (by kernel_rfl) (fun _ _ _ h => h) (Or.inl ⟨by rfl, ?_⟩) (by assumption) ?_
    rotate_left
    · (intro wq hSw; (try dsimp only at hSw); go_simp; try with_reducible rfl)
    try simp only [Act.put, List.getElem_toArray, List.getElem_cons_succ, List.getElem_cons_zero, List.setIfInBounds_toArray, List.set_cons_zero, List.set_cons_succ]
    refine wpAnyH_take (i := 5) (v := ?_) rfl (by kernel_rfl) (by kernel_rfl) (by kernel_rfl) (fun _ _ _ h => h) (Or.inl ⟨by rfl, ?_⟩) (by assumption) ?_
    rotate_left
    · (intro wq hSw; (try dsimp only at hSw); go_simp; try with_reducible rfl)
    try simp only [Act.put, List.getElem_toArray, List.getElem_cons_succ, List.getElem_cons_zero, List.setIfInBounds_toArray, List.set_cons_zero, List.set_cons_succ]
    refine wpAnyH_ready (rs := [3]) (by kernel_rfl) (by simp) ?_
    refine AllReadyH.cons rfl (fun K hK => ?_) AllReadyH.nil
    go_simp
    refine (hWi.out _).mono ?_; rintro e w9 ⟨rfl, i9⟩; have m9 : Kept [] w8 w9 := (Kept.refl [] w8).drew.trans i9 (by simp)
    try go_wp2_with fail
    refine hK.out _ _ ?_ (fun hHeld => ?_)
    · (try dsimp only); (first | exact ⟨⟨m12.cell ca (by simp), m12.cell da (by simp)⟩, ⟨m12.cell cb (by simp), m12.cell db (by simp)⟩, ⟨m12.cell cc (by simp), m12.cell dc (by simp)⟩⟩ | exact ⟨⟨m11.cell ca (by simp), m11.cell da (by simp)⟩, ⟨m11.cell cb (by simp), m11.cell db (by simp)⟩, ⟨m11.cell cc (by simp), m11.cell dc (by simp)⟩⟩ | exact ⟨⟨m10.cell ca (by simp), m10.cell da (by simp)⟩, ⟨m10.cell cb (by simp), m10.cell db (by simp)⟩, ⟨m10.cell cc (by simp), m10.cell dc (by simp)⟩⟩ | exact ⟨⟨m9.cell ca (by simp), m9.cell da (by simp)⟩, ⟨m9.cell cb (by simp), m9.cell db (by simp)⟩, ⟨m9.cell cc (by simp), m9.cell dc (by simp)⟩⟩ | exact ⟨⟨((Kept.refl [] w8).drew).cell ca (by simp), ((Kept.refl [] w8).drew).cell da (by simp)⟩, ⟨((Kept.refl [] w8).drew).cell cb (by simp), ((Kept.refl [] w8).drew).cell db (by simp)⟩, ⟨((Kept.refl [] w8).drew).cell cc (by simp), ((Kept.refl [] w8).drew).cell dc (by simp)⟩⟩)
    clear hK K
    try simp only [Act.put, List.getElem_toArray, List.getElem_cons_succ, List.getElem_cons_zero, List.setIfInBounds_toArray, List.set_cons_zero, List.set_cons_succ]
    refine wpAnyH_ready (rs := [6]) (by kernel_rfl) (by simp) ?_
    refine AllReadyH.cons rfl (fun K hK => ?_) AllReadyH.nil
    go_simp
    refine (hB1.out _).mono ?_; rintro e w10 ⟨rfl, i10⟩; have m10 : Kept [] w8 w10 := m9.trans i10 (by simp)
    try go_wp2_with fail
    refine hK.out _ _ ?_ (fun hHeld => ?_)
    · (try dsimp only); (first | exact ⟨⟨m12.cell ca (by simp), m12.cell da (by simp)⟩, ⟨m12.cell cb (by simp), m12.cell db (by simp)⟩, ⟨m12.cell cc (by simp), m12.cell dc (by simp)⟩⟩ | exact ⟨⟨m11.cell ca (by simp), m11.cell da (by simp)⟩, ⟨m11.cell cb (by simp), m11.cell db (by simp)⟩, ⟨m11.cell cc (by simp), m11.cell dc (by simp)⟩⟩ | exact ⟨⟨m10.cell ca (by simp), m10.cell da (by simp)⟩, ⟨m10.cell cb (by simp), m10.cell db (by simp)⟩, ⟨m10.cell cc (by simp), m10.cell dc (by simp)⟩⟩ | exact ⟨⟨m9.cell ca (by simp), m9.cell da (by simp)⟩, ⟨m9.cell cb (by simp), m9.cell db (by simp)⟩, ⟨m9.cell cc (by simp), m9.cell dc (by simp)⟩⟩ | exact ⟨⟨((Kept.refl [] w8).drew).cell ca (by simp), ((Kept.refl [] w8).drew).cell da (by simp)⟩, ⟨((Kept.refl [] w8).drew).cell cb (by simp), ((Kept.refl [] w8).drew).cell db (by simp)⟩, ⟨((Kept.refl [] w8).drew).cell cc (by simp), ((Kept.refl [] w8).drew).cell dc (by simp)⟩⟩)
    clear hK K
    try simp only [Act.put, List.getElem_toArray, List.getElem_cons_succ, List.getElem_cons_zero, List.setIfInBounds_toArray, List.set_cons_zero, List.set_cons_succ]
    refine wpAnyH_take (i := 7) (v := ?_) rfl (by kernel_rfl) (by kernel_rfl) (by kernel_rfl) (fun _ _ _ h => h) (Or.inl ⟨by rfl, ?_⟩) (by assumption) ?_
    rotate_left
    · (intro wq hSw; (try dsimp only at hSw); go_simp; try with_reducible rfl)
    try simp only [Act.put, List.getElem_toArray, List.getElem_cons_succ, List.getElem_cons_zero, List.setIfInBounds_toArray, List.set_cons_zero, List.set_cons_succ]
    refine wpAnyH_take (i := 8) (v := ?_) rfl (by kernel_rfl) (by kernel_rfl) (by kernel_rfl) (fun _ _ _ h => h) (Or.inl ⟨by rfl, ?_⟩) (by assumption) ?_
    rotate_left
    · (intro wq hSw; (try dsimp only at hSw); go_simp; try with_reducible rfl)
    try simp only [Act.put, List.getElem_toArray, List.getElem_cons_succ, List.getElem_cons_zero, List.setIfInBounds_toArray, List.set_cons_zero, List.set_cons_succ]
    refine wpAnyH_take (i := 9) (v := ?_) rfl (by kernel_rfl) (by kernel_rfl) (by kernel_rfl) (fun _ _ _ h => h) (Or.inl ⟨by rfl, ?_⟩) (by assumption) ?_
    rotate_left
    · (intro wq hSw; (try dsimp only at hSw); go_simp; try with_reducible rfl)
    try simp only [Act.put, List.getElem_toArray, List.getElem_cons_succ, List.getElem_cons_zero, List.setIfInBounds_toArray, List.set_cons_zero, List.set_cons_succ]
    refine wpAnyH_take (i := 10) (v := ?_) rfl (by kernel_rfl) (by kernel_rfl) (by kernel_rfl) (fun _ _ _ h => h) (Or.inl ⟨by rfl, ?_⟩) (by assumption) ?_
    rotate_left
    · (intro wq hSw; (try dsimp only at hSw); go_simp; try with_reducible rfl)
    try simp only [Act.put, List.getElem_toArray, List.getElem_cons_succ, List.getElem_cons_zero, List.setIfInBounds_toArray, List.set_cons_zero, List.set_cons_succ]
    refine wpAnyH_ready (rs := [11]) (by kernel_rfl) (by simp) ?_
    refine AllReadyH.cons rfl (fun K hK => ?_) AllReadyH.nil
    go_simp
    refine (hB3.out _).mono ?_; rintro e w11 ⟨rfl, i11⟩; have m11 : Kept [] w8 w11 := m10.trans i11 (by simp)
    try go_wp2_with fail
    refine hK.out _ _ ?_ (fun hHeld => ?_)
    · (try dsimp only); (first | exact ⟨⟨m12.cell ca (by simp), m12.cell da (by simp)⟩, ⟨m12.cell cb (by simp), m12.cell db (by simp)⟩, ⟨m12.cell cc (by simp), m12.cell dc (by simp)⟩⟩ | exact ⟨⟨m11.cell ca (by simp), m11.cell da (by simp)⟩, ⟨m11.cell cb (by simp), m11.cell db (by simp)⟩, ⟨m11.cell cc (by simp), m11.cell dc (by simp)⟩⟩ | exact ⟨⟨m10.cell ca (by simp), m10.cell da (by simp)⟩, ⟨m10.cell cb (by simp), m10.cell db (by simp)⟩, ⟨m10.cell cc (by simp), m10.cell dc (by simp)⟩⟩ | exact ⟨⟨m9.cell ca (by simp), m9.cell da (by simp)⟩, ⟨m9.cell cb (by simp), m9.cell db (by simp)⟩, ⟨m9.cell cc (by simp), m9.cell dc (by simp)⟩⟩ | exact ⟨⟨((Kept.refl [] w8).drew).cell ca (by simp), ((Kept.refl [] w8).drew).cell da (by simp)⟩, ⟨((Kept.refl [] w8).drew).cell cb (by simp), ((Kept.refl [] w8).drew).cell db (by simp)⟩, ⟨((Kept.refl [] w8).drew).cell cc (by simp), ((Kept.refl [] w8).drew).cell dc (by simp)⟩⟩)
    clear hK K
    try simp only [Act.put, List.getElem_toArray, List.getElem_cons_succ, List.getElem_cons_zero, List.setIfInBounds_toArray, List.set_cons_zero, List.set_cons_succ]
    refine wpAnyH_take (i := 12) (v := ?_) rfl (by kernel_rfl) (by kernel_rfl) (by kernel_rfl) (fun _ _ _ h => h) (Or.inl ⟨by rfl, ?_⟩) (by assumption) ?_
    rotate_left
    · (intro wq hSw; (try dsimp only at hSw); go_simp; try with_reducible rfl)
    try simp only [Act.put, List.getElem_toArray, List.getElem_cons_succ, List.getElem_cons_zero, List.setIfInBounds_toArray, List.set_cons_zero, List.set_cons_succ]
    refine wpAnyH_take (i := 13) (v := ?_) rfl (by kernel_rfl) (by kernel_rfl) (by kernel_rfl) (fun _ _ _ h => h) (Or.inl ⟨by rfl, ?_⟩) (by assumption) ?_
    rotate_left
    · (intro wq hSw; (try dsimp only at hSw); go_simp; try with_reducible rfl)
    try simp only [Act.put, List.getElem_toArray, List.getElem_cons_succ, List.getElem_cons_zero, List.setIfInBounds_toArray, List.set_cons_zero, List.set_cons_succ]
    refine wpAnyH_take (i := 14) (v := ?_) rfl (by kernel_rfl) (by kernel_rfl) (by kernel_rfl) (fun _ _ _ h => h) (Or.inl ⟨by rfl, ?_⟩) (by assumption) ?_
    rotate_left
    · (intro wq hSw; (try dsimp only at hSw); go_simp; try with_reducible rfl)
    try simp only [Act.put, List.getElem_toArray, List.getElem_cons_succ, List.getElem_cons_zero, List.setIfInBounds_toArray, List.set_cons_zero, List.set_cons_succ]
    refine wpAnyH_ready (rs := [15]) (by kernel_rfl) (by simp) ?_
    refine AllReadyH.cons rfl (fun K hK => ?_) AllReadyH.nil
    go_simp
    refine (hKn.out _ (k8.out.trans m11 (by simp))).mono ?_; rintro e w12 ⟨rfl, i12⟩; have m12 : Kept [] w8 w12 := m11.trans i12 (by simp)
    try go_wp2_with fail
    refine hK.out _ _ ?_ (fun hHeld => ?_)
    · (try dsimp only); (first | exact ⟨⟨m12.cell ca (by simp), m12.cell da (by simp)⟩, ⟨m12.cell cb (by simp), m12.cell db (by simp)⟩, ⟨m12.cell cc (by simp), m12.cell dc (by simp)⟩⟩ | exact ⟨⟨m11.cell ca (by simp), m11.cell da (by simp)⟩, ⟨m11.cell cb (by simp), m11.cell db (by simp)⟩, ⟨m11.cell cc (by simp), m11.cell dc (by simp)⟩⟩ | exact ⟨⟨m10.cell ca (by simp), m10.cell da (by simp)⟩, ⟨m10.cell cb (by simp), m10.cell db (by simp)⟩, ⟨m10.cell cc (by simp), m10.cell dc (by simp)⟩⟩ | exact ⟨⟨m9.cell ca (by simp), m9.cell da (by simp)⟩, ⟨m9.cell cb (by simp), m9.cell db (by simp)⟩, ⟨m9.cell cc (by simp), m9.cell dc (by simp)⟩⟩ | exact ⟨⟨((Kept.refl [] w8).drew).cell ca (by simp), ((Kept.refl [] w8).drew).cell da (by simp)⟩, ⟨((Kept.refl [] w8).drew).cell cb (by simp), ((Kept.refl [] w8).drew).cell db (by simp)⟩, ⟨((Kept.refl [] w8).drew).cell cc (by simp), ((Kept.refl [] w8).drew).cell dc (by simp)⟩⟩)
    clear hK K
    try simp only [Act.put, List.getElem_toArray, List.getElem_cons_succ, List.getElem_cons_zero, List.setIfInBounds_toArray, List.set_cons_zero, List.set_cons_succ]
    refine wpAnyH_take (i := 16) (v := ?_) rfl (by kernel_rfl) (by kernel_rfl) (by kernel_rfl) (fun _ _ _ h => h) (Or.inl ⟨by rfl, ?_⟩) (by assumption) ?_
    rotate_left
    · (intro wq hSw; (try dsimp only at hSw); go_simp; try with_reducible rfl)
    try simp only [Act.put, List.getElem_toArray, List.getElem_cons_succ, List.getElem_cons_zero, List.setIfInBounds_toArray, List.set_cons_zero, List.set_cons_succ]
    refine wpAnyH_take (i := 17) (v := ?_) rfl (by kernel_rfl) (by kernel_rfl) (by kernel_rfl) (fun _ _ _ h => h) (Or.inl ⟨by rfl, ?_⟩) (by assumption) ?_
    rotate_left
    · (intro wq hSw; (try dsimp only at hSw); go_simp; try with_reducible rfl)
    try simp only [Act.put, List.getElem_toArray, List.getElem_cons_succ, List.getElem_cons_zero, List.setIfInBounds_toArray, List.set_cons_zero, List.set_cons_succ]
    refine wpAnyH_done (by kernel_rfl) ?_ _
    go_wp2_with fail
    go_ret
    exact ⟨rfl, k8.out.trans m12 (by simp)⟩
end Go.Proofs.YtnkddhmhjnhgcaaDoor
