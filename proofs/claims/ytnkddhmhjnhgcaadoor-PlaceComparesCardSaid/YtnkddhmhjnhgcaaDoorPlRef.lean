/- Layer 9: the reference's order, nearest place, steps. -/
import Derived.Test.YtnkddhmhjnhgcaaDoorPlStep
import Derived.Test.YtnkddhmhjnhgcaaDoorPlRTxt
namespace Go.Proofs.YtnkddhmhjnhgcaaDoor
open Go.RowKit
set_option linter.unusedVariables false
set_option linter.unusedSimpArgs false
set_option maxRecDepth 100000

theorem rstep_is {p : Pl} {n c L K : Int} (h : inP p c = true) (hK : 0 ≤ K ∧ K < c) (hX : K + c * L = cellP p c + n) : stepP p n c = if 0 ≤ L ∧ L ≤ 1099511627776 then (⟨L, K⟩, 0) else (p0, 3) := by
  have hc := ((inP_iff p c).1 h).1
  have hu := (Int.ediv_emod_unique (a := cellP p c + n) (r := K) (q := L) (by omega : 0 < c)).2 ⟨hX, hK.1, hK.2⟩
  by_cases h0 : 0 ≤ L
  · by_cases h1 : L ≤ 1099511627776
    · rw [if_pos ⟨h0, h1⟩]
      have e1 : 0 ≤ c * L := Int.mul_nonneg (by omega) h0
      have e2 : c * L ≤ c * 1099511627776 := Int.mul_le_mul_of_nonneg_left h1 (by omega)
      rw [step_ok h (by omega) (by unfold lastP; omega), hu.1, hu.2]
    · rw [if_neg (by omega)]
      have e2 : c * 1099511627777 ≤ c * L := Int.mul_le_mul_of_nonneg_left (by omega) (by omega)
      exact step_out h (.inr (by unfold lastP; omega))
  · rw [if_neg (by omega)]
    have e2 : c * L ≤ c * (-1) := Int.mul_le_mul_of_nonneg_left (by omega) (by omega)
    exact step_out h (.inl (by omega))
theorem rBefore_any (a b : Pl) (w : World) : Calls Tryd.prog 23 #[.agg #[.int .i64 a.l, .int .i64 a.c], .agg #[.int .i64 b.l, .int .i64 b.c]] w fun e w' => e = .returned (.bool (befP a b)) ∧ Kept [] w w' := by
  have hR := hide (show befP a b = decide (a.l < b.l ∨ a.l = b.l ∧ a.c < b.c) from rfl)
  generalize befP a b = R at *
  have hk0 : Kept [] w ((w.alloc (.cells #[.int .i64 a.l, .int .i64 a.c] 49)).alloc (.cells #[.int .i64 b.l, .int .i64 b.c] 49)) := ((Kept.refl [] w).alloc _).alloc _
  obtain ⟨al, ac⟩ := a
  obtain ⟨bl, bc⟩ := b
  rcases Int.lt_trichotomy al bl with h | h | h
  · go_enter Tryd.func23, Tryd.ntmps23
    go_wp2_with fail
    go_ret
    exact ⟨ret_bool (by rw [hR.out]; simp; omega), hk0⟩
  · subst h
    by_cases h2 : ac < bc
    · go_enter Tryd.func23, Tryd.ntmps23
      go_wp2_with fail
      go_ret
      exact ⟨ret_bool (by rw [hR.out]; simp; omega), hk0⟩
    · go_enter Tryd.func23, Tryd.ntmps23
      go_wp2_with fail
      go_ret
      exact ⟨ret_bool (by rw [hR.out]; simp; omega), hk0⟩
  · have h1 : ¬ al < bl := by omega
    have h2 : (al == bl) = false := by simp; omega
    replace h := hide h
    go_enter Tryd.func23, Tryd.ntmps23
    go_wp2_with fail
    go_ret
    exact ⟨ret_bool (by have := h.out; rw [hR.out]; simp; omega), hk0⟩
theorem rColumns9_any (c : Int) (w : World) : Calls Tryd.prog 60 #[.int .i64 c] w fun e w' => e = .returned (.bool (colP c)) ∧ w' = w := by
  have hR := hide (show colP c = decide (1 ≤ c ∧ c ≤ 1000) from rfl)
  generalize colP c = R at *
  by_cases h1 : 1 ≤ c
  · by_cases h2 : c ≤ 1000
    · go_enter Tryd.func60, Tryd.ntmps60
      go_wp2_with fail
      go_ret
      exact ⟨ret_bool (by rw [hR.out]; simp; omega), rfl⟩
    · go_enter Tryd.func60, Tryd.ntmps60
      go_wp2_with fail
      go_ret
      exact ⟨ret_bool (by rw [hR.out]; simp; omega), rfl⟩
  · go_enter Tryd.func60, Tryd.ntmps60
    go_wp2_with fail
    go_ret
    exact ⟨ret_bool (by rw [hR.out]; simp; omega), rfl⟩
set_option maxHeartbeats 1000000 in
theorem rIn_any (p : Pl) (c : Int) (w : World) : Calls Tryd.prog 34 #[.agg #[.int .i64 p.l, .int .i64 p.c], .int .i64 c] w fun e w' => e = .returned (.bool (inP p c)) ∧ Kept [] w w' := by
  have hR := hide (show inP p c = decide (colP c = true ∧ vP p = true ∧ p.c < c) from rfl)
  have h1 := hide (fun w => rColumns9_any c w)
  have h2 := hide (fun w => rValid_any p w)
  generalize inP p c = R at *
  generalize colP c = C at *
  generalize vP p = V at *
  have hk0 : Kept [] w (w.alloc (.cells #[.int .i64 p.l, .int .i64 p.c] 49)) := (Kept.refl [] w).alloc _
  have x0 := PlB.new w p
  obtain ⟨l, k⟩ := p
  cases C with
  | false =>
    go_enter Tryd.func34, Tryd.ntmps34
    go_wp2_with fail
    refine (h1.out _).mono ?_
    rintro e w1 ⟨rfl, rfl⟩
    go_wp2_with fail
    go_ret
    exact ⟨ret_bool (by rw [hR.out]; simp), hk0⟩
  | true =>
    go_enter Tryd.func34, Tryd.ntmps34
    go_wp2_with fail
    refine (h1.out _).mono ?_
    rintro e w1 ⟨rfl, rfl⟩
    go_wp2_with fail
    refine (h2.out _).mono ?_
    rintro e w2 ⟨rfl, hk2⟩
    have hkw := hk0.trans hk2 (by simp)
    have c1 := (x0.kept hk2 (by simp)).c1
    have hlt := (x0.kept hk2 (by simp)).lt
    simp only at c1
    clear x0 hk0 hk2
    cases V with
    | false =>
      go_wp2_with fail
      go_ret
      exact ⟨ret_bool (by rw [hR.out]; simp), hkw⟩
    | true =>
      go_wp2_with fail
      go_ret
      exact ⟨ret_bool (by rw [hR.out]; simp), hkw⟩
set_option maxHeartbeats 1000000 in
theorem rClamp_any (p : Pl) (f n c : Int) (w : World) : Calls Tryd.prog 30 #[.agg #[.int .i64 p.l, .int .i64 p.c], .int .i64 f, .int .i64 n, .int .i64 c] w fun e w' => e = .returned (.tuple #[.agg #[.int .i64 (clampP p f n c).1.l, .int .i64 (clampP p f n c).1.c], .int .i64 (clampP p f n c).2]) ∧ Kept [] w w' := by
  have hR := hide (show clampP p f n c = if f < 0 ∨ n ≤ f ∨ 1099511627777 < n ∨ colP c = false then (p0, 2) else if p.l < f then (⟨f, 0⟩, 0) else if n ≤ p.l then (⟨n - 1, c - 1⟩, 0) else (⟨p.l, min (max p.c 0) (c - 1)⟩, 0) from rfl)
  have h1 := hide (fun w => rColumns9_any c w)
  have hk0 : Kept [] w ((w.alloc (.cells #[.int .i64 p.l, .int .i64 p.c] 49)).alloc (.cells #[.int .i64 0, .int .i64 0] 49)) := ((Kept.refl [] w).alloc _).alloc _
  have x0 : PlB ((w.alloc (.cells #[.int .i64 p.l, .int .i64 p.c] 49)).alloc (.cells #[.int .i64 0, .int .i64 0] 49)) w.heap.size p := (PlB.new w p).kept ((Kept.refl [] _).alloc _) (by simp)
  have x1 : PlB ((w.alloc (.cells #[.int .i64 p.l, .int .i64 p.c] 49)).alloc (.cells #[.int .i64 0, .int .i64 0] 49)) (w.heap.size + 1) p0 := PlB.newAt _ p0 (by simp)
  have hcI := fun h : colP c = true => (colP_iff c).1 h
  generalize clampP p f n c = R at *
  generalize colP c = K at *
  obtain ⟨pl, pc⟩ := p
  simp only at hR
  go_enter Tryd.func30, Tryd.ntmps30
  go_upto_region 1 with fail
  obtain ⟨W0, hW0⟩ : ∃ x : World, x = (w.alloc (.cells #[.int .i64 pl, .int .i64 pc] 49)).alloc (.cells #[.int .i64 0, .int .i64 0] 49) := ⟨_, rfl⟩
  simp only at hk0 x0 x1
  rw [← hW0] at hk0 x0 x1 ⊢
  clear hW0
  have kw := hk0
  clear hk0
  generalize hg : w.heap.size = g at *
  replace hg := hide hg
  have b0 := x0.c0
  have b1 := x0.c1
  have e0 := x0.f0
  have e1 := x0.f1
  have d0 := x1.c0
  have d1 := x1.c1
  have f0 := x1.f0
  have f1 := x1.f1
  simp only at b0 b1
  by_cases h2 : f < 0
  · go_wp2_with fail
    refine bodyPost_ret (results_pl2 (v := .int .i64 2) rfl rfl (x1.set p0) rfl) rfl ?_
    exact ⟨by rw [hR.out, if_pos (.inl h2)], kw.trans (kept_set _ _ _ _) (fun x hx => .inr (by have := hg.out; simp at hx; omega))⟩
  · by_cases h3 : n ≤ f
    · go_wp2_with fail
      refine bodyPost_ret (results_pl2 (v := .int .i64 2) rfl rfl (x1.set p0) rfl) rfl ?_
      exact ⟨by rw [hR.out, if_pos (.inr (.inl h3))], kw.trans (kept_set _ _ _ _) (fun x hx => .inr (by have := hg.out; simp at hx; omega))⟩
    · by_cases h4 : n > 1099511627777
      · go_wp2_with fail
        refine bodyPost_ret (results_pl2 (v := .int .i64 2) rfl rfl (x1.set p0) rfl) rfl ?_
        exact ⟨by rw [hR.out, if_pos (.inr (.inr (.inl h4)))], kw.trans (kept_set _ _ _ _) (fun x hx => .inr (by have := hg.out; simp at hx; omega))⟩
      · go_wp2_with fail
        refine (h1.out _).mono ?_
        rintro e w1 ⟨rfl, rfl⟩
        cases K with
        | false =>
          go_wp2_with fail
          refine bodyPost_ret (results_pl2 (v := .int .i64 2) rfl rfl (x1.set p0) rfl) rfl ?_
          exact ⟨by rw [hR.out, if_pos (.inr (.inr (.inr (by simp))))], kw.trans (kept_set _ _ _ _) (fun x hx => .inr (by have := hg.out; simp at hx; omega))⟩
        | true =>
          have hc := hide (hcI rfl)
          have hR1 := hide (show R = if pl < f then (⟨f, 0⟩, 0) else if n ≤ pl then (⟨n - 1, c - 1⟩, 0) else (⟨pl, min (max pc 0) (c - 1)⟩, 0) by rw [hR.out, if_neg (by simp; omega)])
          clear hR hcI
          have hR := hR1
          clear hR1
          have i1 : IntKind.i64.wrap (c - 1) = c - 1 := IntWalk.i64_in _ (by have := hc.out; omega)
          have i2 : IntKind.i64.wrap (n - 1) = n - 1 := IntWalk.i64_in _ (by omega)
          by_cases h5 : pl < f
          · go_wp2_with fail
            refine bodyPost_ret (results_pl2 (v := .int .i64 0) rfl rfl (x1.set ⟨f, 0⟩) rfl) rfl ?_
            exact ⟨by rw [hR.out, if_pos h5], kw.trans (kept_set _ _ _ _) (fun x hx => .inr (by have := hg.out; simp at hx; omega))⟩
          · by_cases h6 : n ≤ pl
            · go_wp2_with fail
              refine bodyPost_ret (results_pl2 (v := .int .i64 0) rfl rfl (x1.set ⟨n - 1, c - 1⟩) rfl) rfl ?_
              exact ⟨by rw [hR.out, if_neg (by omega), if_pos h6], kw.trans (kept_set _ _ _ _) (fun x hx => .inr (by have := hg.out; simp at hx; omega))⟩
            · have hR2 := hide (show R = (⟨pl, min (max pc 0) (c - 1)⟩, 0) by rw [hR.out, if_neg h5, if_neg h6])
              clear hR
              by_cases h7 : pc < 0
              · have h8 : ¬ 0 ≥ c := by have := hc.out; omega
                have hw0 : PlB (w1.setCell ⟨g, 1, none⟩ (.int .i64 0)) g ⟨pl, 0⟩ := x0.set1 0
                have hw1 : PlB (w1.setCell ⟨g, 1, none⟩ (.int .i64 0)) (g + 1) p0 := x1.kept (kept_set1 _ _ _) (by simp)
                have kz := kw.trans (kept_set1 w1 g (.int .i64 0)) (fun x hx => .inr (by have := hg.out; simp at hx; omega))
                have hme := hide (show min (max pc 0) (c - 1) = 0 by have := hc.out; omega)
                go_upto_region 9 with fail
                generalize w1.setCell ⟨g, 1, none⟩ (.int .i64 0) = w2 at *
                clear b0 b1 e0 e1 d0 d1 f0 f1 x0 x1
                have b0 := hw0.c0
                have b1 := hw0.c1
                have d0 := hw1.c0
                have d1 := hw1.c1
                have f0 := hw1.f0
                have f1 := hw1.f1
                simp only at b0 b1
                go_wp2_with fail
                refine bodyPost_ret (results_pl2 (v := .int .i64 0) rfl rfl (hw1.set ⟨pl, 0⟩) rfl) rfl ?_
                exact ⟨by rw [hR2.out, hme.out], kz.trans (kept_set _ _ _ _) (fun x hx => .inr (by have := hg.out; simp at hx; omega))⟩
              · by_cases h8 : c ≤ pc
                · have hw0 : PlB (w1.setCell ⟨g, 1, none⟩ (.int .i64 (c - 1))) g ⟨pl, c - 1⟩ := x0.set1 _
                  have hw1 : PlB (w1.setCell ⟨g, 1, none⟩ (.int .i64 (c - 1))) (g + 1) p0 := x1.kept (kept_set1 _ _ _) (by simp)
                  have kz := kw.trans (kept_set1 w1 g (.int .i64 (c - 1))) (fun x hx => .inr (by have := hg.out; simp at hx; omega))
                  have hme := hide (show min (max pc 0) (c - 1) = c - 1 by have := hc.out; omega)
                  go_upto_region 11 with fail
                  generalize w1.setCell ⟨g, 1, none⟩ (.int .i64 (c - 1)) = w2 at *
                  clear b0 b1 e0 e1 d0 d1 f0 f1 x0 x1
                  have b0 := hw0.c0
                  have b1 := hw0.c1
                  have d0 := hw1.c0
                  have d1 := hw1.c1
                  have f0 := hw1.f0
                  have f1 := hw1.f1
                  simp only at b0 b1
                  go_wp2_with fail
                  refine bodyPost_ret (results_pl2 (v := .int .i64 0) rfl rfl (hw1.set ⟨pl, c - 1⟩) rfl) rfl ?_
                  exact ⟨by rw [hR2.out, hme.out], kz.trans (kept_set _ _ _ _) (fun x hx => .inr (by have := hg.out; simp at hx; omega))⟩
                · have hme := hide (show min (max pc 0) (c - 1) = pc by have := hc.out; omega)
                  go_wp2_with fail
                  refine bodyPost_ret (results_pl2 (v := .int .i64 0) rfl rfl (x1.set ⟨pl, pc⟩) rfl) rfl ?_
                  exact ⟨by rw [hR2.out, hme.out], kw.trans (kept_set _ _ _ _) (fun x hx => .inr (by have := hg.out; simp at hx; omega))⟩
set_option maxHeartbeats 4000000 in
theorem rStep_any (p : Pl) (n c : Int) (hn : Wd n) (w : World) : Calls Tryd.prog 32 #[.agg #[.int .i64 p.l, .int .i64 p.c], .int .i64 n, .int .i64 c] w fun e w' => e = .returned (.tuple #[.agg #[.int .i64 (stepP p n c).1.l, .int .i64 (stepP p n c).1.c], .int .i64 (stepP p n c).2]) ∧ Kept [] w w' := by
  have h1 := hide (fun w => rIn_any p c w)
  have hk0 : Kept [] w ((w.alloc (.cells #[.int .i64 p.l, .int .i64 p.c] 49)).alloc (.cells #[.int .i64 0, .int .i64 0] 49)) := ((Kept.refl [] w).alloc _).alloc _
  have x0 : PlB ((w.alloc (.cells #[.int .i64 p.l, .int .i64 p.c] 49)).alloc (.cells #[.int .i64 0, .int .i64 0] 49)) w.heap.size p := (PlB.new w p).kept ((Kept.refl [] _).alloc _) (by simp)
  have x1 : PlB ((w.alloc (.cells #[.int .i64 p.l, .int .i64 p.c] 49)).alloc (.cells #[.int .i64 0, .int .i64 0] 49)) (w.heap.size + 1) p0 := PlB.newAt _ p0 (by simp)
  have hbad := fun h => @step_bad p n c h
  have hcI := fun h : inP p c = true => (inP_iff p c).1 h
  obtain ⟨R, hR⟩ : ∃ R, stepP p n c = R := ⟨_, rfl⟩
  have hRR := hide hR
  rw [hR] at hbad ⊢
  obtain ⟨I, hI⟩ : ∃ I, inP p c = I := ⟨_, rfl⟩
  rw [hI] at h1 hbad hcI
  have hI := hide hI
  clear hR
  obtain ⟨pl, pc⟩ := p
  go_enter Tryd.func32, Tryd.ntmps32
  go_wp2_with fail
  refine (h1.out _).mono ?_
  rintro e w1 ⟨rfl, j1⟩
  have kw := hk0.trans j1 (by simp)
  replace x0 := x0.kept j1 (by simp)
  replace x1 := x1.kept j1 (by simp)
  clear hk0 j1
  generalize hg : w.heap.size = g at *
  replace hg := hide hg
  have b0 := x0.c0
  have b1 := x0.c1
  have e0 := x0.f0
  have e1 := x0.f1
  have d0 := x1.c0
  have d1 := x1.c1
  have f0 := x1.f0
  have f1 := x1.f1
  simp only at b0 b1
  cases I with
  | false =>
    have hR := hide (hbad rfl)
    go_wp2_with fail
    refine bodyPost_ret (results_pl2 (v := .int .i64 2) rfl rfl (x1.set p0) rfl) rfl ?_
    exact ⟨by rw [hR.out], kw.trans (kept_set _ _ _ _) (fun x hx => .inr (by have := hg.out; simp at hx; omega))⟩
  | true =>
    have hcc := hide (hcI rfl)
    have hc := hide hcc.out.1
    have hpl := hide (show 0 ≤ pl ∧ pl ≤ 1099511627776 from ⟨hcc.out.2.1.1, hcc.out.2.1.2.1⟩)
    have hpc := hide (show 0 ≤ pc ∧ pc < c from ⟨hcc.out.2.1.2.2.1, hcc.out.2.2⟩)
    have hR := hide hRR.out.symm
    obtain ⟨q, hq⟩ : ∃ q, Int.tdiv n c = q := ⟨_, rfl⟩
    obtain ⟨r, hr⟩ : ∃ r, Int.tmod n c = r := ⟨_, rfl⟩
    have hdm : c * q + r = n := by rw [← hq, ← hr]; exact Int.mul_tdiv_add_tmod n c
    have hrb : -c < r ∧ r < c := by
      have := hc.out
      rw [← hr]
      exact ⟨Int.lt_tmod_of_pos n (by omega), Int.tmod_lt_of_pos n (by omega)⟩
    have hq1 : Wd q := by rw [← hq]; exact div_fit (by have := hc.out; omega) hn
    have hqb := hide (show (-9223372036854775808 ≤ q ∧ q ≤ 9223372036854775807) ∧ (r = 0 ∨ (-4611686018427389000 ≤ q ∧ q ≤ 4611686018427389000)) by
      refine ⟨hq1, ?_⟩
      by_cases hr0 : r = 0
      · exact .inl hr0
      · have := hc.out
        unfold Wd at hn
        rcases Int.le_total 0 q with h | h
        · have := Int.mul_le_mul_of_nonneg_right (show 2 ≤ c by omega) h
          exact .inr (by omega)
        · have := Int.mul_le_mul_of_nonpos_right (show 2 ≤ c by omega) h
          exact .inr (by omega))
    have hX := hide (show cellP ⟨pl, pc⟩ c + n = c * pl + pc + (c * q + r) by rw [hdm]; unfold cellP; rw [Int.mul_comm])
    have c1 : ¬ c = 0 := by have := hc.out; omega
    have c2 : (c == 0) = false := by simp; exact c1
    have q0 : IntKind.i64.wrap q = q := IntWalk.i64_in _ hq1
    have r0 : IntKind.i64.wrap r = r := IntWalk.i64_in _ (by have := hc.out; omega)
    have k0 : IntKind.i64.wrap (pc + r) = pc + r := IntWalk.i64_in _ (by have := hc.out; have := hpc.out; omega)
    replace hdm := hide hdm
    go_upto_region 4 with fail
    go_region
    go_upto_region 5 with fail
    obtain ⟨k, hk⟩ : ∃ k, pc + r = k := ⟨_, rfl⟩
    rw [hk]
    have hX2 := hide (show cellP ⟨pl, pc⟩ c + n = c * pl + c * q + k by rw [hX.out, ← hk]; omega)
    clear hX
    have hX := hX2
    clear hX2
    have hr1 := hide (show -c < k ∧ k < c + c by have := hpc.out; omega)
    have y0 : PlB (w1.setCell ⟨g, 1, none⟩ (.int .i64 k)).drew g ⟨pl, k⟩ := x0.set1 k
    have y1 : PlB (w1.setCell ⟨g, 1, none⟩ (.int .i64 k)).drew (g + 1) p0 := x1.kept (kept_set1 _ _ _).drew (by simp)
    have kz := kw.trans (kept_set1 w1 g (.int .i64 k)).drew (fun x hx => .inr (by have := hg.out; simp at hx; omega))
    generalize (w1.setCell ⟨g, 1, none⟩ (.int .i64 k)).drew = w2 at *
    replace hk := hide hk
    clear x0 x1 kw b0 b1 e0 e1 d0 d1 f0 f1 hrb r0 k0 hr
    have x0 := y0
    have x1 := y1
    have kw := kz
    clear y0 y1 kz
    have b0 := x0.c0
    have b1 := x0.c1
    have e0 := x0.f0
    have e1 := x0.f1
    have d0 := x1.c0
    have d1 := x1.c1
    have f0 := x1.f0
    have f1 := x1.f1
    simp only at b0 b1
    by_cases h2 : k < 0
    · have h3 : ¬ c ≤ k + c := by omega
      have k1 : IntKind.i64.wrap (k + c) = k + c := IntWalk.i64_in _ (by have := hc.out; have := hr1.out; omega)
      have y0 : PlB (w2.setCell ⟨g, 1, none⟩ (.int .i64 (k + c))) g ⟨pl, k + c⟩ := x0.set1 _
      have y1 : PlB (w2.setCell ⟨g, 1, none⟩ (.int .i64 (k + c))) (g + 1) p0 := x1.kept (kept_set1 _ _ _) (by simp)
      have kz := kw.trans (kept_set1 w2 g (.int .i64 (k + c))) (fun x hx => .inr (by have := hg.out; simp at hx; omega))
      clear x0 x1 kw
      have x0 := y0
      have x1 := y1
      have kw := kz
      clear y0 y1 kz
      have hst := hide (rstep_is hI.out (L := pl + (q - 1)) (K := k + c) (by have := hc.out; have := hr1.out; omega) (by rw [hX.out, Int.mul_add, Int.mul_sub, Int.mul_one]; omega))
      have q1 : IntKind.i64.wrap (q - 1) = q - 1 := IntWalk.i64_in _ (by have := hqb.out; have := hk.out; have := hpc.out; omega)
      go_upto_region 11 with fail
      generalize w2.setCell ⟨g, 1, none⟩ (.int .i64 (k + c)) = w3 at *
      clear b0 b1 e0 e1 d0 d1 f0 f1
      by_cases h5 : q - 1 < -1099511627777
      · have h5' : decide (q - 1 < -1099511627777) = true := decide_eq_true h5
        have d0 := x1.c0
        have d1 := x1.c1
        have f0 := x1.f0
        have f1 := x1.f1
        go_wp2_with fail
        refine bodyPost_ret (results_pl2 (v := .int .i64 3) rfl rfl (x1.set p0) rfl) rfl ?_
        exact ⟨by rw [hR.out, hst.out, if_neg (by have := hpl.out; omega)], kw.trans (kept_set _ _ _ _) (fun x hx => .inr (by have := hg.out; simp at hx; omega))⟩
      · by_cases h6 : 1099511627777 < q - 1
        · have d0 := x1.c0
          have d1 := x1.c1
          have f0 := x1.f0
          have f1 := x1.f1
          go_wp2_with fail
          refine bodyPost_ret (results_pl2 (v := .int .i64 3) rfl rfl (x1.set p0) rfl) rfl ?_
          exact ⟨by rw [hR.out, hst.out, if_neg (by have := hpl.out; omega)], kw.trans (kept_set _ _ _ _) (fun x hx => .inr (by have := hg.out; simp at hx; omega))⟩
        · have q2 : IntKind.i64.wrap (pl + (q - 1)) = pl + (q - 1) := IntWalk.i64_in _ (by have := hpl.out; omega)
          have b0 := x0.c0
          have b1 := x0.c1
          have e0 := x0.f0
          simp only at b0 b1
          go_upto_region 14 with fail
          have y0 : PlB (w3.setCell ⟨g, 0, none⟩ (.int .i64 (pl + (q - 1)))) g ⟨pl + (q - 1), k + c⟩ := plHeap_set _ g 0 (.int .i64 (pl + (q - 1))) _ _ x0
          have y1 : PlB (w3.setCell ⟨g, 0, none⟩ (.int .i64 (pl + (q - 1)))) (g + 1) p0 := x1.kept (((Kept.refl [g] w3).setCell (.inl (by simp)) _)) (by simp)
          have kz := kw.trans (((Kept.refl [g] w3).setCell (p := ⟨g, 0, none⟩) (.inl (by simp)) (.int .i64 (pl + (q - 1))))) (fun x hx => .inr (by have := hg.out; simp at hx; omega))
          generalize w3.setCell ⟨g, 0, none⟩ (.int .i64 (pl + (q - 1))) = w4 at *
          clear b0 b1 e0 x0 x1
          have b0 := y0.c0
          have b1 := y0.c1
          simp only at b0 b1
          have hVl := hide (fun w => rValid_any ⟨pl + (q - 1), k + c⟩ w)
          have hVi := hide (show vP ⟨pl + (q - 1), k + c⟩ = decide (0 ≤ pl + (q - 1) ∧ pl + (q - 1) ≤ 1099511627776) by rw [Bool.eq_iff_iff, vP_iff, decide_eq_true_eq]; simp only; have := hc.out; have := hr1.out; omega)
          rw [hVi.out] at hVl
          go_wp2_with fail
          refine (hVl.out _).mono ?_
          rintro e w5 ⟨rfl, j5⟩
          have z0 := y0.kept j5 (by simp)
          have z1 := y1.kept j5 (by simp)
          have kv := kz.trans j5 (by simp)
          clear b0 b1 hVl
          have b0 := z0.c0
          have b1 := z0.c1
          have d0 := z1.c0
          have d1 := z1.c1
          have f0 := z1.f0
          have f1 := z1.f1
          simp only at b0 b1
          by_cases h7 : 0 ≤ pl + (q - 1) ∧ pl + (q - 1) ≤ 1099511627776
          · rw [decide_eq_true h7]
            have h7 := hide h7
            go_wp2_with fail
            refine bodyPost_ret (results_pl2 (v := .int .i64 0) rfl rfl (z1.set ⟨pl + (q - 1), k + c⟩) rfl) rfl ?_
            exact ⟨by rw [hR.out, hst.out, if_pos h7.out], kv.trans (kept_set _ _ _ _) (fun x hx => .inr (by have := hg.out; simp at hx; omega))⟩
          · rw [decide_eq_false h7]
            have h7 := hide h7
            go_wp2_with fail
            refine bodyPost_ret (results_pl2 (v := .int .i64 3) rfl rfl (z1.set p0) rfl) rfl ?_
            exact ⟨by rw [hR.out, hst.out, if_neg h7.out], kv.trans (kept_set _ _ _ _) (fun x hx => .inr (by have := hg.out; simp at hx; omega))⟩
    · by_cases h3 : c ≤ k
      · have k1 : IntKind.i64.wrap (k - c) = k - c := IntWalk.i64_in _ (by have := hc.out; have := hr1.out; omega)
        have y0 : PlB (w2.setCell ⟨g, 1, none⟩ (.int .i64 (k - c))) g ⟨pl, k - c⟩ := x0.set1 _
        have y1 : PlB (w2.setCell ⟨g, 1, none⟩ (.int .i64 (k - c))) (g + 1) p0 := x1.kept (kept_set1 _ _ _) (by simp)
        have kz := kw.trans (kept_set1 w2 g (.int .i64 (k - c))) (fun x hx => .inr (by have := hg.out; simp at hx; omega))
        clear x0 x1 kw
        have x0 := y0
        have x1 := y1
        have kw := kz
        clear y0 y1 kz
        have hst := hide (rstep_is hI.out (L := pl + (q + 1)) (K := k - c) (by have := hc.out; have := hr1.out; omega) (by rw [hX.out, Int.mul_add, Int.mul_add, Int.mul_one]; omega))
        have q1 : IntKind.i64.wrap (q + 1) = q + 1 := IntWalk.i64_in _ (by have := hqb.out; have := hk.out; have := hpc.out; omega)
        go_upto_region 11 with fail
        generalize w2.setCell ⟨g, 1, none⟩ (.int .i64 (k - c)) = w3 at *
        clear b0 b1 e0 e1 d0 d1 f0 f1
        by_cases h5 : q + 1 < -1099511627777
        · have h5' : decide (q + 1 < -1099511627777) = true := decide_eq_true h5
          have d0 := x1.c0
          have d1 := x1.c1
          have f0 := x1.f0
          have f1 := x1.f1
          go_wp2_with fail
          refine bodyPost_ret (results_pl2 (v := .int .i64 3) rfl rfl (x1.set p0) rfl) rfl ?_
          exact ⟨by rw [hR.out, hst.out, if_neg (by have := hpl.out; omega)], kw.trans (kept_set _ _ _ _) (fun x hx => .inr (by have := hg.out; simp at hx; omega))⟩
        · by_cases h6 : 1099511627777 < q + 1
          · have d0 := x1.c0
            have d1 := x1.c1
            have f0 := x1.f0
            have f1 := x1.f1
            go_wp2_with fail
            refine bodyPost_ret (results_pl2 (v := .int .i64 3) rfl rfl (x1.set p0) rfl) rfl ?_
            exact ⟨by rw [hR.out, hst.out, if_neg (by have := hpl.out; omega)], kw.trans (kept_set _ _ _ _) (fun x hx => .inr (by have := hg.out; simp at hx; omega))⟩
          · have q2 : IntKind.i64.wrap (pl + (q + 1)) = pl + (q + 1) := IntWalk.i64_in _ (by have := hpl.out; omega)
            have b0 := x0.c0
            have b1 := x0.c1
            have e0 := x0.f0
            simp only at b0 b1
            go_upto_region 14 with fail
            have y0 : PlB (w3.setCell ⟨g, 0, none⟩ (.int .i64 (pl + (q + 1)))) g ⟨pl + (q + 1), k - c⟩ := plHeap_set _ g 0 (.int .i64 (pl + (q + 1))) _ _ x0
            have y1 : PlB (w3.setCell ⟨g, 0, none⟩ (.int .i64 (pl + (q + 1)))) (g + 1) p0 := x1.kept (((Kept.refl [g] w3).setCell (.inl (by simp)) _)) (by simp)
            have kz := kw.trans (((Kept.refl [g] w3).setCell (p := ⟨g, 0, none⟩) (.inl (by simp)) (.int .i64 (pl + (q + 1))))) (fun x hx => .inr (by have := hg.out; simp at hx; omega))
            generalize w3.setCell ⟨g, 0, none⟩ (.int .i64 (pl + (q + 1))) = w4 at *
            clear b0 b1 e0 x0 x1
            have b0 := y0.c0
            have b1 := y0.c1
            simp only at b0 b1
            have hVl := hide (fun w => rValid_any ⟨pl + (q + 1), k - c⟩ w)
            have hVi := hide (show vP ⟨pl + (q + 1), k - c⟩ = decide (0 ≤ pl + (q + 1) ∧ pl + (q + 1) ≤ 1099511627776) by rw [Bool.eq_iff_iff, vP_iff, decide_eq_true_eq]; simp only; have := hc.out; have := hr1.out; omega)
            rw [hVi.out] at hVl
            go_wp2_with fail
            refine (hVl.out _).mono ?_
            rintro e w5 ⟨rfl, j5⟩
            have z0 := y0.kept j5 (by simp)
            have z1 := y1.kept j5 (by simp)
            have kv := kz.trans j5 (by simp)
            clear b0 b1 hVl
            have b0 := z0.c0
            have b1 := z0.c1
            have d0 := z1.c0
            have d1 := z1.c1
            have f0 := z1.f0
            have f1 := z1.f1
            simp only at b0 b1
            by_cases h7 : 0 ≤ pl + (q + 1) ∧ pl + (q + 1) ≤ 1099511627776
            · rw [decide_eq_true h7]
              have h7 := hide h7
              go_wp2_with fail
              refine bodyPost_ret (results_pl2 (v := .int .i64 0) rfl rfl (z1.set ⟨pl + (q + 1), k - c⟩) rfl) rfl ?_
              exact ⟨by rw [hR.out, hst.out, if_pos h7.out], kv.trans (kept_set _ _ _ _) (fun x hx => .inr (by have := hg.out; simp at hx; omega))⟩
            · rw [decide_eq_false h7]
              have h7 := hide h7
              go_wp2_with fail
              refine bodyPost_ret (results_pl2 (v := .int .i64 3) rfl rfl (z1.set p0) rfl) rfl ?_
              exact ⟨by rw [hR.out, hst.out, if_neg h7.out], kv.trans (kept_set _ _ _ _) (fun x hx => .inr (by have := hg.out; simp at hx; omega))⟩
      · have hdum : True := trivial
        have hst := hide (rstep_is hI.out (L := pl + (q)) (K := k) (by have := hc.out; have := hr1.out; omega) (by rw [hX.out, Int.mul_add]; omega))
        have q1 : IntKind.i64.wrap (q) = q := IntWalk.i64_in _ (by have := hqb.out; have := hk.out; have := hpc.out; omega)
        go_upto_region 11 with fail
        generalize w2 = w3 at *
        clear b0 b1 e0 e1 d0 d1 f0 f1
        by_cases h5 : q < -1099511627777
        · have h5' : decide (q < -1099511627777) = true := decide_eq_true h5
          have d0 := x1.c0
          have d1 := x1.c1
          have f0 := x1.f0
          have f1 := x1.f1
          go_wp2_with fail
          refine bodyPost_ret (results_pl2 (v := .int .i64 3) rfl rfl (x1.set p0) rfl) rfl ?_
          exact ⟨by rw [hR.out, hst.out, if_neg (by have := hpl.out; omega)], kw.trans (kept_set _ _ _ _) (fun x hx => .inr (by have := hg.out; simp at hx; omega))⟩
        · by_cases h6 : 1099511627777 < q
          · have d0 := x1.c0
            have d1 := x1.c1
            have f0 := x1.f0
            have f1 := x1.f1
            go_wp2_with fail
            refine bodyPost_ret (results_pl2 (v := .int .i64 3) rfl rfl (x1.set p0) rfl) rfl ?_
            exact ⟨by rw [hR.out, hst.out, if_neg (by have := hpl.out; omega)], kw.trans (kept_set _ _ _ _) (fun x hx => .inr (by have := hg.out; simp at hx; omega))⟩
          · have q2 : IntKind.i64.wrap (pl + (q)) = pl + (q) := IntWalk.i64_in _ (by have := hpl.out; omega)
            have b0 := x0.c0
            have b1 := x0.c1
            have e0 := x0.f0
            simp only at b0 b1
            go_upto_region 14 with fail
            have y0 : PlB (w3.setCell ⟨g, 0, none⟩ (.int .i64 (pl + (q)))) g ⟨pl + (q), k⟩ := plHeap_set _ g 0 (.int .i64 (pl + (q))) _ _ x0
            have y1 : PlB (w3.setCell ⟨g, 0, none⟩ (.int .i64 (pl + (q)))) (g + 1) p0 := x1.kept (((Kept.refl [g] w3).setCell (.inl (by simp)) _)) (by simp)
            have kz := kw.trans (((Kept.refl [g] w3).setCell (p := ⟨g, 0, none⟩) (.inl (by simp)) (.int .i64 (pl + (q))))) (fun x hx => .inr (by have := hg.out; simp at hx; omega))
            generalize w3.setCell ⟨g, 0, none⟩ (.int .i64 (pl + (q))) = w4 at *
            clear b0 b1 e0 x0 x1
            have b0 := y0.c0
            have b1 := y0.c1
            simp only at b0 b1
            have hVl := hide (fun w => rValid_any ⟨pl + (q), k⟩ w)
            have hVi := hide (show vP ⟨pl + (q), k⟩ = decide (0 ≤ pl + (q) ∧ pl + (q) ≤ 1099511627776) by rw [Bool.eq_iff_iff, vP_iff, decide_eq_true_eq]; simp only; have := hc.out; have := hr1.out; omega)
            rw [hVi.out] at hVl
            go_wp2_with fail
            refine (hVl.out _).mono ?_
            rintro e w5 ⟨rfl, j5⟩
            have z0 := y0.kept j5 (by simp)
            have z1 := y1.kept j5 (by simp)
            have kv := kz.trans j5 (by simp)
            clear b0 b1 hVl
            have b0 := z0.c0
            have b1 := z0.c1
            have d0 := z1.c0
            have d1 := z1.c1
            have f0 := z1.f0
            have f1 := z1.f1
            simp only at b0 b1
            by_cases h7 : 0 ≤ pl + (q) ∧ pl + (q) ≤ 1099511627776
            · rw [decide_eq_true h7]
              have h7 := hide h7
              go_wp2_with fail
              refine bodyPost_ret (results_pl2 (v := .int .i64 0) rfl rfl (z1.set ⟨pl + (q), k⟩) rfl) rfl ?_
              exact ⟨by rw [hR.out, hst.out, if_pos h7.out], kv.trans (kept_set _ _ _ _) (fun x hx => .inr (by have := hg.out; simp at hx; omega))⟩
            · rw [decide_eq_false h7]
              have h7 := hide h7
              go_wp2_with fail
              refine bodyPost_ret (results_pl2 (v := .int .i64 3) rfl rfl (z1.set p0) rfl) rfl ?_
              exact ⟨by rw [hR.out, hst.out, if_neg h7.out], kv.trans (kept_set _ _ _ _) (fun x hx => .inr (by have := hg.out; simp at hx; omega))⟩
end Go.Proofs.YtnkddhmhjnhgcaaDoor
