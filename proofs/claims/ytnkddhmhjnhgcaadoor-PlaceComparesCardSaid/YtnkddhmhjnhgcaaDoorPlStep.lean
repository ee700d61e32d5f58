/- Layer 9: Step. -/
import Derived.Test.YtnkddhmhjnhgcaaDoorPlFn
namespace Go.Proofs.YtnkddhmhjnhgcaaDoor
open Go.RowKit
set_option linter.unusedVariables false
set_option linter.unusedSimpArgs false
set_option maxRecDepth 100000

set_option maxHeartbeats 2000000 in
theorem Step_any (p : Pl) (n c : Int) (hn : Wd n) (w : World) : Calls Tryd.prog 62 #[.agg #[.int .i64 p.l, .int .i64 p.c], .int .i64 n, .int .i64 c] w fun e w' => e = .returned (.tuple #[.agg #[.int .i64 (stepP p n c).1.l, .int .i64 (stepP p n c).1.c], .int .i64 (stepP p n c).2]) ∧ Kept [] w w' := by
  have hR := hide (show stepP p n c = if inP p c = false then (p0, 2) else if n < -cellP p c ∨ lastP c - cellP p c < n then (p0, 3) else (⟨(cellP p c + n) / c, (cellP p c + n) % c⟩, 0) from rfl)
  have h1 := hide (fun w => isCell_any p c w)
  have hk0 : Kept [] w ((w.alloc (.cells #[.int .i64 p.l, .int .i64 p.c] 49)).alloc (.cells #[.int .i64 0, .int .i64 0] 49)) := ((Kept.refl [] w).alloc _).alloc _
  have x0 : PlB ((w.alloc (.cells #[.int .i64 p.l, .int .i64 p.c] 49)).alloc (.cells #[.int .i64 0, .int .i64 0] 49)) w.heap.size p := (PlB.new w p).kept ((Kept.refl [] _).alloc _) (by simp)
  have x1 : PlB ((w.alloc (.cells #[.int .i64 p.l, .int .i64 p.c] 49)).alloc (.cells #[.int .i64 0, .int .i64 0] 49)) (w.heap.size + 1) p0 := PlB.newAt _ p0 (by simp)
  have hA : inP p c = true → Hid (∀ w, Calls Tryd.prog 64 #[.agg #[.int .i64 p.l, .int .i64 p.c], .int .i64 c] w fun e w' => e = .returned (.int .i64 (cellP p c)) ∧ Kept [] w w') := fun h => hide (fun w => cellsBefore_any p c (by have := cell_bound h; have := (inP_iff p c).1 h; unfold cellP at *; unfold Wd; omega) (by have := cell_bound h; unfold Wd; omega) w)
  have hB : inP p c = true → Hid (∀ w, Calls Tryd.prog 64 #[.agg #[.int .i64 1099511627776, .int .i64 (c - 1)], .int .i64 c] w fun e w' => e = .returned (.int .i64 (lastP c)) ∧ Kept [] w w') := fun h => hide (fun w => cellsBefore_any ⟨1099511627776, c - 1⟩ c (by have := cell_bound h; have := (inP_iff p c).1 h; unfold lastP at *; unfold Wd; simp only; omega) (by have := cell_bound h; unfold lastP at this; unfold cellP Wd; simp only; omega) w)
  have hbA := fun h : inP p c = true => cell_bound h
  have hcI := fun h : inP p c = true => ((inP_iff p c).1 h).1
  have hst := fun k h1 h2 h3 h4 => @step_in k c h1 h2 h3 h4
  generalize stepP p n c = R at *
  generalize cellP p c = C at *
  generalize lastP c = L at *
  generalize inP p c = I at *
  obtain ⟨pl, pc⟩ := p
  go_enter Tryd.func62, Tryd.ntmps62
  go_wp2_with fail
  refine (h1.out _).mono ?_
  rintro e w1 ⟨rfl, j1⟩
  have kw := hk0.trans j1 (by simp)
  replace x0 := x0.kept j1 (by simp)
  replace x1 := x1.kept j1 (by simp)
  clear hk0 j1
  generalize hg : w.heap.size = g at *
  replace hg := hide hg
  have b0 := x0.c0
  have b1 := x0.c1
  have d0 := x1.c0
  have d1 := x1.c1
  have f0 := x1.f0
  have f1 := x1.f1
  simp only at b0 b1
  cases I with
  | false =>
    go_wp2_with fail
    refine bodyPost_ret (results_pl2 (v := .int .i64 2) rfl rfl (x1.set p0) rfl) rfl ?_
    exact ⟨by rw [hR.out, if_pos (by simp)], kw.trans (kept_set _ _ _ _) (fun x hx => .inr (by have := hg.out; simp at hx; omega))⟩
  | true =>
    replace hA := hA (by simp)
    replace hB := hB (by simp)
    replace hbA := hide (hbA (by simp))
    replace hcI := hide (hcI (by simp))
    have hR1 := hide (show R = if n < -C ∨ L - C < n then (p0, 3) else (⟨(C + n) / c, (C + n) % c⟩, 0) by rw [hR.out, if_neg (by simp)])
    clear hR
    have e1 : IntKind.i64.wrap (-C) = -C := IntWalk.i64_in _ (by have := hbA.out; omega)
    have e2 : IntKind.i64.wrap (L - C) = L - C := IntWalk.i64_in _ (by have := hbA.out; omega)
    go_wp2_with fail
    refine (hA.out _).mono ?_
    rintro e w2 ⟨rfl, j2⟩
    go_wp2_with fail
    refine (lastCell_any 1099511627776 c (by have := hcI.out; omega) _).mono ?_
    rintro e w3 ⟨rfl, j3⟩
    go_wp2_with fail
    refine (hB.out _).mono ?_
    rintro e w4 ⟨rfl, j4⟩
    have j5 : Kept [] w1 w4 := (j2.trans j3 (by simp)).trans j4 (by simp)
    replace kw := kw.trans j5 (by simp)
    replace x1 := x1.kept j5 (by simp)
    clear x0 b0 b1 d0 d1 f0 f1 j2 j3 j4 j5
    have d0 := x1.c0
    have d1 := x1.c1
    have f0 := x1.f0
    have f1 := x1.f1
    by_cases h2 : n < -C
    · go_wp2_with fail
      refine bodyPost_ret (results_pl2 (v := .int .i64 3) rfl rfl (x1.set p0) rfl) rfl ?_
      exact ⟨by rw [hR1.out, if_pos (.inl h2)], kw.trans (kept_set _ _ _ _) (fun x hx => .inr (by have := hg.out; simp at hx; omega))⟩
    · by_cases h3 : L - C < n
      · go_wp2_with fail
        refine bodyPost_ret (results_pl2 (v := .int .i64 3) rfl rfl (x1.set p0) rfl) rfl ?_
        exact ⟨by rw [hR1.out, if_pos (.inr h3)], kw.trans (kept_set _ _ _ _) (fun x hx => .inr (by have := hg.out; simp at hx; omega))⟩
      · have e3 : IntKind.i64.wrap (C + n) = C + n := IntWalk.i64_in _ (by have := hbA.out; omega)
        have hR := hide (show R = (⟨(C + n) / c, (C + n) % c⟩, 0) by rw [hR1.out, if_neg (by omega)])
        clear hR1
        have hX : 0 ≤ C + n := by omega
        have hX2 : C + n ≤ 1099511628775999 := by have := hbA.out; omega
        have c1 : ¬ c = 0 := by have := hcI.out; omega
        have c2 : (c == 0) = false := by simp; exact c1
        obtain ⟨Q, hQ⟩ : ∃ Q, (C + n) / c = Q := ⟨_, rfl⟩
        obtain ⟨M, hM⟩ : ∃ M, (C + n) % c = M := ⟨_, rfl⟩
        have q1 : Int.tdiv (C + n) c = Q := by rw [← hQ]; exact Int.tdiv_eq_ediv_of_nonneg hX
        have q2 : Int.tmod (C + n) c = M := by rw [← hM]; exact Int.tmod_eq_emod_of_nonneg hX
        have q3 : IntKind.i64.wrap Q = Q := IntWalk.i64_in _ (by
          have := hcI.out
          have : (C + n) / c ≤ C + n := Int.ediv_le_self _ hX
          have : 0 ≤ (C + n) / c := Int.ediv_nonneg hX (by omega)
          omega)
        have q4 : IntKind.i64.wrap M = M := IntWalk.i64_in _ (by
          have := hcI.out
          have : 0 ≤ (C + n) % c := Int.emod_nonneg _ (by omega)
          have : (C + n) % c < c := Int.emod_lt_of_pos _ (by omega)
          omega)
        rw [hQ, hM] at hR
        replace hQ := hide hQ
        replace hM := hide hM
        replace hX := hide hX
        go_upto_region 8 with fail
        go_region
        go_wp2_with fail
        refine bodyPost_ret (v := .tuple #[.agg #[.int .i64 Q, .int .i64 M], .int .i64 0]) (results_pl2 rfl rfl ((x1.set ⟨Q, M⟩).kept (Kept.refl [] _).drew (by simp)) rfl) rfl ?_
        exact ⟨by rw [hR.out], kw.trans (kept_set _ _ _ _).drew (fun x hx => .inr (by have := hg.out; simp at hx; omega))⟩
end Go.Proofs.YtnkddhmhjnhgcaaDoor
