/- Layer 9: the statements' own helpers. -/
import Derived.Test.YtnkddhmhjnhgcaaDoorPlStep
import Derived.Test.YtnkddhmhjnhgcaaDoorPlPar
namespace Go.Proofs.YtnkddhmhjnhgcaaDoor
open Go.RowKit Go.Sort
set_option linter.unusedVariables false
set_option linter.unusedSimpArgs false
set_option maxRecDepth 100000

theorem at_any (l c : Int) (w : World) : Calls Tryd.prog 57 #[.int .i64 l, .int .i64 c] w fun e w' => e = .returned (.agg #[.int .i64 l, .int .i64 c]) ∧ Kept [] w w' := by
  have hz := PlB.new w p0
  have hk0 : Kept [] w (w.alloc (.cells #[.int .i64 p0.l, .int .i64 p0.c] 49)) := (Kept.refl [] w).alloc _
  go_enter Tryd.func57, Tryd.ntmps57
  go_wp2_with fail
  refine bodyPost_ret (results_pl (q := ⟨l, c⟩) rfl rfl (PlB.new w ⟨l, c⟩)) rfl ?_
  exact ⟨rfl, (Kept.refl [] w).alloc _⟩
set_option maxHeartbeats 1000000 in
theorem clamps_any (p : Pl) (f n c : Int) (q : Pl) (no : Int) (v : Bool) (hv : (decide ((clampP p f n c).1 = q) && decide ((clampP p f n c).2 = no)) = v) (w : World) : Calls Tryd.prog 31 #[.agg #[.int .i64 p.l, .int .i64 p.c], .int .i64 f, .int .i64 n, .int .i64 c, .agg #[.int .i64 q.l, .int .i64 q.c], .int .i64 no] w fun e w' => e = .returned (.bool v) ∧ Kept [] w w' := by
  have hC := hide (fun w => Clamp_any p f n c w)
  generalize clampP p f n c = R at *
  obtain ⟨⟨rl, rc⟩, z⟩ := R
  have hk0 : Kept [] w ((w.alloc (.cells #[.int .i64 p.l, .int .i64 p.c] 49)).alloc (.cells #[.int .i64 q.l, .int .i64 q.c] 49)) := ((Kept.refl [] w).alloc _).alloc _
  have x1 : PlB ((w.alloc (.cells #[.int .i64 p.l, .int .i64 p.c] 49)).alloc (.cells #[.int .i64 q.l, .int .i64 q.c] 49)) (w.heap.size + 1) q := PlB.newAt _ q (by simp)
  obtain ⟨pl, pc⟩ := p
  obtain ⟨ql, qc⟩ := q
  simp only at hv
  replace hv := hide hv
  go_enter Tryd.func31, Tryd.ntmps31
  go_wp2_with fail
  refine (hC.out _).mono ?_
  rintro e w1 ⟨rfl, j1⟩
  have kw := hk0.trans j1 (by simp)
  replace x1 := x1.kept j1 (by simp)
  have d0 := x1.c0
  have d1 := x1.c1
  have hlt := x1.lt
  go_wp2_with fail
  all_goals
    go_ret
    refine ⟨ret_bool ?_, kw.alloc _⟩
    rw [← hv.out]
    first
      | (simp_all; done)
      | (simp_all; rfl)
set_option maxHeartbeats 1000000 in
theorem steps_any (p : Pl) (n c : Int) (hn : Wd n) (q : Pl) (no : Int) (v : Bool) (hv : (decide ((stepP p n c).1 = q) && decide ((stepP p n c).2 = no)) = v) (w : World) : Calls Tryd.prog 33 #[.agg #[.int .i64 p.l, .int .i64 p.c], .int .i64 n, .int .i64 c, .agg #[.int .i64 q.l, .int .i64 q.c], .int .i64 no] w fun e w' => e = .returned (.bool v) ∧ Kept [] w w' := by
  have hC := hide (fun w => Step_any p n c hn w)
  generalize stepP p n c = R at *
  obtain ⟨⟨rl, rc⟩, z⟩ := R
  have hk0 : Kept [] w ((w.alloc (.cells #[.int .i64 p.l, .int .i64 p.c] 49)).alloc (.cells #[.int .i64 q.l, .int .i64 q.c] 49)) := ((Kept.refl [] w).alloc _).alloc _
  have x1 : PlB ((w.alloc (.cells #[.int .i64 p.l, .int .i64 p.c] 49)).alloc (.cells #[.int .i64 q.l, .int .i64 q.c] 49)) (w.heap.size + 1) q := PlB.newAt _ q (by simp)
  obtain ⟨pl, pc⟩ := p
  obtain ⟨ql, qc⟩ := q
  simp only at hv
  replace hv := hide hv
  go_enter Tryd.func33, Tryd.ntmps33
  go_wp2_with fail
  refine (hC.out _).mono ?_
  rintro e w1 ⟨rfl, j1⟩
  have kw := hk0.trans j1 (by simp)
  replace x1 := x1.kept j1 (by simp)
  have d0 := x1.c0
  have d1 := x1.c1
  have hlt := x1.lt
  go_wp2_with fail
  all_goals
    go_ret
    refine ⟨ret_bool ?_, kw.alloc _⟩
    rw [← hv.out]
    first
      | (simp_all; done)
      | (simp_all; rfl)
set_option maxHeartbeats 1000000 in
theorem distance_any (a b : Pl) (c want no : Int) (v : Bool) (hv : (decide ((distP a b c).1 = want) && decide ((distP a b c).2 = no)) = v) (w : World) : Calls Tryd.prog 35 #[.agg #[.int .i64 a.l, .int .i64 a.c], .agg #[.int .i64 b.l, .int .i64 b.c], .int .i64 c, .int .i64 want, .int .i64 no] w fun e w' => e = .returned (.bool v) ∧ Kept [] w w' := by
  have hC := hide (fun w => Distance_any a b c w)
  generalize distP a b c = R at *
  obtain ⟨y, z⟩ := R
  have hk0 : Kept [] w ((w.alloc (.cells #[.int .i64 a.l, .int .i64 a.c] 49)).alloc (.cells #[.int .i64 b.l, .int .i64 b.c] 49)) := ((Kept.refl [] w).alloc _).alloc _
  obtain ⟨al, ac⟩ := a
  obtain ⟨bl, bc⟩ := b
  simp only at hv
  replace hv := hide hv
  go_enter Tryd.func35, Tryd.ntmps35
  go_wp2_with fail
  refine (hC.out _).mono ?_
  rintro e w1 ⟨rfl, j1⟩
  have kw := hk0.trans j1 (by simp)
  by_cases hy : y = want
  · subst hy
    go_wp2_with fail
    go_ret
    exact ⟨ret_bool (by rw [← hv.out]; simp; rfl), kw⟩
  · have hy2 : (y == want) = false := by simpa using hy
    replace hy := hide hy
    go_wp2_with fail
    go_ret
    exact ⟨ret_bool (by rw [← hv.out]; simp [hy.out]), kw⟩
set_option maxHeartbeats 1000000 in
theorem text_any (p : Pl) (s : ByteArray) (no : Int) (v : Bool) (hv : (decide ((textE p).1 = s.data.toList) && decide ((textE p).2 = no)) = v) (w : World) (ht : PlT w) : Calls Tryd.prog 58 #[.agg #[.int .i64 p.l, .int .i64 p.c], .string s, .int .i64 no] w fun e w' => e = .returned (.bool v) ∧ Kept [] w w' := by
  have hC := hide (fun w ht => Text_any p w ht)
  generalize textE p = R at *
  obtain ⟨y, z⟩ := R
  have hk0 : Kept [] w (w.alloc (.cells #[.int .i64 p.l, .int .i64 p.c] 49)) := (Kept.refl [] w).alloc _
  have hT := hide (ht.kept hk0)
  clear ht
  obtain ⟨pl, pc⟩ := p
  simp only at hv
  replace hv := hide hv
  go_enter Tryd.func58, Tryd.ntmps58
  go_wp2_with fail
  refine (hC.out _ hT.out).mono ?_
  rintro e w1 ⟨rfl, j1⟩
  have kw := hk0.trans j1 (by simp)
  by_cases hy : (⟨y.toArray⟩ : ByteArray) = s
  · subst hy
    go_wp2_with fail
    go_ret
    exact ⟨ret_bool (by rw [← hv.out]; simp; rfl), kw⟩
  · have hy2 := ba_beq y s hy
    have hy3 := hide (fun h => hy ((ba_eq y s).2 h))
    go_wp2_with fail
    go_ret
    exact ⟨ret_bool (by rw [← hv.out, decide_eq_false hy3.out, Bool.false_and]), kw⟩
set_option maxHeartbeats 1000000 in
theorem parses_any (s : ByteArray) (hs : s.size ≤ 1000) (q : Pl) (no : Int) (v : Bool) (hv : (decide ((parseE s.data.toList).1 = q) && decide ((parseE s.data.toList).2 = no)) = v) (w : World) (ht : PlT w) : Calls Tryd.prog 59 #[.string s, .agg #[.int .i64 q.l, .int .i64 q.c], .int .i64 no] w fun e w' => e = .returned (.bool v) ∧ Kept [] w w' := by
  have hC := hide (fun w ht => Parse_any s hs w ht)
  generalize parseE s.data.toList = R at *
  obtain ⟨⟨rl, rc⟩, z⟩ := R
  have hk0 : Kept [] w (w.alloc (.cells #[.int .i64 q.l, .int .i64 q.c] 49)) := (Kept.refl [] w).alloc _
  have x1 : PlB (w.alloc (.cells #[.int .i64 q.l, .int .i64 q.c] 49)) w.heap.size q := PlB.new _ q
  have hT := hide (ht.kept hk0)
  clear ht
  obtain ⟨ql, qc⟩ := q
  simp only at hv
  replace hv := hide hv
  go_enter Tryd.func59, Tryd.ntmps59
  go_wp2_with fail
  refine (hC.out _ hT.out).mono ?_
  rintro e w1 ⟨rfl, j1⟩
  have kw := hk0.trans j1 (by simp)
  replace x1 := x1.kept j1 (by simp)
  have d0 := x1.c0
  have d1 := x1.c1
  have hlt := x1.lt
  go_wp2_with fail
  all_goals
    go_ret
    refine ⟨ret_bool ?_, kw.alloc _⟩
    rw [← hv.out]
    first
      | (simp_all; done)
      | (simp_all; rfl)
end Go.Proofs.YtnkddhmhjnhgcaaDoor
