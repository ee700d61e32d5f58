/- cell.Mark. The reference's marks, Valid, Mark. The reference's Valid, Mark. -/
import Derived.Test.YtnkddhmhjnhgcaaGreatDoorCelVal
namespace Go.Proofs.YtnkddhmhjnhgcaaGreatDoor
open Go.RowKit
set_option linter.unusedVariables false
set_option maxRecDepth 100000

theorem CelIn.mark0 {w : World} {b : Nat} {c : Cl} (h : CelIn w b c) (x : Int) : CelIn (w.setCell ⟨b, 1, none⟩ (.int .i32 x)) b (setM c 0 x) := by
  have h0 := heap_set w b 1 (.int .i32 x) _ _ h
  simp only [List.setIfInBounds_toArray, List.set_cons_succ, List.set_cons_zero] at h0
  exact h0
theorem CelIn.mark1 {w : World} {b : Nat} {c : Cl} (h : CelIn w b c) (x : Int) : CelIn (w.setCell ⟨b, 2, none⟩ (.int .i32 x)) b (setM c 1 x) := by
  have h0 := heap_set w b 2 (.int .i32 x) _ _ h
  simp only [List.setIfInBounds_toArray, List.set_cons_succ, List.set_cons_zero] at h0
  exact h0
theorem CelIn.mark2 {w : World} {b : Nat} {c : Cl} (h : CelIn w b c) (x : Int) : CelIn (w.setCell ⟨b, 3, none⟩ (.int .i32 x)) b (setM c 2 x) := by
  have h0 := heap_set w b 3 (.int .i32 x) _ _ h
  simp only [List.setIfInBounds_toArray, List.set_cons_succ, List.set_cons_zero] at h0
  exact h0

end Go.Proofs.YtnkddhmhjnhgcaaGreatDoor
namespace Go.Proofs.YtnkddhmhjnhgcaaGreatDoor
open Go.RowKit
set_option linter.unusedVariables false
set_option maxRecDepth 100000
set_option linter.unusedSimpArgs false

set_option maxHeartbeats 1000000 in
theorem rmarks_any (c : Cl) (w : World) : Calls Tryz.prog 85 #[.agg #[.int .i32 c.r, .int .i32 c.m0, .int .i32 c.m1, .int .i32 c.m2, .int .i64 c.w, .int .i64 c.p.f.k, .int .u8 c.p.f.i, .int .u8 c.p.f.r, .int .u8 c.p.f.g, .int .u8 c.p.f.b, .int .i64 c.p.b.k, .int .u8 c.p.b.i, .int .u8 c.p.b.r, .int .u8 c.p.b.g, .int .u8 c.p.b.b, .int .u8 c.p.fl]] w fun e w' => e = .returned (.tuple #[.int .i64 ((rmkI c.m0 c.m1 c.m2).1 : Nat), .bool (rmkI c.m0 c.m1 c.m2).2]) ∧ Kept [] w w' := by
  obtain ⟨W0, hW0⟩ : ∃ z : World, z = w.alloc (.cells #[.int .i32 c.r, .int .i32 c.m0, .int .i32 c.m1, .int .i32 c.m2, .int .i64 c.w, .int .i64 c.p.f.k, .int .u8 c.p.f.i, .int .u8 c.p.f.r, .int .u8 c.p.f.g, .int .u8 c.p.f.b, .int .i64 c.p.b.k, .int .u8 c.p.b.i, .int .u8 c.p.b.r, .int .u8 c.p.b.g, .int .u8 c.p.b.b, .int .u8 c.p.fl] 86) := ⟨_, rfl⟩
  have hk0 : Kept [] w W0 := by rw [hW0]; exact (Kept.refl [] w).alloc _
  have hc0 : CelIn W0 w.heap.size c := by rw [hW0]; exact CelIn.new w c
  obtain ⟨_, q1, q2, q3, _⟩ := hc0.at
  have hOa := hide (fun w1 => rof_any c.m0 w1)
  have hOb := hide (fun w1 => rof_any c.m1 w1)
  have hOd := hide (fun w1 => rof_any c.m2 w1)
  generalize hga : c.m0 = a at *
  generalize hgb : c.m1 = b at *
  generalize hgd : c.m2 = d at *
  generalize hRR : rmkI a b d = R at *
  have hR := hide hRR.symm
  clear hRR
  have fx : ∀ v : Int, ∃ x : Bool, mkI v = x ∧ (ofI v != 0) = !x := fun v => ⟨mkI v, rfl, by unfold mkI; rfl⟩
  obtain ⟨xa, hxa', fa⟩ := fx a
  obtain ⟨xb, hxb', fb⟩ := fx b
  obtain ⟨xd, hxd', fd⟩ := fx d
  have hxa := hide hxa'.symm
  have hxb := hide hxb'.symm
  have hxd := hide hxd'.symm
  clear hxa' hxb' hxd' fx hc0
  generalize ofI a = oa at *
  generalize ofI b = ob at *
  generalize ofI d = od at *
  go_enter Tryz.func85, Tryz.ntmps85
  go_upto_region 2 with fail
  try rw [hga, hgb, hgd]
  rw [← hW0]
  clear hW0
  have p1 := q1
  have p2 := q2
  have p3 := q3
  have q1 := hide q1
  have q2 := hide q2
  have q3 := hide q3
  refine wp_loop_rounds 4 ?_
  by_cases ha0 : a = 0
  · have ea : (a != 0) = false := by simpa using ha0
    have ha := hide ha0
    clear ha0
    rw [rounds_succ]
    go_wp2_with fail
    refine wp_loop_rounds 4 ?_
    rw [rounds_succ]
    go_wp2_with fail
    by_cases hb0 : b = 0
    · have eb : (b != 0) = false := by simpa using hb0
      have hb := hide hb0
      clear hb0
      rw [rounds_succ]
      go_wp2_with fail
      by_cases hd0 : d = 0
      · have ed : (d != 0) = false := by simpa using hd0
        have hd := hide hd0
        clear hd0
        rw [rounds_succ]
        go_wp2_with fail
        rw [rounds_succ]
        go_wp2_with fail
        go_ret2
        exact ⟨by rw [hR.out]; unfold rmkI; simp [ha.out, hb.out, hd.out], hk0.trans (Kept.refl [] W0) (by simp)⟩
      · have ed : (d != 0) = true := by simpa using hd0
        have hd := hide hd0
        clear hd0
        rw [rounds_succ]
        go_wp2_with fail
        go_ret2
        exact ⟨by rw [hR.out]; unfold rmkI; simp [ha.out, hb.out, hd.out], hk0.trans (Kept.refl [] W0) (by simp)⟩
    · have eb : (b != 0) = true := by simpa using hb0
      have hb := hide hb0
      clear hb0
      rw [rounds_succ]
      go_wp2_with fail
      go_ret2
      exact ⟨by rw [hR.out]; unfold rmkI; simp [ha.out, hb.out], hk0.trans (Kept.refl [] W0) (by simp)⟩
  · have ea : (a != 0) = true := by simpa using ha0
    have ha := hide ha0
    clear ha0
    rw [rounds_succ]
    go_wp2_with fail
    refine (hOa.out W0).mono ?_
    rintro e w1 ⟨rfl, jw1⟩
    have kw1 := ((Kept.refl [] W0)).trans jw1 (by simp)
    clear p1 p2 p3
    have p1 := kw1.cell q1.out (by simp)
    have p2 := kw1.cell q2.out (by simp)
    have p3 := kw1.cell q3.out (by simp)
    cases xa
    · go_wp2_with fail
      go_ret2
      exact ⟨by rw [hR.out]; unfold rmkI; simp [ha.out, ← hxa.out], hk0.trans kw1 (by simp)⟩
    · go_wp2_with fail
      by_cases hb0 : b = 0
      · have eb : (b != 0) = false := by simpa using hb0
        have hb := hide hb0
        clear hb0
        rw [rounds_succ]
        go_wp2_with fail
        refine wp_loop_rounds 4 ?_
        rw [rounds_succ]
        go_wp2_with fail
        by_cases hd0 : d = 0
        · have ed : (d != 0) = false := by simpa using hd0
          have hd := hide hd0
          clear hd0
          rw [rounds_succ]
          go_wp2_with fail
          rw [rounds_succ]
          go_wp2_with fail
          go_ret2
          exact ⟨by rw [hR.out]; unfold rmkI; simp [ha.out, ← hxa.out, hb.out, hd.out], hk0.trans kw1 (by simp)⟩
        · have ed : (d != 0) = true := by simpa using hd0
          have hd := hide hd0
          clear hd0
          rw [rounds_succ]
          go_wp2_with fail
          go_ret2
          exact ⟨by rw [hR.out]; unfold rmkI; simp [ha.out, ← hxa.out, hb.out, hd.out], hk0.trans kw1 (by simp)⟩
      · have eb : (b != 0) = true := by simpa using hb0
        have hb := hide hb0
        clear hb0
        rw [rounds_succ]
        go_wp2_with fail
        refine (hOb.out w1).mono ?_
        rintro e w2 ⟨rfl, jw2⟩
        have kw2 := (kw1).trans jw2 (by simp)
        clear p1 p2 p3
        have p1 := kw2.cell q1.out (by simp)
        have p2 := kw2.cell q2.out (by simp)
        have p3 := kw2.cell q3.out (by simp)
        cases xb
        · go_wp2_with fail
          go_ret2
          exact ⟨by rw [hR.out]; unfold rmkI; simp [ha.out, ← hxa.out, hb.out, ← hxb.out], hk0.trans kw2 (by simp)⟩
        · go_wp2_with fail
          by_cases hd0 : d = 0
          · have ed : (d != 0) = false := by simpa using hd0
            have hd := hide hd0
            clear hd0
            rw [rounds_succ]
            go_wp2_with fail
            refine wp_loop_rounds 4 ?_
            rw [rounds_succ]
            go_wp2_with fail
            rw [rounds_succ]
            go_wp2_with fail
            go_ret2
            exact ⟨by rw [hR.out]; unfold rmkI; simp [ha.out, ← hxa.out, hb.out, ← hxb.out, hd.out], hk0.trans kw2 (by simp)⟩
          · have ed : (d != 0) = true := by simpa using hd0
            have hd := hide hd0
            clear hd0
            rw [rounds_succ]
            go_wp2_with fail
            refine (hOd.out w2).mono ?_
            rintro e w3 ⟨rfl, jw3⟩
            have kw3 := (kw2).trans jw3 (by simp)
            clear p1 p2 p3
            have p1 := kw3.cell q1.out (by simp)
            have p2 := kw3.cell q2.out (by simp)
            have p3 := kw3.cell q3.out (by simp)
            cases xd
            · go_wp2_with fail
              go_ret2
              exact ⟨by rw [hR.out]; unfold rmkI; simp [ha.out, ← hxa.out, hb.out, ← hxb.out, hd.out, ← hxd.out], hk0.trans kw3 (by simp)⟩
            · go_wp2_with fail
              rw [rounds_succ]
              go_wp2_with fail
              refine wp_loop_rounds 4 ?_
              rw [rounds_succ]
              go_wp2_with fail
              go_ret2
              exact ⟨by rw [hR.out]; unfold rmkI; simp [ha.out, ← hxa.out, hb.out, ← hxb.out, hd.out, ← hxd.out], hk0.trans kw3 (by simp)⟩
end Go.Proofs.YtnkddhmhjnhgcaaGreatDoor
namespace Go.Proofs.YtnkddhmhjnhgcaaGreatDoor
open Go.RowKit
set_option linter.unusedVariables false
set_option maxRecDepth 100000
set_option linter.unusedSimpArgs false

set_option maxHeartbeats 1000000 in
theorem rcvalid_any (c : Cl) (w : World) : Calls Tryz.prog 79 #[.agg #[.int .i32 c.r, .int .i32 c.m0, .int .i32 c.m1, .int .i32 c.m2, .int .i64 c.w, .int .i64 c.p.f.k, .int .u8 c.p.f.i, .int .u8 c.p.f.r, .int .u8 c.p.f.g, .int .u8 c.p.f.b, .int .i64 c.p.b.k, .int .u8 c.p.b.i, .int .u8 c.p.b.r, .int .u8 c.p.b.g, .int .u8 c.p.b.b, .int .u8 c.p.fl]] w fun e w' => e = .returned (.bool (validC c)) ∧ Kept [] w w' := by
  obtain ⟨W0, hW0⟩ : ∃ z : World, z = w.alloc (.cells #[.int .i32 c.r, .int .i32 c.m0, .int .i32 c.m1, .int .i32 c.m2, .int .i64 c.w, .int .i64 c.p.f.k, .int .u8 c.p.f.i, .int .u8 c.p.f.r, .int .u8 c.p.f.g, .int .u8 c.p.f.b, .int .i64 c.p.b.k, .int .u8 c.p.b.i, .int .u8 c.p.b.r, .int .u8 c.p.b.g, .int .u8 c.p.b.b, .int .u8 c.p.fl] 86) := ⟨_, rfl⟩
  have hk0 : Kept [] w W0 := by rw [hW0]; exact (Kept.refl [] w).alloc _
  have hc0 : Hid (CelIn W0 w.heap.size c) := hide (by rw [hW0]; exact CelIn.new w c)
  have hM := hide (fun w1 => rmarks_any c w1)
  have hP := hide (fun w1 => rvalid_is c.p _ rfl w1)
  have hO := hide (fun w1 => rof_any c.r w1)
  have hR : validC c = _ := (rvalidC_is c).symm
  unfold rvalidC at hR
  generalize rmkI c.m0 c.m1 c.m2 = ni at *
  generalize decide (penOk c.p) = pk at *
  generalize ofI c.r = o at *
  generalize validC c = R at *
  obtain ⟨n, is⟩ := ni
  have hR := hide hR
  simp only at hM
  have r0 := hc0.out.range
  go_enter Tryz.func79, Tryz.ntmps79
  go_upto_region 1 with fail
  rw [← hW0]
  clear hW0
  go_wp2_with (refine wpList_load_cel rfl rfl w.heap.size 0 rfl r0 ?_)
  refine (hM.out _).mono ?_
  rintro e w1 ⟨rfl, hk1⟩
  clear r0
  have r1 := (hc0.out.kept hk1 (by simp)).range.pen
  go_wp2_with (refine wpList_load_pen rfl rfl w.heap.size 5 rfl r1 ?_)
  refine (hP.out _).mono ?_
  rintro e w2 ⟨rfl, hk2'⟩
  have hk2 := hk1.trans hk2' (by simp)
  clear r1 hk2' hk1
  cases pk
  · go_wp2_with fail
    go_ret
    exact ⟨ret_bool (by rw [hR.out]; rfl), hk0.trans hk2 (by simp)⟩
  · cases is
    · go_wp2_with fail
      go_ret
      exact ⟨ret_bool (by rw [hR.out]; rfl), hk0.trans hk2 (by simp)⟩
    · obtain ⟨q0, _, _, _, q4, _⟩ := (hc0.out.kept hk2 (by simp)).at
      by_cases h00 : c.w = 0
      · have e0 : (c.w == 0) = true := by simpa using h00
        have h0 := hide h00
        clear h00
        by_cases hr0 : c.r = 0
        · have er : (c.r == 0) = true := by simpa using hr0
          have hr := hide hr0
          clear hr0
          go_wp2_with fail
          go_ret
          exact ⟨ret_bool (by rw [hR.out, if_pos h0.out, Bool.eq_iff_iff]; simp [hr.out]), hk0.trans hk2 (by simp)⟩
        · have er : (c.r == 0) = false := by simpa using hr0
          have hr := hide hr0
          clear hr0
          go_wp2_with fail
          go_ret
          exact ⟨ret_bool (by rw [hR.out, if_pos h0.out, Bool.eq_iff_iff]; simp [hr.out]), hk0.trans hk2 (by simp)⟩
      · have e0 : (c.w == 0) = false := by simpa using h00
        have h0 := hide h00
        clear h00
        by_cases h10 : c.w = 1
        · have e1 : (c.w == 1) = true := by simpa using h10
          have h1 := hide h10
          clear h10
          by_cases hr0 : c.r = 0
          · have er : (c.r == 0) = true := by simpa using hr0
            have er' : (c.r != 0) = false := by simpa using hr0
            have hr := hide hr0
            clear hr0
            by_cases hn0 : n = 0
            · have en : ((n : Int) == 0) = true := by simpa using hn0
              have hn := hide hn0
              clear hn0
              go_wp2_with fail
              go_ret
              exact ⟨ret_bool (by rw [hR.out, if_neg h0.out, if_pos h1.out]; simp [hr.out, hn.out]), hk0.trans hk2 (by simp)⟩
            · have en : ((n : Int) == 0) = false := by simpa using hn0
              have hn := hide hn0
              clear hn0
              go_wp2_with fail
              go_ret
              exact ⟨ret_bool (by rw [hR.out, if_neg h0.out, if_pos h1.out]; simp [hr.out, hn.out]), hk0.trans hk2 (by simp)⟩
          · have er : (c.r == 0) = false := by simpa using hr0
            have er' : (c.r != 0) = true := by simpa using hr0
            have hr := hide hr0
            clear hr0
            go_wp2_with fail
            refine (hO.out _).mono ?_
            rintro e w3 ⟨rfl, hk3⟩
            go_wp2_with fail
            go_ret
            exact ⟨ret_bool (by rw [hR.out, if_neg h0.out, if_pos h1.out, if_neg hr.out]; rfl), hk0.trans (hk2.trans hk3 (by simp)) (by simp)⟩
        · have e1 : (c.w == 1) = false := by simpa using h10
          have h1 := hide h10
          clear h10
          by_cases h20 : c.w = 2
          · have e2 : (c.w == 2) = true := by simpa using h20
            have h2 := hide h20
            clear h20
            go_wp2_with fail
            refine (hO.out _).mono ?_
            rintro e w3 ⟨rfl, hk3⟩
            go_wp2_with fail
            go_ret
            exact ⟨ret_bool (by rw [hR.out, if_neg h0.out, if_neg h1.out, if_pos h2.out]; rfl), hk0.trans (hk2.trans hk3 (by simp)) (by simp)⟩
          · have e2 : (c.w == 2) = false := by simpa using h20
            have h2 := hide h20
            clear h20
            go_wp2_with fail
            go_ret
            exact ⟨ret_bool (by rw [hR.out, if_neg h0.out, if_neg h1.out, if_neg h2.out]; rfl), hk0.trans hk2 (by simp)⟩

theorem valid_ord {c : Cl} (h : validC c = true) (hr : c.r ≠ 0) : ordI c.m0 c.m1 c.m2 = true := by
  unfold validC at h
  rw [if_neg hr] at h
  simp only [Bool.and_eq_true] at h
  exact h.2.2

end Go.Proofs.YtnkddhmhjnhgcaaGreatDoor
