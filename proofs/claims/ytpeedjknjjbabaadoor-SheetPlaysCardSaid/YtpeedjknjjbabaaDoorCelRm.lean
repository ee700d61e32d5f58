/- The reference's marks, Valid, Mark. -/
import Derived.Test.YtpeedjknjjbabaaDoorCelMark
namespace Go.Proofs.YtpeedjknjjbabaaDoor
open Go.RowKit
set_option linter.unusedVariables false
set_option maxRecDepth 100000
set_option linter.unusedSimpArgs false

set_option maxHeartbeats 1000000 in
theorem rmarks_any (c : Cl) (w : World) : Calls Tryd.prog 58 #[.agg #[.int .i32 c.r, .int .i32 c.m0, .int .i32 c.m1, .int .i32 c.m2, .int .i64 c.w, .int .i64 c.p.f.k, .int .u8 c.p.f.i, .int .u8 c.p.f.r, .int .u8 c.p.f.g, .int .u8 c.p.f.b, .int .i64 c.p.b.k, .int .u8 c.p.b.i, .int .u8 c.p.b.r, .int .u8 c.p.b.g, .int .u8 c.p.b.b, .int .u8 c.p.fl]] w fun e w' => e = .returned (.tuple #[.int .i64 ((rmkI c.m0 c.m1 c.m2).1 : Nat), .bool (rmkI c.m0 c.m1 c.m2).2]) ∧ Kept [] w w' := by
  obtain ⟨W0, hW0⟩ : ∃ z : World, z = w.alloc (.cells #[.int .i32 c.r, .int .i32 c.m0, .int .i32 c.m1, .int .i32 c.m2, .int .i64 c.w, .int .i64 c.p.f.k, .int .u8 c.p.f.i, .int .u8 c.p.f.r, .int .u8 c.p.f.g, .int .u8 c.p.f.b, .int .i64 c.p.b.k, .int .u8 c.p.b.i, .int .u8 c.p.b.r, .int .u8 c.p.b.g, .int .u8 c.p.b.b, .int .u8 c.p.fl] 71) := ⟨_, rfl⟩
  have hk0 : Kept [] w W0 := by rw [hW0]; exact (Kept.refl [] w).alloc _
  have hc0 : CelIn W0 w.heap.size c := by rw [hW0]; exact CelIn.new w c
  obtain ⟨_, q1, q2, q3, _⟩ := hc0.at
  have hOa := hide (fun w1 => rof_any c.m0 w1)
  have hOb := hide (fun w1 => rof_any c.m1 w1)
  have hOd := hide (fun w1 => rof_any c.m2 w1)
  generalize hga : c.m0 = a at *
  generalize hgb : c.m1 = b at *
  generalize hgd : c.m2 = d at *
  generalize hRR : rmkI a b d = R at *
  have hR := hide hRR.symm
  clear hRR
  have fx : ∀ v : Int, ∃ x : Bool, mkI v = x ∧ (ofI v != 0) = !x := fun v => ⟨mkI v, rfl, by unfold mkI; rfl⟩
  obtain ⟨xa, hxa', fa⟩ := fx a
  obtain ⟨xb, hxb', fb⟩ := fx b
  obtain ⟨xd, hxd', fd⟩ := fx d
  have hxa := hide hxa'.symm
  have hxb := hide hxb'.symm
  have hxd := hide hxd'.symm
  clear hxa' hxb' hxd' fx hc0
  generalize ofI a = oa at *
  generalize ofI b = ob at *
  generalize ofI d = od at *
  go_enter Tryd.func58, Tryd.ntmps58
  go_upto_region 2 with fail
  try rw [hga, hgb, hgd]
  rw [← hW0]
  clear hW0
  have p1 := q1
  have p2 := q2
  have p3 := q3
  have q1 := hide q1
  have q2 := hide q2
  have q3 := hide q3
  refine wp_loop_rounds 4 ?_
  by_cases ha0 : a = 0
  · have ea : (a != 0) = false := by simpa using ha0
    have ha := hide ha0
    clear ha0
    rw [rounds_succ]
    go_wp2_with fail
    refine wp_loop_rounds 4 ?_
    rw [rounds_succ]
    go_wp2_with fail
    by_cases hb0 : b = 0
    · have eb : (b != 0) = false := by simpa using hb0
      have hb := hide hb0
      clear hb0
      rw [rounds_succ]
      go_wp2_with fail
      by_cases hd0 : d = 0
      · have ed : (d != 0) = false := by simpa using hd0
        have hd := hide hd0
        clear hd0
        rw [rounds_succ]
        go_wp2_with fail
        rw [rounds_succ]
        go_wp2_with fail
        go_ret2
        exact ⟨by rw [hR.out]; unfold rmkI; simp [ha.out, hb.out, hd.out], hk0.trans (Kept.refl [] W0) (by simp)⟩
      · have ed : (d != 0) = true := by simpa using hd0
        have hd := hide hd0
        clear hd0
        rw [rounds_succ]
        go_wp2_with fail
        go_ret2
        exact ⟨by rw [hR.out]; unfold rmkI; simp [ha.out, hb.out, hd.out], hk0.trans (Kept.refl [] W0) (by simp)⟩
    · have eb : (b != 0) = true := by simpa using hb0
      have hb := hide hb0
      clear hb0
      rw [rounds_succ]
      go_wp2_with fail
      go_ret2
      exact ⟨by rw [hR.out]; unfold rmkI; simp [ha.out, hb.out], hk0.trans (Kept.refl [] W0) (by simp)⟩
  · have ea : (a != 0) = true := by simpa using ha0
    have ha := hide ha0
    clear ha0
    rw [rounds_succ]
    go_wp2_with fail
    refine (hOa.out W0).mono ?_
    rintro e w1 ⟨rfl, jw1⟩
    have kw1 := ((Kept.refl [] W0)).trans jw1 (by simp)
    clear p1 p2 p3
    have p1 := kw1.cell q1.out (by simp)
    have p2 := kw1.cell q2.out (by simp)
    have p3 := kw1.cell q3.out (by simp)
    cases xa
    · go_wp2_with fail
      go_ret2
      exact ⟨by rw [hR.out]; unfold rmkI; simp [ha.out, ← hxa.out], hk0.trans kw1 (by simp)⟩
    · go_wp2_with fail
      by_cases hb0 : b = 0
      · have eb : (b != 0) = false := by simpa using hb0
        have hb := hide hb0
        clear hb0
        rw [rounds_succ]
        go_wp2_with fail
        refine wp_loop_rounds 4 ?_
        rw [rounds_succ]
        go_wp2_with fail
        by_cases hd0 : d = 0
        · have ed : (d != 0) = false := by simpa using hd0
          have hd := hide hd0
          clear hd0
          rw [rounds_succ]
          go_wp2_with fail
          rw [rounds_succ]
          go_wp2_with fail
          go_ret2
          exact ⟨by rw [hR.out]; unfold rmkI; simp [ha.out, ← hxa.out, hb.out, hd.out], hk0.trans kw1 (by simp)⟩
        · have ed : (d != 0) = true := by simpa using hd0
          have hd := hide hd0
          clear hd0
          rw [rounds_succ]
          go_wp2_with fail
          go_ret2
          exact ⟨by rw [hR.out]; unfold rmkI; simp [ha.out, ← hxa.out, hb.out, hd.out], hk0.trans kw1 (by simp)⟩
      · have eb : (b != 0) = true := by simpa using hb0
        have hb := hide hb0
        clear hb0
        rw [rounds_succ]
        go_wp2_with fail
        refine (hOb.out w1).mono ?_
        rintro e w2 ⟨rfl, jw2⟩
        have kw2 := (kw1).trans jw2 (by simp)
        clear p1 p2 p3
        have p1 := kw2.cell q1.out (by simp)
        have p2 := kw2.cell q2.out (by simp)
        have p3 := kw2.cell q3.out (by simp)
        cases xb
        · go_wp2_with fail
          go_ret2
          exact ⟨by rw [hR.out]; unfold rmkI; simp [ha.out, ← hxa.out, hb.out, ← hxb.out], hk0.trans kw2 (by simp)⟩
        · go_wp2_with fail
          by_cases hd0 : d = 0
          · have ed : (d != 0) = false := by simpa using hd0
            have hd := hide hd0
            clear hd0
            rw [rounds_succ]
            go_wp2_with fail
            refine wp_loop_rounds 4 ?_
            rw [rounds_succ]
            go_wp2_with fail
            rw [rounds_succ]
            go_wp2_with fail
            go_ret2
            exact ⟨by rw [hR.out]; unfold rmkI; simp [ha.out, ← hxa.out, hb.out, ← hxb.out, hd.out], hk0.trans kw2 (by simp)⟩
          · have ed : (d != 0) = true := by simpa using hd0
            have hd := hide hd0
            clear hd0
            rw [rounds_succ]
            go_wp2_with fail
            refine (hOd.out w2).mono ?_
            rintro e w3 ⟨rfl, jw3⟩
            have kw3 := (kw2).trans jw3 (by simp)
            clear p1 p2 p3
            have p1 := kw3.cell q1.out (by simp)
            have p2 := kw3.cell q2.out (by simp)
            have p3 := kw3.cell q3.out (by simp)
            cases xd
            · go_wp2_with fail
              go_ret2
              exact ⟨by rw [hR.out]; unfold rmkI; simp [ha.out, ← hxa.out, hb.out, ← hxb.out, hd.out, ← hxd.out], hk0.trans kw3 (by simp)⟩
            · go_wp2_with fail
              rw [rounds_succ]
              go_wp2_with fail
              refine wp_loop_rounds 4 ?_
              rw [rounds_succ]
              go_wp2_with fail
              go_ret2
              exact ⟨by rw [hR.out]; unfold rmkI; simp [ha.out, ← hxa.out, hb.out, ← hxb.out, hd.out, ← hxd.out], hk0.trans kw3 (by simp)⟩
end Go.Proofs.YtpeedjknjjbabaaDoor
