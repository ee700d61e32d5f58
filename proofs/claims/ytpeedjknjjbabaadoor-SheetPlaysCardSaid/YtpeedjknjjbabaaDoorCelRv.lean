/- The reference's Valid, Mark. -/
import Derived.Test.YtpeedjknjjbabaaDoorCelRm
namespace Go.Proofs.YtpeedjknjjbabaaDoor
open Go.RowKit
set_option linter.unusedVariables false
set_option maxRecDepth 100000
set_option linter.unusedSimpArgs false

set_option maxHeartbeats 1000000 in
theorem rcvalid_any (c : Cl) (w : World) : Calls Tryd.prog 52 #[.agg #[.int .i32 c.r, .int .i32 c.m0, .int .i32 c.m1, .int .i32 c.m2, .int .i64 c.w, .int .i64 c.p.f.k, .int .u8 c.p.f.i, .int .u8 c.p.f.r, .int .u8 c.p.f.g, .int .u8 c.p.f.b, .int .i64 c.p.b.k, .int .u8 c.p.b.i, .int .u8 c.p.b.r, .int .u8 c.p.b.g, .int .u8 c.p.b.b, .int .u8 c.p.fl]] w fun e w' => e = .returned (.bool (validC c)) ∧ Kept [] w w' := by
  obtain ⟨W0, hW0⟩ : ∃ z : World, z = w.alloc (.cells #[.int .i32 c.r, .int .i32 c.m0, .int .i32 c.m1, .int .i32 c.m2, .int .i64 c.w, .int .i64 c.p.f.k, .int .u8 c.p.f.i, .int .u8 c.p.f.r, .int .u8 c.p.f.g, .int .u8 c.p.f.b, .int .i64 c.p.b.k, .int .u8 c.p.b.i, .int .u8 c.p.b.r, .int .u8 c.p.b.g, .int .u8 c.p.b.b, .int .u8 c.p.fl] 71) := ⟨_, rfl⟩
  have hk0 : Kept [] w W0 := by rw [hW0]; exact (Kept.refl [] w).alloc _
  have hc0 : Hid (CelIn W0 w.heap.size c) := hide (by rw [hW0]; exact CelIn.new w c)
  have hM := hide (fun w1 => rmarks_any c w1)
  have hP := hide (fun w1 => rvalid_is c.p _ rfl w1)
  have hO := hide (fun w1 => rof_any c.r w1)
  have hR : validC c = _ := (rvalidC_is c).symm
  unfold rvalidC at hR
  generalize rmkI c.m0 c.m1 c.m2 = ni at *
  generalize decide (penOk c.p) = pk at *
  generalize ofI c.r = o at *
  generalize validC c = R at *
  obtain ⟨n, is⟩ := ni
  have hR := hide hR
  simp only at hM
  have r0 := hc0.out.range
  go_enter Tryd.func52, Tryd.ntmps52
  go_upto_region 1 with fail
  rw [← hW0]
  clear hW0
  go_wp2_with (refine wpList_load_cel rfl rfl w.heap.size 0 rfl r0 ?_)
  refine (hM.out _).mono ?_
  rintro e w1 ⟨rfl, hk1⟩
  clear r0
  have r1 := (hc0.out.kept hk1 (by simp)).range.pen
  go_wp2_with (refine wpList_load_pen rfl rfl w.heap.size 5 rfl r1 ?_)
  refine (hP.out _).mono ?_
  rintro e w2 ⟨rfl, hk2'⟩
  have hk2 := hk1.trans hk2' (by simp)
  clear r1 hk2' hk1
  cases pk
  · go_wp2_with fail
    go_ret
    exact ⟨ret_bool (by rw [hR.out]; rfl), hk0.trans hk2 (by simp)⟩
  · cases is
    · go_wp2_with fail
      go_ret
      exact ⟨ret_bool (by rw [hR.out]; rfl), hk0.trans hk2 (by simp)⟩
    · obtain ⟨q0, _, _, _, q4, _⟩ := (hc0.out.kept hk2 (by simp)).at
      by_cases h00 : c.w = 0
      · have e0 : (c.w == 0) = true := by simpa using h00
        have h0 := hide h00
        clear h00
        by_cases hr0 : c.r = 0
        · have er : (c.r == 0) = true := by simpa using hr0
          have hr := hide hr0
          clear hr0
          go_wp2_with fail
          go_ret
          exact ⟨ret_bool (by rw [hR.out, if_pos h0.out, Bool.eq_iff_iff]; simp [hr.out]), hk0.trans hk2 (by simp)⟩
        · have er : (c.r == 0) = false := by simpa using hr0
          have hr := hide hr0
          clear hr0
          go_wp2_with fail
          go_ret
          exact ⟨ret_bool (by rw [hR.out, if_pos h0.out, Bool.eq_iff_iff]; simp [hr.out]), hk0.trans hk2 (by simp)⟩
      · have e0 : (c.w == 0) = false := by simpa using h00
        have h0 := hide h00
        clear h00
        by_cases h10 : c.w = 1
        · have e1 : (c.w == 1) = true := by simpa using h10
          have h1 := hide h10
          clear h10
          by_cases hr0 : c.r = 0
          · have er : (c.r == 0) = true := by simpa using hr0
            have er' : (c.r != 0) = false := by simpa using hr0
            have hr := hide hr0
            clear hr0
            by_cases hn0 : n = 0
            · have en : ((n : Int) == 0) = true := by simpa using hn0
              have hn := hide hn0
              clear hn0
              go_wp2_with fail
              go_ret
              exact ⟨ret_bool (by rw [hR.out, if_neg h0.out, if_pos h1.out]; simp [hr.out, hn.out]), hk0.trans hk2 (by simp)⟩
            · have en : ((n : Int) == 0) = false := by simpa using hn0
              have hn := hide hn0
              clear hn0
              go_wp2_with fail
              go_ret
              exact ⟨ret_bool (by rw [hR.out, if_neg h0.out, if_pos h1.out]; simp [hr.out, hn.out]), hk0.trans hk2 (by simp)⟩
          · have er : (c.r == 0) = false := by simpa using hr0
            have er' : (c.r != 0) = true := by simpa using hr0
            have hr := hide hr0
            clear hr0
            go_wp2_with fail
            refine (hO.out _).mono ?_
            rintro e w3 ⟨rfl, hk3⟩
            go_wp2_with fail
            go_ret
            exact ⟨ret_bool (by rw [hR.out, if_neg h0.out, if_pos h1.out, if_neg hr.out]; rfl), hk0.trans (hk2.trans hk3 (by simp)) (by simp)⟩
        · have e1 : (c.w == 1) = false := by simpa using h10
          have h1 := hide h10
          clear h10
          by_cases h20 : c.w = 2
          · have e2 : (c.w == 2) = true := by simpa using h20
            have h2 := hide h20
            clear h20
            go_wp2_with fail
            refine (hO.out _).mono ?_
            rintro e w3 ⟨rfl, hk3⟩
            go_wp2_with fail
            go_ret
            exact ⟨ret_bool (by rw [hR.out, if_neg h0.out, if_neg h1.out, if_pos h2.out]; rfl), hk0.trans (hk2.trans hk3 (by simp)) (by simp)⟩
          · have e2 : (c.w == 2) = false := by simpa using h20
            have h2 := hide h20
            clear h20
            go_wp2_with fail
            go_ret
            exact ⟨ret_bool (by rw [hR.out, if_neg h0.out, if_neg h1.out, if_neg h2.out]; rfl), hk0.trans hk2 (by simp)⟩

theorem valid_ord {c : Cl} (h : validC c = true) (hr : c.r ≠ 0) : ordI c.m0 c.m1 c.m2 = true := by
  unfold validC at h
  rw [if_neg hr] at h
  simp only [Bool.and_eq_true] at h
  exact h.2.2

end Go.Proofs.YtpeedjknjjbabaaDoor
