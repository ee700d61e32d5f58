/- The reference's Valid, Mark. -/
import Derived.Test.YtigaijigdellpaaDoorCelRm
namespace Go.Proofs.YtigaijigdellpaaDoor
open Go.RowKit
set_option linter.unusedVariables false
set_option linter.unusedSimpArgs false

set_option maxHeartbeats 1000000 in
theorem rcvalid_any (c : Cl) (w : World) : Calls Tryd.prog 15 #[.agg #[.int .i32 c.r, .int .i32 c.m0, .int .i32 c.m1, .int .i32 c.m2, .int .i64 c.w, .int .i64 c.p.f.k, .int .u8 c.p.f.i, .int .u8 c.p.f.r, .int .u8 c.p.f.g, .int .u8 c.p.f.b, .int .i64 c.p.b.k, .int .u8 c.p.b.i, .int .u8 c.p.b.r, .int .u8 c.p.b.g, .int .u8 c.p.b.b, .int .u8 c.p.fl]] w fun e w' => e = .returned (.bool (validC c)) ∧ Kept [] w w' := by
  obtain ⟨W0, hW0⟩ : ∃ z : World, z = w.alloc (.cells #[.int .i32 c.r, .int .i32 c.m0, .int .i32 c.m1, .int .i32 c.m2, .int .i64 c.w, .int .i64 c.p.f.k, .int .u8 c.p.f.i, .int .u8 c.p.f.r, .int .u8 c.p.f.g, .int .u8 c.p.f.b, .int .i64 c.p.b.k, .int .u8 c.p.b.i, .int .u8 c.p.b.r, .int .u8 c.p.b.g, .int .u8 c.p.b.b, .int .u8 c.p.fl] 30) := ⟨_, rfl⟩
  have hk0 : Kept [] w W0 := by rw [hW0]; exact (Kept.refl [] w).alloc _
  have hc0 : Hid (CelIn W0 w.heap.size c) := hide (by rw [hW0]; exact CelIn.new w c)
  have hM := hide (fun w1 => rmarks_any c w1)
  have hP := hide (fun w1 => rvalid_is c.p _ rfl w1)
  have hO := hide (fun w1 => rof_any c.r w1)
  have hR : validC c = _ := (rvalidC_is c).symm
  unfold rvalidC at hR
  generalize rmkI c.m0 c.m1 c.m2 = ni at *
  generalize decide (penOk c.p) = pk at *
  generalize ofI c.r = o at *
  generalize validC c = R at *
  obtain ⟨n, is⟩ := ni
  have hR := hide hR
  simp only at hM
  have r0 := hc0.out.range
  go_enter Tryd.func15, Tryd.ntmps15
  go_upto_region 1 with fail
  rw [← hW0]
  clear hW0
  go_wp2_with (refine wpList_load_cel rfl rfl w.heap.size 0 rfl r0 ?_)
  refine (hM.out _).mono ?_
  rintro e w1 ⟨rfl, hk1⟩
  clear r0
  have r1 := (hc0.out.kept hk1 (by simp)).range.pen
  go_wp2_with (refine wpList_load_pen rfl rfl w.heap.size 5 rfl r1 ?_)
  refine (hP.out _).mono ?_
  rintro e w2 ⟨rfl, hk2'⟩
  have hk2 := hk1.trans hk2' (by simp)
  clear r1 hk2' hk1
  cases pk
  · go_wp2_with fail
    go_ret
    exact ⟨ret_bool (by rw [hR.out]; rfl), hk0.trans hk2 (by simp)⟩
  · cases is
    · go_wp2_with fail
      go_ret
      exact ⟨ret_bool (by rw [hR.out]; rfl), hk0.trans hk2 (by simp)⟩
    · obtain ⟨q0, _, _, _, q4, _⟩ := (hc0.out.kept hk2 (by simp)).at
      by_cases h00 : c.w = 0
      · have e0 : (c.w == 0) = true := by simpa using h00
        have h0 := hide h00
        clear h00
        by_cases hr0 : c.r = 0
        · have er : (c.r == 0) = true := by simpa using hr0
          have hr := hide hr0
          clear hr0
          go_wp2_with fail
          go_ret
          exact ⟨ret_bool (by rw [hR.out, if_pos h0.out, Bool.eq_iff_iff]; simp [hr.out]), hk0.trans hk2 (by simp)⟩
        · have er : (c.r == 0) = false := by simpa using hr0
          have hr := hide hr0
          clear hr0
          go_wp2_with fail
          go_ret
          exact ⟨ret_bool (by rw [hR.out, if_pos h0.out, Bool.eq_iff_iff]; simp [hr.out]), hk0.trans hk2 (by simp)⟩
      · have e0 : (c.w == 0) = false := by simpa using h00
        have h0 := hide h00
        clear h00
        by_cases h10 : c.w = 1
        · have e1 : (c.w == 1) = true := by simpa using h10
          have h1 := hide h10
          clear h10
          by_cases hr0 : c.r = 0
          · have er : (c.r == 0) = true := by simpa using hr0
            have er' : (c.r != 0) = false := by simpa using hr0
            have hr := hide hr0
            clear hr0
            by_cases hn0 : n = 0
            · have en : ((n : Int) == 0) = true := by simpa using hn0
              have hn := hide hn0
              clear hn0
              go_wp2_with fail
              go_ret
              exact ⟨ret_bool (by rw [hR.out, if_neg h0.out, if_pos h1.out]; simp [hr.out, hn.out]), hk0.trans hk2 (by simp)⟩
            · have en : ((n : Int) == 0) = false := by simpa using hn0
              have hn := hide hn0
              clear hn0
              go_wp2_with fail
              go_ret
              exact ⟨ret_bool (by rw [hR.out, if_neg h0.out, if_pos h1.out]; simp [hr.out, hn.out]), hk0.trans hk2 (by simp)⟩
          · have er : (c.r == 0) = false := by simpa using hr0
            have er' : (c.r != 0) = true := by simpa using hr0
            have hr := hide hr0
            clear hr0
            go_wp2_with fail
            refine (hO.out _).mono ?_
            rintro e w3 ⟨rfl, hk3⟩
            go_wp2_with fail
            go_ret
            exact ⟨ret_bool (by rw [hR.out, if_neg h0.out, if_pos h1.out, if_neg hr.out]; rfl), hk0.trans (hk2.trans hk3 (by simp)) (by simp)⟩
        · have e1 : (c.w == 1) = false := by simpa using h10
          have h1 := hide h10
          clear h10
          by_cases h20 : c.w = 2
          · have e2 : (c.w == 2) = true := by simpa using h20
            have h2 := hide h20
            clear h20
            go_wp2_with fail
            refine (hO.out _).mono ?_
            rintro e w3 ⟨rfl, hk3⟩
            go_wp2_with fail
            go_ret
            exact ⟨ret_bool (by rw [hR.out, if_neg h0.out, if_neg h1.out, if_pos h2.out]; rfl), hk0.trans (hk2.trans hk3 (by simp)) (by simp)⟩
          · have e2 : (c.w == 2) = false := by simpa using h20
            have h2 := hide h20
            clear h20
            go_wp2_with fail
            go_ret
            exact ⟨ret_bool (by rw [hR.out, if_neg h0.out, if_neg h1.out, if_neg h2.out]; rfl), hk0.trans hk2 (by simp)⟩

theorem valid_ord {c : Cl} (h : validC c = true) (hr : c.r ≠ 0) : ordI c.m0 c.m1 c.m2 = true := by
  unfold validC at h
  rw [if_neg hr] at h
  simp only [Bool.and_eq_true] at h
  exact h.2.2

set_option maxHeartbeats 1000000 in
theorem rMark_any (c : Cl) (x : Int) (w : World) : Calls Tryd.prog 20 #[.agg #[.int .i32 c.r, .int .i32 c.m0, .int .i32 c.m1, .int .i32 c.m2, .int .i64 c.w, .int .i64 c.p.f.k, .int .u8 c.p.f.i, .int .u8 c.p.f.r, .int .u8 c.p.f.g, .int .u8 c.p.f.b, .int .i64 c.p.b.k, .int .u8 c.p.b.i, .int .u8 c.p.b.r, .int .u8 c.p.b.g, .int .u8 c.p.b.b, .int .u8 c.p.fl], .int .i32 x] w fun e w' => e = .returned (.tuple #[.agg #[.int .i32 (markE c x).1.r, .int .i32 (markE c x).1.m0, .int .i32 (markE c x).1.m1, .int .i32 (markE c x).1.m2, .int .i64 (markE c x).1.w, .int .i64 (markE c x).1.p.f.k, .int .u8 (markE c x).1.p.f.i, .int .u8 (markE c x).1.p.f.r, .int .u8 (markE c x).1.p.f.g, .int .u8 (markE c x).1.p.f.b, .int .i64 (markE c x).1.p.b.k, .int .u8 (markE c x).1.p.b.i, .int .u8 (markE c x).1.p.b.r, .int .u8 (markE c x).1.p.b.g, .int .u8 (markE c x).1.p.b.b, .int .u8 (markE c x).1.p.fl], .int .i64 (markE c x).2]) ∧ Kept [] w w' := by
  obtain ⟨W0, hW0⟩ : ∃ z : World, z = (w.alloc (.cells #[.int .i32 c.r, .int .i32 c.m0, .int .i32 c.m1, .int .i32 c.m2, .int .i64 c.w, .int .i64 c.p.f.k, .int .u8 c.p.f.i, .int .u8 c.p.f.r, .int .u8 c.p.f.g, .int .u8 c.p.f.b, .int .i64 c.p.b.k, .int .u8 c.p.b.i, .int .u8 c.p.b.r, .int .u8 c.p.b.g, .int .u8 c.p.b.b, .int .u8 c.p.fl] 30)).alloc (.cells #[.int .i32 0, .int .i32 0, .int .i32 0, .int .i32 0, .int .i64 0, .int .i64 0, .int .u8 0, .int .u8 0, .int .u8 0, .int .u8 0, .int .i64 0, .int .u8 0, .int .u8 0, .int .u8 0, .int .u8 0, .int .u8 0] 30) := ⟨_, rfl⟩
  have hk0 : Kept [] w W0 := by rw [hW0]; exact ((Kept.refl [] w).alloc _).alloc _
  have hc0 : Hid (CelIn W0 w.heap.size c) := hide (by rw [hW0]; exact (CelIn.new w c).kept ((Kept.refl [] _).alloc _) (by simp))
  have hz0 : Hid (CelIn W0 (w.heap.size + 1) zeroK) := hide (by rw [hW0]; exact heap_new_at (by simp))
  have hM := hide (fun w1 => rmarks_any c w1)
  have hV := hide (fun w1 => rcvalid_any c w1)
  have hO := hide (fun w1 => rof_any x w1)
  have hR := hide (show markE c x = if validC c = false ∨ mkI x = false then (zeroK, 2) else if c.r = 0 then (zeroK, 8) else if cntI c.m0 c.m1 c.m2 = 3 then (zeroK, 7) else (setM c (cntI c.m0 c.m1 c.m2) x, 0) from rfl)
  have hn3 := cnt_le c.m0 c.m1 c.m2
  have hcnt := hide (fun (hv : validC c = true) hr => rmk_cnt _ _ _ (valid_ord hv hr))
  have hmx : (ofI x != 0) = !mkI x := rfl
  generalize markE c x = R at *
  generalize cntI c.m0 c.m1 c.m2 = n at *
  generalize rmkI c.m0 c.m1 c.m2 = ni at *
  generalize validC c = v at *
  generalize mkI x = m at *
  generalize ofI x = o at *
  obtain ⟨n', is⟩ := ni
  simp only at hM hcnt
  go_enter Tryd.func20, Tryd.ntmps20
  go_upto_region 1 with fail
  rw [← hW0]
  clear hW0
  have r0 := hc0.out.range
  go_wp2_with (refine wpList_load_cel rfl rfl w.heap.size 0 rfl r0 ?_)
  refine (hV.out _).mono ?_
  rintro e w2 ⟨rfl, hk2⟩
  clear r0
  cases v
  · have z2 := hz0.out.kept hk2 (by simp)
    go_wp2_with (refine wpList_store_cel rfl rfl rfl (w.heap.size + 1) rfl z2 zeroK rfl ?_; intro w3 hc3 hk3)
    refine bodyPost_ret (results_cel2 rfl rfl hc3 (v := .int .i64 2) rfl) rfl ?_
    exact ⟨by rw [hR.out]; rfl, (hk0.trans hk2 (by simp)).trans hk3 (by simp)⟩
  · go_wp2_with fail
    refine (hO.out w2).mono ?_
    rintro e w3 ⟨rfl, hk3'⟩
    have hk3 := hk2.trans hk3' (by simp)
    clear hk3' hk2
    cases m
    · have z3 := hz0.out.kept hk3 (by simp)
      go_wp2_with (refine wpList_store_cel rfl rfl rfl (w.heap.size + 1) rfl z3 zeroK rfl ?_; intro w4 hc4 hk4)
      refine bodyPost_ret (results_cel2 rfl rfl hc4 (v := .int .i64 2) rfl) rfl ?_
      exact ⟨by rw [hR.out]; rfl, (hk0.trans hk3 (by simp)).trans hk4 (by simp)⟩
    · obtain ⟨q0, _⟩ := (hc0.out.kept hk3 (by simp)).at
      have z3 := hz0.out.kept hk3 (by simp)
      by_cases hr0 : c.r = 0
      · have hd : (c.r == 0) = true := by simpa using hr0
        have hr := hide hr0
        clear hr0
        go_wp2_with (refine wpList_store_cel rfl rfl rfl (w.heap.size + 1) rfl z3 zeroK rfl ?_; intro w5 hc5 hk5)
        refine bodyPost_ret (results_cel2 rfl rfl hc5 (v := .int .i64 8) rfl) rfl ?_
        exact ⟨by rw [hR.out, if_neg (by simp), if_pos hr.out], (hk0.trans hk3 (by simp)).trans hk5 (by simp)⟩
      · have hd : (c.r == 0) = false := by simpa using hr0
        have hr := hide hr0
        clear hr0
        have r3 := (hc0.out.kept hk3 (by simp)).range
        obtain rfl : n' = n := hcnt.out trivial hr.out
        go_wp2_with (refine wpList_load_cel rfl rfl w.heap.size 0 rfl r3 ?_)
        refine (hM.out w3).mono ?_
        rintro e w4 ⟨rfl, hk4'⟩
        have hk4 := hk3.trans hk4' (by simp)
        clear hk4' hk3 r3 q0 z3
        have z4 := hz0.out.kept hk4 (by simp)
        have c4 := hc0.out.kept hk4 (by simp)
        obtain ⟨f0, f1, f2, f3, _⟩ := c4.froz
        obtain ⟨q0, q1, q2, q3, _⟩ := c4.at
        have hcs : n' = 3 ∨ n' = 0 ∨ n' = 1 ∨ n' = 2 := by omega
        rcases hcs with rfl | rfl | rfl | rfl
        · go_wp2_with (refine wpList_store_cel rfl rfl rfl (w.heap.size + 1) rfl z4 zeroK rfl ?_; intro w5 hc5 hk5)
          refine bodyPost_ret (results_cel2 rfl rfl hc5 (v := .int .i64 7) rfl) rfl ?_
          exact ⟨by rw [hR.out, if_neg (by simp), if_neg hr.out]; simp, (hk0.trans hk4 (by simp)).trans hk5 (by simp)⟩
        · have c5 := (c4.mark0 x).range
          have z5 := z4.kept ((Kept.refl [w.heap.size] w4).setCell (p := ⟨w.heap.size, 1, none⟩) (.inl (by simp)) (.int .i32 x)) (by simp)
          go_wp2_with (first | refine wpList_load_cel rfl rfl w.heap.size 0 rfl c5 ?_ | (refine wpList_store_cel rfl rfl rfl (w.heap.size + 1) rfl z5 (setM c 0 x) rfl ?_; intro w5 hc5 hk5))
          refine bodyPost_ret (results_cel2 rfl rfl hc5 (v := .int .i64 0) rfl) rfl ?_
          exact ⟨by rw [hR.out, if_neg (by simp), if_neg hr.out, if_neg (by simp)], ((hk0.trans hk4 (by simp)).setCell (.inr (Nat.le_refl _)) _).trans hk5 (by simp)⟩
        · have c5 := (c4.mark1 x).range
          have z5 := z4.kept ((Kept.refl [w.heap.size] w4).setCell (p := ⟨w.heap.size, 2, none⟩) (.inl (by simp)) (.int .i32 x)) (by simp)
          go_wp2_with (first | refine wpList_load_cel rfl rfl w.heap.size 0 rfl c5 ?_ | (refine wpList_store_cel rfl rfl rfl (w.heap.size + 1) rfl z5 (setM c 1 x) rfl ?_; intro w5 hc5 hk5))
          refine bodyPost_ret (results_cel2 rfl rfl hc5 (v := .int .i64 0) rfl) rfl ?_
          exact ⟨by rw [hR.out, if_neg (by simp), if_neg hr.out, if_neg (by simp)], ((hk0.trans hk4 (by simp)).setCell (.inr (Nat.le_refl _)) _).trans hk5 (by simp)⟩
        · have c5 := (c4.mark2 x).range
          have z5 := z4.kept ((Kept.refl [w.heap.size] w4).setCell (p := ⟨w.heap.size, 3, none⟩) (.inl (by simp)) (.int .i32 x)) (by simp)
          go_wp2_with (first | refine wpList_load_cel rfl rfl w.heap.size 0 rfl c5 ?_ | (refine wpList_store_cel rfl rfl rfl (w.heap.size + 1) rfl z5 (setM c 2 x) rfl ?_; intro w5 hc5 hk5))
          refine bodyPost_ret (results_cel2 rfl rfl hc5 (v := .int .i64 0) rfl) rfl ?_
          exact ⟨by rw [hR.out, if_neg (by simp), if_neg hr.out, if_neg (by simp)], ((hk0.trans hk4 (by simp)).setCell (.inr (Nat.le_refl _)) _).trans hk5 (by simp)⟩
end Go.Proofs.YtigaijigdellpaaDoor
