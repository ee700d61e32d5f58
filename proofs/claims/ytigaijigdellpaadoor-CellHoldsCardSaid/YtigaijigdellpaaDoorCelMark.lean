/- cell.Mark. -/
import Derived.Test.YtigaijigdellpaaDoorCelVal
namespace Go.Proofs.YtigaijigdellpaaDoor
open Go.RowKit
set_option linter.unusedVariables false

theorem CelIn.mark0 {w : World} {b : Nat} {c : Cl} (h : CelIn w b c) (x : Int) : CelIn (w.setCell ⟨b, 1, none⟩ (.int .i32 x)) b (setM c 0 x) := by
  have h0 := heap_set w b 1 (.int .i32 x) _ _ h
  simp only [List.setIfInBounds_toArray, List.set_cons_succ, List.set_cons_zero] at h0
  exact h0
theorem CelIn.mark1 {w : World} {b : Nat} {c : Cl} (h : CelIn w b c) (x : Int) : CelIn (w.setCell ⟨b, 2, none⟩ (.int .i32 x)) b (setM c 1 x) := by
  have h0 := heap_set w b 2 (.int .i32 x) _ _ h
  simp only [List.setIfInBounds_toArray, List.set_cons_succ, List.set_cons_zero] at h0
  exact h0
theorem CelIn.mark2 {w : World} {b : Nat} {c : Cl} (h : CelIn w b c) (x : Int) : CelIn (w.setCell ⟨b, 3, none⟩ (.int .i32 x)) b (setM c 2 x) := by
  have h0 := heap_set w b 3 (.int .i32 x) _ _ h
  simp only [List.setIfInBounds_toArray, List.set_cons_succ, List.set_cons_zero] at h0
  exact h0

set_option maxHeartbeats 1000000 in
theorem Mark_any (c : Cl) (x : Int) (w : World) (ht : Tabs w) : Calls Tryd.prog 31 #[.agg #[.int .i32 c.r, .int .i32 c.m0, .int .i32 c.m1, .int .i32 c.m2, .int .i64 c.w, .int .i64 c.p.f.k, .int .u8 c.p.f.i, .int .u8 c.p.f.r, .int .u8 c.p.f.g, .int .u8 c.p.f.b, .int .i64 c.p.b.k, .int .u8 c.p.b.i, .int .u8 c.p.b.r, .int .u8 c.p.b.g, .int .u8 c.p.b.b, .int .u8 c.p.fl], .int .i32 x] w fun e w' => e = .returned (.tuple #[.agg #[.int .i32 (markE c x).1.r, .int .i32 (markE c x).1.m0, .int .i32 (markE c x).1.m1, .int .i32 (markE c x).1.m2, .int .i64 (markE c x).1.w, .int .i64 (markE c x).1.p.f.k, .int .u8 (markE c x).1.p.f.i, .int .u8 (markE c x).1.p.f.r, .int .u8 (markE c x).1.p.f.g, .int .u8 (markE c x).1.p.f.b, .int .i64 (markE c x).1.p.b.k, .int .u8 (markE c x).1.p.b.i, .int .u8 (markE c x).1.p.b.r, .int .u8 (markE c x).1.p.b.g, .int .u8 (markE c x).1.p.b.b, .int .u8 (markE c x).1.p.fl], .int .i64 (markE c x).2]) ∧ Kept [] w w' := by
  obtain ⟨W0, hW0⟩ : ∃ z : World, z = (w.alloc (.cells #[.int .i32 c.r, .int .i32 c.m0, .int .i32 c.m1, .int .i32 c.m2, .int .i64 c.w, .int .i64 c.p.f.k, .int .u8 c.p.f.i, .int .u8 c.p.f.r, .int .u8 c.p.f.g, .int .u8 c.p.f.b, .int .i64 c.p.b.k, .int .u8 c.p.b.i, .int .u8 c.p.b.r, .int .u8 c.p.b.g, .int .u8 c.p.b.b, .int .u8 c.p.fl] 30)).alloc (.cells #[.int .i32 0, .int .i32 0, .int .i32 0, .int .i32 0, .int .i64 0, .int .i64 0, .int .u8 0, .int .u8 0, .int .u8 0, .int .u8 0, .int .i64 0, .int .u8 0, .int .u8 0, .int .u8 0, .int .u8 0, .int .u8 0] 30) := ⟨_, rfl⟩
  have hk0 : Kept [] w W0 := by rw [hW0]; exact ((Kept.refl [] w).alloc _).alloc _
  have hc0 : Hid (CelIn W0 w.heap.size c) := hide (by rw [hW0]; exact (CelIn.new w c).kept ((Kept.refl [] _).alloc _) (by simp))
  have hz0 : Hid (CelIn W0 (w.heap.size + 1) zeroK) := hide (by rw [hW0]; exact heap_new_at (by simp))
  have hN := hide (fun w1 (hk : Kept [] W0 w1) => markCount_any c.m0 c.m1 c.m2 w1 ((ht.kept hk0).kept hk))
  have hV := hide (fun w1 (hk : Kept [] W0 w1) => cvalid_any c w1 ((ht.kept hk0).kept hk))
  have hM := hide (fun w1 (hk : Kept [] W0 w1) => isMark4_any x w1 ((ht.kept hk0).kept hk))
  have hWr := hide (fun w1 => Written_any c w1)
  have hR := hide (show markE c x = if validC c = false ∨ mkI x = false then (zeroK, 2) else if c.r = 0 then (zeroK, 8) else if cntI c.m0 c.m1 c.m2 = 3 then (zeroK, 7) else (setM c (cntI c.m0 c.m1 c.m2) x, 0) from rfl)
  have hn3 := cnt_le c.m0 c.m1 c.m2
  generalize markE c x = R at *
  generalize cntI c.m0 c.m1 c.m2 = n at *
  generalize validC c = v at *
  generalize mkI x = m at *
  clear ht
  go_enter Tryd.func31, Tryd.ntmps31
  go_upto_region 1 with fail
  rw [← hW0]
  clear hW0
  obtain ⟨q0, q1, q2, q3, _⟩ := hc0.out.at
  go_wp2_with fail
  refine (hN.out W0 (Kept.refl [] W0)).mono ?_
  rintro e w1 ⟨rfl, hk1⟩
  clear q0 q1 q2 q3
  have r1 := (hc0.out.kept hk1 (by simp)).range
  have hnz : (n : Int) ≤ 3 := by omega
  go_wp2_with (refine wpList_load_cel rfl rfl w.heap.size 0 rfl r1 ?_)
  refine (hV.out w1 hk1).mono ?_
  rintro e w2 ⟨rfl, hk2'⟩
  have hk2 := hk1.trans hk2' (by simp)
  clear hk2' hk1 r1
  have fin : ∀ (W : World) (E : Cl × Int), Kept [] W0 W → CelIn W (w.heap.size + 1) zeroK := fun W _ hk => hz0.out.kept hk (by simp)
  have fin := hide fin
  cases v
  · have z2 := hz0.out.kept hk2 (by simp)
    go_wp2_with (refine wpList_store_cel rfl rfl rfl (w.heap.size + 1) rfl z2 zeroK rfl ?_; intro w3 hc3 hk3)
    refine bodyPost_ret (results_cel2 rfl rfl hc3 (v := .int .i64 2) rfl) rfl ?_
    exact ⟨by rw [hR.out]; rfl, (hk0.trans hk2 (by simp)).trans hk3 (by simp)⟩
  · go_wp2_with fail
    refine (hM.out w2 hk2).mono ?_
    rintro e w3 ⟨rfl, hk3'⟩
    have hk3 := hk2.trans hk3' (by simp)
    clear hk3' hk2
    cases m
    · have z3 := hz0.out.kept hk3 (by simp)
      go_wp2_with (refine wpList_store_cel rfl rfl rfl (w.heap.size + 1) rfl z3 zeroK rfl ?_; intro w4 hc4 hk4)
      refine bodyPost_ret (results_cel2 rfl rfl hc4 (v := .int .i64 2) rfl) rfl ?_
      exact ⟨by rw [hR.out]; rfl, (hk0.trans hk3 (by simp)).trans hk4 (by simp)⟩
    · have r3 := (hc0.out.kept hk3 (by simp)).range
      go_wp2_with (refine wpList_load_cel rfl rfl w.heap.size 0 rfl r3 ?_)
      refine (hWr.out w3).mono ?_
      rintro e w4 ⟨rfl, hk4'⟩
      have hk4 := hk3.trans hk4' (by simp)
      clear hk4' hk3 r3
      have z4 := hz0.out.kept hk4 (by simp)
      by_cases hr0 : c.r = 0
      · have hd : decide (c.r = 0) = true := decide_eq_true hr0
        have hr := hide hr0
        clear hr0
        go_wp2_with (refine wpList_store_cel rfl rfl rfl (w.heap.size + 1) rfl z4 zeroK rfl ?_; intro w5 hc5 hk5)
        refine bodyPost_ret (results_cel2 rfl rfl hc5 (v := .int .i64 8) rfl) rfl ?_
        exact ⟨by rw [hR.out, if_neg (by simp), if_pos hr.out], (hk0.trans hk4 (by simp)).trans hk5 (by simp)⟩
      · have hd : decide (c.r = 0) = false := decide_eq_false hr0
        have hr := hide hr0
        clear hr0
        have c4 := hc0.out.kept hk4 (by simp)
        obtain ⟨f0, f1, f2, f3, _⟩ := c4.froz
        obtain ⟨q0, q1, q2, q3, _⟩ := c4.at
        have hcs : n = 3 ∨ n = 0 ∨ n = 1 ∨ n = 2 := by omega
        rcases hcs with rfl | rfl | rfl | rfl
        · go_wp2_with (refine wpList_store_cel rfl rfl rfl (w.heap.size + 1) rfl z4 zeroK rfl ?_; intro w5 hc5 hk5)
          refine bodyPost_ret (results_cel2 rfl rfl hc5 (v := .int .i64 7) rfl) rfl ?_
          exact ⟨by rw [hR.out, if_neg (by simp), if_neg hr.out]; simp, (hk0.trans hk4 (by simp)).trans hk5 (by simp)⟩
        · have c5 := (c4.mark0 x).range
          have z5 := z4.kept ((Kept.refl [w.heap.size] w4).setCell (p := ⟨w.heap.size, 1, none⟩) (.inl (by simp)) (.int .i32 x)) (by simp)
          go_wp2_with (first | refine wpList_load_cel rfl rfl w.heap.size 0 rfl c5 ?_ | (refine wpList_store_cel rfl rfl rfl (w.heap.size + 1) rfl z5 (setM c 0 x) rfl ?_; intro w5 hc5 hk5))
          refine bodyPost_ret (results_cel2 rfl rfl hc5 (v := .int .i64 0) rfl) rfl ?_
          exact ⟨by rw [hR.out, if_neg (by simp), if_neg hr.out, if_neg (by simp)], ((hk0.trans hk4 (by simp)).setCell (.inr (Nat.le_refl _)) _).trans hk5 (by simp)⟩
        · have c5 := (c4.mark1 x).range
          have z5 := z4.kept ((Kept.refl [w.heap.size] w4).setCell (p := ⟨w.heap.size, 2, none⟩) (.inl (by simp)) (.int .i32 x)) (by simp)
          go_wp2_with (first | refine wpList_load_cel rfl rfl w.heap.size 0 rfl c5 ?_ | (refine wpList_store_cel rfl rfl rfl (w.heap.size + 1) rfl z5 (setM c 1 x) rfl ?_; intro w5 hc5 hk5))
          refine bodyPost_ret (results_cel2 rfl rfl hc5 (v := .int .i64 0) rfl) rfl ?_
          exact ⟨by rw [hR.out, if_neg (by simp), if_neg hr.out, if_neg (by simp)], ((hk0.trans hk4 (by simp)).setCell (.inr (Nat.le_refl _)) _).trans hk5 (by simp)⟩
        · have c5 := (c4.mark2 x).range
          have z5 := z4.kept ((Kept.refl [w.heap.size] w4).setCell (p := ⟨w.heap.size, 3, none⟩) (.inl (by simp)) (.int .i32 x)) (by simp)
          go_wp2_with (first | refine wpList_load_cel rfl rfl w.heap.size 0 rfl c5 ?_ | (refine wpList_store_cel rfl rfl rfl (w.heap.size + 1) rfl z5 (setM c 2 x) rfl ?_; intro w5 hc5 hk5))
          refine bodyPost_ret (results_cel2 rfl rfl hc5 (v := .int .i64 0) rfl) rfl ?_
          exact ⟨by rw [hR.out, if_neg (by simp), if_neg hr.out, if_neg (by simp)], ((hk0.trans hk4 (by simp)).setCell (.inr (Nat.le_refl _)) _).trans hk5 (by simp)⟩
end Go.Proofs.YtigaijigdellpaaDoor
