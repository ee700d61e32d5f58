/- The program's functions of layer 6: Equal, Used, Text, Trim. -/
import Derived.Test.YtkhdnaopdhnkaaaDoorLinFn
import Derived.WalkMore
namespace Go.Proofs.YtkhdnaopdhnkaaaDoor
open Go.RowKit
set_option linter.unusedVariables false
set_option maxRecDepth 100000

set_option maxHeartbeats 1000000 in
theorem EqualC_any (a : Option Addr) (n c : Nat) (l : List Cl) (a2 : Option Addr) (n2 c2 : Nat) (m : List Cl) (w : World) (hr : Rd w a n 16 (cellsV l)) (hr2 : Rd w a2 n2 16 (cellsV m)) (hn : n ≤ 1000000) :
    Calls Tryd.prog 47 #[.slice a n c, .slice a2 n2 c2] w fun e w' => e = .returned (.bool (decide (l = m))) ∧ Kept [] w w' := by
  have hl := hr.clen
  have hm := hr2.clen
  by_cases hnn0 : n = n2
  · subst hnn0
    have hH := hide hr
    have hH2 := hide hr2
    clear hr hr2
    go_enter Tryd.func47, Tryd.ntmps47
    go_wp2_with fail
    have hl := hide hl
    have hm := hide hm
    go_loopg [5, 13, 14, 15, 16, 17, 18, 19, 20, 21, 22, 23, 24, 25] n (fun kx s5 s13 s14 s15 s16 s17 s18 s19 s20 s21 s22 s23 s24 s25 wr => ∃ k : Nat, s13 = .int .i64 k ∧ k ≤ n ∧ n - k ≤ kx ∧ Hid (l.take k = m.take k) ∧ Kept [] w wr)
    case atStart => exact ⟨0, rfl, Nat.zero_le _, by omega, hide (by simp), Kept.refl _ _⟩
    case round =>
      obtain ⟨k, rfl, hk, hg, hT, hkr⟩ := hrel
      by_cases hlt : k < n
      · have hkl : k < l.length := by rw [hl.out]; exact hlt
        have hkm : k < m.length := by rw [hm.out]; exact hlt
        obtain ⟨b, o, rfl⟩ := hH.out.addr (fun h => by rw [h] at hkl; cases hkl)
        obtain ⟨b2, o2, rfl⟩ := hH2.out.addr (fun h => by rw [h] at hkm; cases hkm)
        have r1 := (hH.out.cel k hkl).kept hkr (by simp)
        have r2 := (hH2.out.cel k hkm).kept hkr (by simp)
        have hkn : (k : Int) < (n : Int) := by omega
        have hnx1 : l.take (k + 1) = l.take k ++ [l[k]] := List.take_succ_eq_append_getElem hkl
        have hnx2 : m.take (k + 1) = m.take k ++ [m[k]] := List.take_succ_eq_append_getElem hkm
        have hnx := hide (And.intro hnx1 hnx2)
        have hne := hide (fun h : l = m => (by subst h; rfl : l[k] = m[k]))
        clear hnx1 hnx2
        generalize l[k] = x at *
        generalize m[k] = y at *
        by_cases hxy0 : x = y
        · have hq : ∀ w, (binOp .neq 60 (.agg #[.int .i32 x.r, .int .i32 x.m0, .int .i32 x.m1, .int .i32 x.m2, .int .i64 x.w, .int .i64 x.p.f.k, .int .u8 x.p.f.i, .int .u8 x.p.f.r, .int .u8 x.p.f.g, .int .u8 x.p.f.b, .int .i64 x.p.b.k, .int .u8 x.p.b.i, .int .u8 x.p.b.r, .int .u8 x.p.b.g, .int .u8 x.p.b.b, .int .u8 x.p.fl]) (.agg #[.int .i32 y.r, .int .i32 y.m0, .int .i32 y.m1, .int .i32 y.m2, .int .i64 y.w, .int .i64 y.p.f.k, .int .u8 y.p.f.i, .int .u8 y.p.f.r, .int .u8 y.p.f.g, .int .u8 y.p.f.b, .int .i64 y.p.b.k, .int .u8 y.p.b.i, .int .u8 y.p.b.r, .int .u8 y.p.b.g, .int .u8 y.p.b.b, .int .u8 y.p.fl])).run Tryd.prog w = .ok (.bool false) w := fun w => (neq_K x y w).trans (by rw [decide_eq_true hxy0]; rfl)
          have hxy := hide hxy0
          clear hxy0
          go_upto_region 6 with fail
          refine wp_region_held_drew (S := (fun w' => CelR w' b (o + k * 16) x ∧ CelR w' b2 (o2 + k * 16) y)) (by kernel_rfl) ?_ (fun hHeld => ?_)
          · (try dsimp only); (exact ⟨r1.kept (Kept.refl [] wr).drew (by simp), r2.kept (Kept.refl [] wr).drew (by simp)⟩)
          refine wpAnyH_take (i := 0) (v := ?_) rfl (by kernel_rfl) (by kernel_rfl) (by kernel_rfl) (fun _ _ _ h => h) (Or.inl ⟨by rfl, ?_⟩) (by assumption) ?_
          rotate_left
          · (intro wq hSw; (try dsimp only at hSw); go_simp; try with_reducible rfl)
          try simp only [Act.put, List.getElem_toArray, List.getElem_cons_zero, List.setIfInBounds_toArray, List.set_cons_zero, List.set_cons_succ]
          refine wpAnyH_take (i := 1) (v := ?_) rfl (by kernel_rfl) (by kernel_rfl) (by kernel_rfl) (fun _ _ _ h => h) (Or.inl ⟨by rfl, ?_⟩) (by assumption) ?_
          rotate_left
          · (intro wq hSw; (try dsimp only at hSw); go_simp; try with_reducible rfl)
          try simp only [Act.put, List.getElem_toArray, List.getElem_cons_succ, List.getElem_cons_zero, List.setIfInBounds_toArray, List.set_cons_zero, List.set_cons_succ]
          refine wpAnyH_take (i := 2) (v := ?_) rfl (by kernel_rfl) (by kernel_rfl) (by kernel_rfl) (fun _ _ _ h => h) (Or.inl ⟨by rfl, ?_⟩) (by assumption) ?_
          rotate_left
          · (intro wq hSw; (try dsimp only at hSw); go_simp; try with_reducible rfl)
          try simp only [Act.put, List.getElem_toArray, List.getElem_cons_succ, List.getElem_cons_zero, List.setIfInBounds_toArray, List.set_cons_zero, List.set_cons_succ]
          refine wpAnyH_take (i := 3) (v := (.agg #[.int .i32 x.r, .int .i32 x.m0, .int .i32 x.m1, .int .i32 x.m2, .int .i64 x.w, .int .i64 x.p.f.k, .int .u8 x.p.f.i, .int .u8 x.p.f.r, .int .u8 x.p.f.g, .int .u8 x.p.f.b, .int .i64 x.p.b.k, .int .u8 x.p.b.i, .int .u8 x.p.b.r, .int .u8 x.p.b.g, .int .u8 x.p.b.b, .int .u8 x.p.fl])) rfl (by kernel_rfl) (by kernel_rfl) (by kernel_rfl) (fun _ _ _ h => h) (yieldsIf_load_mid (by rfl) 60 _ rfl b (o + k * 16) rfl (kcL x) _ (fun _ h => h.1) Tryd.underlying60 rfl (by kernel_rfl)) (by assumption) ?_
          try simp only [Act.put, List.getElem_toArray, List.getElem_cons_succ, List.getElem_cons_zero, List.setIfInBounds_toArray, List.set_cons_zero, List.set_cons_succ]
          refine wpAnyH_take (i := 4) (v := ?_) rfl (by kernel_rfl) (by kernel_rfl) (by kernel_rfl) (fun _ _ _ h => h) (Or.inl ⟨by rfl, ?_⟩) (by assumption) ?_
          rotate_left
          · (intro wq hSw; (try dsimp only at hSw); go_simp; try with_reducible rfl)
          try simp only [Act.put, List.getElem_toArray, List.getElem_cons_succ, List.getElem_cons_zero, List.setIfInBounds_toArray, List.set_cons_zero, List.set_cons_succ]
          refine wpAnyH_take (i := 5) (v := ?_) rfl (by kernel_rfl) (by kernel_rfl) (by kernel_rfl) (fun _ _ _ h => h) (Or.inl ⟨by rfl, ?_⟩) (by assumption) ?_
          rotate_left
          · (intro wq hSw; (try dsimp only at hSw); go_simp; try with_reducible rfl)
          try simp only [Act.put, List.getElem_toArray, List.getElem_cons_succ, List.getElem_cons_zero, List.setIfInBounds_toArray, List.set_cons_zero, List.set_cons_succ]
          refine wpAnyH_take (i := 6) (v := ?_) rfl (by kernel_rfl) (by kernel_rfl) (by kernel_rfl) (fun _ _ _ h => h) (Or.inl ⟨by rfl, ?_⟩) (by assumption) ?_
          rotate_left
          · (intro wq hSw; (try dsimp only at hSw); go_simp; try with_reducible rfl)
          try simp only [Act.put, List.getElem_toArray, List.getElem_cons_succ, List.getElem_cons_zero, List.setIfInBounds_toArray, List.set_cons_zero, List.set_cons_succ]
          refine wpAnyH_take (i := 7) (v := (.agg #[.int .i32 y.r, .int .i32 y.m0, .int .i32 y.m1, .int .i32 y.m2, .int .i64 y.w, .int .i64 y.p.f.k, .int .u8 y.p.f.i, .int .u8 y.p.f.r, .int .u8 y.p.f.g, .int .u8 y.p.f.b, .int .i64 y.p.b.k, .int .u8 y.p.b.i, .int .u8 y.p.b.r, .int .u8 y.p.b.g, .int .u8 y.p.b.b, .int .u8 y.p.fl])) rfl (by kernel_rfl) (by kernel_rfl) (by kernel_rfl) (fun _ _ _ h => h) (yieldsIf_load_mid (by rfl) 60 _ rfl b2 (o2 + k * 16) rfl (kcL y) _ (fun _ h => h.2) Tryd.underlying60 rfl (by kernel_rfl)) (by assumption) ?_
          try simp only [Act.put, List.getElem_toArray, List.getElem_cons_succ, List.getElem_cons_zero, List.setIfInBounds_toArray, List.set_cons_zero, List.set_cons_succ]
          refine wpAnyH_take (i := 8) (v := ?_) rfl (by kernel_rfl) (by kernel_rfl) (by kernel_rfl) (fun _ _ _ h => h) (Or.inl ⟨by rfl, ?_⟩) (by assumption) ?_
          rotate_left
          · (intro wq hSw; (try dsimp only at hSw); go_simp; try with_reducible rfl)
          try simp only [Act.put, List.getElem_toArray, List.getElem_cons_succ, List.getElem_cons_zero, List.setIfInBounds_toArray, List.set_cons_zero, List.set_cons_succ]
          refine wpAnyH_done (by kernel_rfl) ?_ _
          go_wp2_with fail
          go_roundg (n - (k + 1))
          case measure => omega
          case rel => exact ⟨k + 1, by push_cast; rfl, by omega, Nat.le_refl _, hide (by rw [hnx.out.1, hnx.out.2, hT.out, hxy.out]), hkr.drew⟩
        · have hq : ∀ w, (binOp .neq 60 (.agg #[.int .i32 x.r, .int .i32 x.m0, .int .i32 x.m1, .int .i32 x.m2, .int .i64 x.w, .int .i64 x.p.f.k, .int .u8 x.p.f.i, .int .u8 x.p.f.r, .int .u8 x.p.f.g, .int .u8 x.p.f.b, .int .i64 x.p.b.k, .int .u8 x.p.b.i, .int .u8 x.p.b.r, .int .u8 x.p.b.g, .int .u8 x.p.b.b, .int .u8 x.p.fl]) (.agg #[.int .i32 y.r, .int .i32 y.m0, .int .i32 y.m1, .int .i32 y.m2, .int .i64 y.w, .int .i64 y.p.f.k, .int .u8 y.p.f.i, .int .u8 y.p.f.r, .int .u8 y.p.f.g, .int .u8 y.p.f.b, .int .i64 y.p.b.k, .int .u8 y.p.b.i, .int .u8 y.p.b.r, .int .u8 y.p.b.g, .int .u8 y.p.b.b, .int .u8 y.p.fl])).run Tryd.prog w = .ok (.bool true) w := fun w => (neq_K x y w).trans (by rw [decide_eq_false hxy0]; rfl)
          have hxy := hide hxy0
          clear hxy0
          go_upto_region 6 with fail
          refine wp_region_held_drew (S := (fun w' => CelR w' b (o + k * 16) x ∧ CelR w' b2 (o2 + k * 16) y)) (by kernel_rfl) ?_ (fun hHeld => ?_)
          · (try dsimp only); (exact ⟨r1.kept (Kept.refl [] wr).drew (by simp), r2.kept (Kept.refl [] wr).drew (by simp)⟩)
          refine wpAnyH_take (i := 0) (v := ?_) rfl (by kernel_rfl) (by kernel_rfl) (by kernel_rfl) (fun _ _ _ h => h) (Or.inl ⟨by rfl, ?_⟩) (by assumption) ?_
          rotate_left
          · (intro wq hSw; (try dsimp only at hSw); go_simp; try with_reducible rfl)
          try simp only [Act.put, List.getElem_toArray, List.getElem_cons_zero, List.setIfInBounds_toArray, List.set_cons_zero, List.set_cons_succ]
          refine wpAnyH_take (i := 1) (v := ?_) rfl (by kernel_rfl) (by kernel_rfl) (by kernel_rfl) (fun _ _ _ h => h) (Or.inl ⟨by rfl, ?_⟩) (by assumption) ?_
          rotate_left
          · (intro wq hSw; (try dsimp only at hSw); go_simp; try with_reducible rfl)
          try simp only [Act.put, List.getElem_toArray, List.getElem_cons_succ, List.getElem_cons_zero, List.setIfInBounds_toArray, List.set_cons_zero, List.set_cons_succ]
          refine wpAnyH_take (i := 2) (v := ?_) rfl (by kernel_rfl) (by kernel_rfl) (by kernel_rfl) (fun _ _ _ h => h) (Or.inl ⟨by rfl, ?_⟩) (by assumption) ?_
          rotate_left
          · (intro wq hSw; (try dsimp only at hSw); go_simp; try with_reducible rfl)
          try simp only [Act.put, List.getElem_toArray, List.getElem_cons_succ, List.getElem_cons_zero, List.setIfInBounds_toArray, List.set_cons_zero, List.set_cons_succ]
          refine wpAnyH_take (i := 3) (v := (.agg #[.int .i32 x.r, .int .i32 x.m0, .int .i32 x.m1, .int .i32 x.m2, .int .i64 x.w, .int .i64 x.p.f.k, .int .u8 x.p.f.i, .int .u8 x.p.f.r, .int .u8 x.p.f.g, .int .u8 x.p.f.b, .int .i64 x.p.b.k, .int .u8 x.p.b.i, .int .u8 x.p.b.r, .int .u8 x.p.b.g, .int .u8 x.p.b.b, .int .u8 x.p.fl])) rfl (by kernel_rfl) (by kernel_rfl) (by kernel_rfl) (fun _ _ _ h => h) (yieldsIf_load_mid (by rfl) 60 _ rfl b (o + k * 16) rfl (kcL x) _ (fun _ h => h.1) Tryd.underlying60 rfl (by kernel_rfl)) (by assumption) ?_
          try simp only [Act.put, List.getElem_toArray, List.getElem_cons_succ, List.getElem_cons_zero, List.setIfInBounds_toArray, List.set_cons_zero, List.set_cons_succ]
          refine wpAnyH_take (i := 4) (v := ?_) rfl (by kernel_rfl) (by kernel_rfl) (by kernel_rfl) (fun _ _ _ h => h) (Or.inl ⟨by rfl, ?_⟩) (by assumption) ?_
          rotate_left
          · (intro wq hSw; (try dsimp only at hSw); go_simp; try with_reducible rfl)
          try simp only [Act.put, List.getElem_toArray, List.getElem_cons_succ, List.getElem_cons_zero, List.setIfInBounds_toArray, List.set_cons_zero, List.set_cons_succ]
          refine wpAnyH_take (i := 5) (v := ?_) rfl (by kernel_rfl) (by kernel_rfl) (by kernel_rfl) (fun _ _ _ h => h) (Or.inl ⟨by rfl, ?_⟩) (by assumption) ?_
          rotate_left
          · (intro wq hSw; (try dsimp only at hSw); go_simp; try with_reducible rfl)
          try simp only [Act.put, List.getElem_toArray, List.getElem_cons_succ, List.getElem_cons_zero, List.setIfInBounds_toArray, List.set_cons_zero, List.set_cons_succ]
          refine wpAnyH_take (i := 6) (v := ?_) rfl (by kernel_rfl) (by kernel_rfl) (by kernel_rfl) (fun _ _ _ h => h) (Or.inl ⟨by rfl, ?_⟩) (by assumption) ?_
          rotate_left
          · (intro wq hSw; (try dsimp only at hSw); go_simp; try with_reducible rfl)
          try simp only [Act.put, List.getElem_toArray, List.getElem_cons_succ, List.getElem_cons_zero, List.setIfInBounds_toArray, List.set_cons_zero, List.set_cons_succ]
          refine wpAnyH_take (i := 7) (v := (.agg #[.int .i32 y.r, .int .i32 y.m0, .int .i32 y.m1, .int .i32 y.m2, .int .i64 y.w, .int .i64 y.p.f.k, .int .u8 y.p.f.i, .int .u8 y.p.f.r, .int .u8 y.p.f.g, .int .u8 y.p.f.b, .int .i64 y.p.b.k, .int .u8 y.p.b.i, .int .u8 y.p.b.r, .int .u8 y.p.b.g, .int .u8 y.p.b.b, .int .u8 y.p.fl])) rfl (by kernel_rfl) (by kernel_rfl) (by kernel_rfl) (fun _ _ _ h => h) (yieldsIf_load_mid (by rfl) 60 _ rfl b2 (o2 + k * 16) rfl (kcL y) _ (fun _ h => h.2) Tryd.underlying60 rfl (by kernel_rfl)) (by assumption) ?_
          try simp only [Act.put, List.getElem_toArray, List.getElem_cons_succ, List.getElem_cons_zero, List.setIfInBounds_toArray, List.set_cons_zero, List.set_cons_succ]
          refine wpAnyH_take (i := 8) (v := ?_) rfl (by kernel_rfl) (by kernel_rfl) (by kernel_rfl) (fun _ _ _ h => h) (Or.inl ⟨by rfl, ?_⟩) (by assumption) ?_
          rotate_left
          · (intro wq hSw; (try dsimp only at hSw); go_simp; try with_reducible rfl)
          try simp only [Act.put, List.getElem_toArray, List.getElem_cons_succ, List.getElem_cons_zero, List.setIfInBounds_toArray, List.set_cons_zero, List.set_cons_succ]
          refine wpAnyH_done (by kernel_rfl) ?_ _
          go_wp2_with fail
          go_ret
          exact ⟨ret_bool (by simp; exact fun h => hxy.out (hne.out h)), hkr.drew⟩
      · obtain rfl : k = n := by omega
        go_wp2_with fail
        go_ret
        have e : l = m := by
          have := hT.out
          rwa [List.take_of_length_le (Nat.le_of_eq hl.out), List.take_of_length_le (Nat.le_of_eq hm.out)] at this
        exact ⟨ret_bool (by simp [e]), hkr⟩
  · have hnn : (n : Int) ≠ (n2 : Int) := by omega
    go_enter Tryd.func47, Tryd.ntmps47
    go_wp2_with fail
    go_ret
    have e : ¬ l = m := fun e => hnn0 (by rw [← hl, ← hm, e])
    exact ⟨ret_bool (by simp [e]), Kept.refl _ _⟩

set_option maxHeartbeats 1000000 in
theorem Equal6_any : LEqualIs := by
  intro a n c l s a2 n2 c2 m s2 w hr hr2 hn hn2
  have hk0 : Kept [] w ((w.alloc (.cells #[.slice a n c, .bool s] 27)).alloc (.cells #[.slice a2 n2 c2, .bool s2] 27)) := ((Kept.refl [] w).alloc _).alloc _
  have hS := hide (EqualC_any a n c l a2 n2 c2 m _ (hr.kept hk0 (by simp)) (hr2.kept hk0 (by simp)) (by omega))
  clear hr hr2
  by_cases hs : s = s2
  · subst hs
    have e : decide (s = s ∧ l = m) = decide (l = m) := by simp
    rw [e]
    have hb : (s == s) = true := by simp
    go_enter Tryd.func24, Tryd.ntmps24
    go_wp2_with fail
    refine hS.out.mono ?_
    rintro e w1 ⟨rfl, hk1⟩
    go_wp2_with fail
    go_ret
    exact ⟨rfl, hk0.trans hk1 (by simp)⟩
  · have e : decide (s = s2 ∧ l = m) = false := by simp [hs]
    rw [e]
    have hb : (s == s2) = false := by simpa using hs
    clear hs
    go_enter Tryd.func24, Tryd.ntmps24
    go_wp2_with fail
    go_ret
    exact ⟨rfl, hk0⟩

set_option maxHeartbeats 2000000 in
theorem Used6_any (a : Option Addr) (n c : Nat) (l : List Cl) (s : Bool) (w : World) (hr : Rd w a n 16 (cellsV l)) (hn : n ≤ 1000000) : Calls Tryd.prog 20 #[.agg #[.slice a n c, .bool s]] w fun e w' => e = .returned (.int .i64 (usedI l : Nat)) ∧ Kept [] w w' := by
  have hl := hide hr.clen
  obtain ⟨W0, hW0⟩ : ∃ z : World, z = w.alloc (.cells #[.slice a n c, .bool s] 27) := ⟨_, rfl⟩
  have hk0 : Kept [] w W0 := by rw [hW0]; exact (Kept.refl [] w).alloc _
  have hb0 : Hid (LinIn W0 w.heap.size a n c s) := hide (by rw [hW0]; exact LinIn.new w a n c s)
  have hH := hide (hr.kept hk0 (by simp))
  have hU : Hid (usedI (l.take n) = usedI l) := hide (by rw [← hl.out, List.take_length])
  have hE := hide (fun x w1 => Empty_any x w1)
  generalize usedI l = U at *
  clear hr
  go_enter Tryd.func20, Tryd.ntmps20
  go_upto_region 1 with fail
  rw [← hW0]
  clear hW0
  obtain ⟨q0, q1⟩ := hb0.out.at
  go_step3
  go_wp2_with fail
  go_step3
  go_wp2_with fail
  clear q0 q1
  go_loopg [3, 7, 8, 9, 10, 11, 12, 13, 14, 15, 16, 17, 18] n (fun kx s3 s7 s8 s9 s10 s11 s12 s13 s14 s15 s16 s17 s18 wr => ∃ (k : Nat), s3 = .int .i64 k ∧ k ≤ n ∧ k ≤ kx ∧ Hid (usedI (l.take k) = U) ∧ Kept [] W0 wr)
  case atStart => exact ⟨n, rfl, Nat.le_refl _, Nat.le_refl _, hU, Kept.refl _ _⟩
  case round =>
    obtain ⟨k, rfl, hk, hg, hu, hkr⟩ := hrel
    obtain ⟨q0, q1⟩ := (hb0.out.kept hkr (by simp)).at
    by_cases hlt : 0 < k
    · obtain ⟨j, rfl⟩ : ∃ j, k = j + 1 := ⟨k - 1, by omega⟩
      have hjl : j < l.length := by rw [hl.out]; omega
      have e1 : ((j + 1 : Nat) : Int) - 1 = (j : Int) := by omega
      have e2 : (0 : Int) < ((j + 1 : Nat) : Int) := by omega
      have e3 : (j : Int) < (n : Int) := by omega
      obtain ⟨b, o, rfl⟩ := hH.out.addr (fun h => by rw [h] at hjl; cases hjl)
      have r1 := (hH.out.cel j hjl).kept hkr (by simp)
      have hnx := hide (used_take (l := l) hjl)
      generalize l[j] = x at *
      have hEx := hide (hE.out x)
      go_wp2_with (refine wpList_load_cel rfl rfl b (o + j * 16) rfl r1 ?_)
      refine (hEx.out wr).mono ?_
      rintro e w3 ⟨rfl, hk3⟩
      by_cases hx0 : x = blankC zeroP
      · rw [decide_eq_true hx0]
        have hx := hide (show x = eC from hx0)
        clear hx0
        go_wp2_with fail
        go_roundg j
        case measure => omega
        case rel => exact ⟨j, rfl, by omega, Nat.le_refl _, hide (by rw [← hu.out, hnx.out, if_pos hx.out]), hkr.trans hk3 (by simp)⟩
      · rw [decide_eq_false hx0]
        have hx := hide (show ¬ x = eC from hx0)
        clear hx0
        go_wp2_with fail
        rw [Exit.noGoto_ret]
        go_ret
        refine ⟨?_, hk0.trans (hkr.trans hk3 (by simp)) (by simp)⟩
        have e4 : U = j + 1 := by rw [← hu.out, hnx.out, if_neg hx.out]
        rw [e4]
        rfl
    · obtain rfl : k = 0 := by omega
      go_wp2_with fail
      rw [Exit.noGoto_ret]
      go_ret
      refine ⟨?_, hk0.trans hkr (by simp)⟩
      rw [← hu.out]
      rfl
theorem Used6_is : LUsedIs := fun a n c l s w hr hn _ _ => Used6_any a n c l s w hr (by omega)

set_option maxHeartbeats 2000000 in
theorem Text6_any : LTextIs := by
  intro a n c l s w hr hn hnc hcm
  obtain ⟨W0, hW0⟩ : ∃ z : World, z = w.alloc (.cells #[.slice a n c, .bool s] 27) := ⟨_, rfl⟩
  have hk0 : Kept [] w W0 := by rw [hW0]; exact (Kept.refl [] w).alloc _
  have hb0 : Hid (LinIn W0 w.heap.size a n c s) := hide (by rw [hW0]; exact LinIn.new w a n c s)
  have hH := hide (hr.kept hk0 (by simp))
  have hU := hide (Used6_any a n c l s W0.drew (hH.out.kept (Kept.refl [] W0).drew (by simp)) (by omega))
  have hul : usedI l ≤ n := by have := used_le l; have := hr.clen; omega
  obtain ⟨at', ct, _, _, hcut, hcr⟩ := cut_h a n c (usedI l) hul hnc hcm
  have hTx := hide (fun w1 (hk : Kept [] W0 w1) => Texts_any at' (usedI l) ct (l.take (usedI l)) w1 (hcr w1 l (hH.out.kept hk (by simp))) (by omega))
  have hT : trimL l = l.take (usedI l) := rfl
  rw [hT]
  generalize l.take (usedI l) = tk at *
  generalize usedI l = u at *
  clear hr hT
  go_enter Tryd.func22, Tryd.ntmps22
  go_upto_region 1 with fail
  rw [← hW0]
  clear hW0
  refine wp_region_held_drew (S := (fun w' => w'.cell? ⟨w.heap.size, 0, none⟩ = some (.slice a n c) ∧ w'.cell? ⟨w.heap.size, 1, none⟩ = some (.bool s))) (by kernel_rfl) ?_ (fun hHeld => ?_)
  · (try dsimp only); (first | exact heldL hHeld hj2 (by simp) | exact heldL hHeld hj1 (by simp) | exact (hb0.out.kept (Kept.refl [] W0).drew (by simp)).at)
  refine wpAnyH_take (i := 0) (v := ?_) rfl (by kernel_rfl) (by kernel_rfl) (by kernel_rfl) (fun _ _ _ h => h) (Or.inl ⟨by rfl, ?_⟩) (by assumption) ?_
  rotate_left
  · (intro wq hSw; (try dsimp only at hSw); go_simp; try with_reducible rfl)
  try simp only [Act.put, List.getElem_toArray, List.getElem_cons_zero, List.setIfInBounds_toArray, List.set_cons_zero, List.set_cons_succ]
  refine wpAnyH_take (i := 1) (v := ?_) rfl (by kernel_rfl) (by kernel_rfl) (by kernel_rfl) (fun _ _ _ h => h) (Or.inl ⟨by rfl, ?_⟩) (by assumption) ?_
  rotate_left
  · (intro wq hSw; (try dsimp only at hSw); go_simp; try with_reducible rfl)
  try simp only [Act.put, List.getElem_toArray, List.getElem_cons_succ, List.getElem_cons_zero, List.setIfInBounds_toArray, List.set_cons_zero, List.set_cons_succ]
  refine wpAnyH_take (i := 2) (v := ?_) rfl (by kernel_rfl) (by kernel_rfl) (by kernel_rfl) (fun _ _ _ h => h) (Or.inl ⟨by rfl, ?_⟩) (by assumption) ?_
  rotate_left
  · (intro wq hSw; (try dsimp only at hSw); go_simp; try with_reducible rfl)
  try simp only [Act.put, List.getElem_toArray, List.getElem_cons_succ, List.getElem_cons_zero, List.setIfInBounds_toArray, List.set_cons_zero, List.set_cons_succ]
  refine wpAnyH_ready (rs := [3]) (by kernel_rfl) (by simp) ?_
  refine AllReadyH.cons rfl (fun K hK => ?_) AllReadyH.nil
  go_simp
  refine hU.out.mono ?_; rintro e w1 ⟨rfl, hj1⟩; have hk1 : Kept [] W0 w1 := (Kept.refl [] W0).drew.trans hj1 (by simp)
  try go_wp2_with fail
  refine hK.out _ _ ?_ (fun hHeld => ?_)
  · (try dsimp only); (first | exact heldL hHeld hj2 (by simp) | exact heldL hHeld hj1 (by simp) | exact (hb0.out.kept (Kept.refl [] W0).drew (by simp)).at)
  clear hK K
  try simp only [Act.put, List.getElem_toArray, List.getElem_cons_succ, List.getElem_cons_zero, List.setIfInBounds_toArray, List.set_cons_zero, List.set_cons_succ]
  refine wpAnyH_take (i := 4) (v := ?_) rfl (by kernel_rfl) (by kernel_rfl) (by kernel_rfl) (fun _ _ _ h => h) (Or.inl ⟨by rfl, ?_⟩) (by assumption) ?_
  rotate_left
  · (intro wq hSw; (try dsimp only at hSw); go_simp; try with_reducible rfl)
  try simp only [Act.put, List.getElem_toArray, List.getElem_cons_succ, List.getElem_cons_zero, List.setIfInBounds_toArray, List.set_cons_zero, List.set_cons_succ]
  refine wpAnyH_ready (rs := [5]) (by kernel_rfl) (by simp) ?_
  refine AllReadyH.cons rfl (fun K hK => ?_) AllReadyH.nil
  go_simp
  refine (hTx.out w1 hk1).mono ?_; rintro e w2 ⟨rfl, hj2⟩
  try go_wp2_with fail
  refine hK.out _ _ ?_ (fun hHeld => ?_)
  · (try dsimp only); (first | exact heldL hHeld hj2 (by simp) | exact heldL hHeld hj1 (by simp) | exact (hb0.out.kept (Kept.refl [] W0).drew (by simp)).at)
  clear hK K
  try simp only [Act.put, List.getElem_toArray, List.getElem_cons_succ, List.getElem_cons_zero, List.setIfInBounds_toArray, List.set_cons_zero, List.set_cons_succ]
  refine wpAnyH_take (i := 6) (v := ?_) rfl (by kernel_rfl) (by kernel_rfl) (by kernel_rfl) (fun _ _ _ h => h) (Or.inl ⟨by rfl, ?_⟩) (by assumption) ?_
  rotate_left
  · (intro wq hSw; (try dsimp only at hSw); go_simp; try with_reducible rfl)
  try simp only [Act.put, List.getElem_toArray, List.getElem_cons_succ, List.getElem_cons_zero, List.setIfInBounds_toArray, List.set_cons_zero, List.set_cons_succ]
  refine wpAnyH_done (by kernel_rfl) ?_ _
  go_wp2_with fail
  go_ret
  exact ⟨rfl, (hk0.trans hk1 (by simp)).trans hj2 (by simp)⟩


set_option maxHeartbeats 2000000 in
theorem Trim6_any : LTrimIs := by
  intro a n c l s w ht hr hn hnc hcm
  have hl := hr.clen
  obtain ⟨W0, hW0⟩ : ∃ z : World, z = (w.alloc (.cells #[.slice a n c, .bool s] 27)).alloc (.cells #[.slice none 0 0, .bool false] 27) := ⟨_, rfl⟩
  have hk0 : Kept [] w W0 := by rw [hW0]; exact ((Kept.refl [] w).alloc _).alloc _
  have hb0 : Hid (LinIn W0 w.heap.size a n c s) := hide (by rw [hW0]; exact (LinIn.new w a n c s).kept ((Kept.refl [] _).alloc _) (by simp))
  have hz0 : Hid (LinIn W0 (w.heap.size + 1) none 0 0 false) := hide (by rw [hW0]; exact heap_new_at (by simp))
  have hH := hide (hr.kept hk0 (by simp))
  have hs0 : w.heap.size + 1 < W0.heap.size := by rw [hW0]; simp
  have hV := hide (Valid6_any a n c l s W0 (ht.kept hk0) hH.out hn)
  cases hv : validL l with
  | false =>
    rw [trimE_no hv]
    rw [hv] at hV
    clear hr ht hv
    go_enter Tryd.func30, Tryd.ntmps30
    go_upto_region 1 with fail
    rw [← hW0]
    clear hW0
    obtain ⟨q0, q1⟩ := hb0.out.at
    go_wp2_with fail
    refine hV.out.mono ?_
    rintro e w1 ⟨rfl, hk1⟩
    go_wp2_with (refine wpList_store_lin rfl rfl rfl (w.heap.size + 1) rfl (hz0.out.kept hk1 (by simp)) none 0 0 false rfl ?_; intro w7 hb7 hk7)
    refine bodyPost_ret (results_lin2 rfl rfl hb7 rfl) rfl ?_
    exact ⟨none, 0, 0, rfl, Own.nil _ _ _ _, Nat.le_refl _, Nat.zero_le _, (hk0.trans hk1 (by simp)).trans hk7 (by simp)⟩
  | true =>
    have hn1 : n ≤ 1000 := by unfold validL at hv; simp at hv; omega
    rw [trimE_ok hv]
    rw [hv] at hV
    have hU := hide (fun w1 (hk : Kept [] W0 w1) => Used6_any a n c l s w1 (hH.out.kept hk (by simp)) (by omega))
    have hul : usedI l ≤ n := by have := used_le l; omega
    obtain ⟨at', ct, _, _, hcut, hcr⟩ := cut_h a n c (usedI l) hul hnc hcm
    have hCl := hide (fun w1 (hk : Kept [] W0 w1) => Clone_any at' (usedI l) ct (l.take (usedI l)) w1 (hcr w1 l (hH.out.kept hk (by simp))) (by omega))
    have hT : Hid (trimL l = l.take (usedI l)) := hide rfl
    generalize trimL l = T at *
    generalize l.take (usedI l) = tk at *
    generalize usedI l = u at *
    replace hcr := hide hcr
    clear hr ht hv
    go_enter Tryd.func30, Tryd.ntmps30
    go_upto_region 1 with fail
    rw [← hW0]
    clear hW0
    obtain ⟨q0, q1⟩ := hb0.out.at
    go_wp2_with fail
    refine hV.out.mono ?_
    rintro e wa ⟨rfl, hka⟩
    clear q0 q1
    have hb1 := hide (hb0.out.kept hka (by simp))
    have hz1 := hide (hz0.out.kept hka (by simp))
    go_upto_region 3 with fail
    refine wp_region_held_drew (S := (fun w' => w'.cell? ⟨w.heap.size, 0, none⟩ = some (.slice a n c) ∧ w'.cell? ⟨w.heap.size, 1, none⟩ = some (.bool s))) (by kernel_rfl) ?_ (fun hHeld => ?_)
    · (try dsimp only); (first | exact heldL hHeld hk3 (by simp) | exact heldL hHeld hj2 (by simp) | exact heldL hHeld hj1 (by simp) | exact (hb1.out.kept (Kept.refl [] wa).drew (by simp)).at)
    refine wpAnyH_take (i := 0) (v := ?_) rfl (by kernel_rfl) (by kernel_rfl) (by kernel_rfl) (fun _ _ _ h => h) (Or.inl ⟨by rfl, ?_⟩) (by assumption) ?_
    rotate_left
    · (intro wq hSw; (try dsimp only at hSw); go_simp; try with_reducible rfl)
    try simp only [Act.put, List.getElem_toArray, List.getElem_cons_zero, List.setIfInBounds_toArray, List.set_cons_zero, List.set_cons_succ]
    refine wpAnyH_take (i := 1) (v := ?_) rfl (by kernel_rfl) (by kernel_rfl) (by kernel_rfl) (fun _ _ _ h => h) (Or.inl ⟨by rfl, ?_⟩) (by assumption) ?_
    rotate_left
    · (intro wq hSw; (try dsimp only at hSw); go_simp; try with_reducible rfl)
    try simp only [Act.put, List.getElem_toArray, List.getElem_cons_succ, List.getElem_cons_zero, List.setIfInBounds_toArray, List.set_cons_zero, List.set_cons_succ]
    refine wpAnyH_take (i := 2) (v := ?_) rfl (by kernel_rfl) (by kernel_rfl) (by kernel_rfl) (fun _ _ _ h => h) (Or.inl ⟨by rfl, ?_⟩) (by assumption) ?_
    rotate_left
    · (intro wq hSw; (try dsimp only at hSw); go_simp; try with_reducible rfl)
    try simp only [Act.put, List.getElem_toArray, List.getElem_cons_succ, List.getElem_cons_zero, List.setIfInBounds_toArray, List.set_cons_zero, List.set_cons_succ]
    refine wpAnyH_take (i := 6) (v := ?_) rfl (by kernel_rfl) (by kernel_rfl) (by kernel_rfl) (fun _ _ _ h => h) (Or.inl ⟨by rfl, ?_⟩) (by assumption) ?_
    rotate_left
    · (intro wq hSw; (try dsimp only at hSw); go_simp; try with_reducible rfl)
    try simp only [Act.put, List.getElem_toArray, List.getElem_cons_succ, List.getElem_cons_zero, List.setIfInBounds_toArray, List.set_cons_zero, List.set_cons_succ]
    refine wpAnyH_take (i := 7) (v := ?_) rfl (by kernel_rfl) (by kernel_rfl) (by kernel_rfl) (fun _ _ _ h => h) (Or.inl ⟨by rfl, ?_⟩) (by assumption) ?_
    rotate_left
    · (intro wq hSw; (try dsimp only at hSw); go_simp; try with_reducible rfl)
    try simp only [Act.put, List.getElem_toArray, List.getElem_cons_succ, List.getElem_cons_zero, List.setIfInBounds_toArray, List.set_cons_zero, List.set_cons_succ]
    refine wpAnyH_ready (rs := [3]) (by kernel_rfl) (by simp) ?_
    refine AllReadyH.cons rfl (fun K hK => ?_) AllReadyH.nil
    go_simp
    refine (hU.out wa.drew (hka.trans (Kept.refl [] wa).drew (by simp))).mono ?_; rintro e w1 ⟨rfl, hj1⟩; have hk1 : Kept [] wa w1 := (Kept.refl [] wa).drew.trans hj1 (by simp)
    try go_wp2_with fail
    refine hK.out _ _ ?_ (fun hHeld => ?_)
    · (try dsimp only); (first | exact heldL hHeld hk3 (by simp) | exact heldL hHeld hj2 (by simp) | exact heldL hHeld hj1 (by simp) | exact (hb1.out.kept (Kept.refl [] wa).drew (by simp)).at)
    clear hK K
    try simp only [Act.put, List.getElem_toArray, List.getElem_cons_succ, List.getElem_cons_zero, List.setIfInBounds_toArray, List.set_cons_zero, List.set_cons_succ]
    refine wpAnyH_take (i := 4) (v := ?_) rfl (by kernel_rfl) (by kernel_rfl) (by kernel_rfl) (fun _ _ _ h => h) (Or.inl ⟨by rfl, ?_⟩) (by assumption) ?_
    rotate_left
    · (intro wq hSw; (try dsimp only at hSw); go_simp; try with_reducible rfl)
    try simp only [Act.put, List.getElem_toArray, List.getElem_cons_succ, List.getElem_cons_zero, List.setIfInBounds_toArray, List.set_cons_zero, List.set_cons_succ]
    refine wpAnyH_ready (rs := [5]) (by kernel_rfl) (by simp) ?_
    refine AllReadyH.cons rfl (fun K hK => ?_) AllReadyH.nil
    go_simp
    refine (hCl.out w1 (hka.trans hk1 (by simp))).mono ?_; rintro e w2 ⟨a2, c2, rfl, ho2, hj2⟩; have hk2 : Kept [] wa w2 := hk1.trans hj2 (by simp)
    try go_wp2_with fail
    refine hK.out _ _ ?_ (fun hHeld => ?_)
    · (try dsimp only); (first | exact heldL hHeld hk3 (by simp) | exact heldL hHeld hj2 (by simp) | exact heldL hHeld hj1 (by simp) | exact (hb1.out.kept (Kept.refl [] wa).drew (by simp)).at)
    clear hK K
    try simp only [Act.put, List.getElem_toArray, List.getElem_cons_succ, List.getElem_cons_zero, List.setIfInBounds_toArray, List.set_cons_zero, List.set_cons_succ]
    refine wpAnyH_take (i := 8) (v := ?_) rfl (by kernel_rfl) (by kernel_rfl) (by kernel_rfl) (fun _ _ _ h => h) (Or.inl ⟨by rfl, ?_⟩) (by assumption) ?_
    rotate_left
    · (intro wq hSw; (try dsimp only at hSw); go_simp; try with_reducible rfl)
    try simp only [Act.put, List.getElem_toArray, List.getElem_cons_succ, List.getElem_cons_zero, List.setIfInBounds_toArray, List.set_cons_zero, List.set_cons_succ]
    refine wpAnyH_ready (rs := [9]) (by kernel_rfl) (by simp) ?_
    refine AllReadyH.cons rfl (fun K hK => ?_) AllReadyH.nil
    rw [if_pos (by rfl)]
    refine wp_store_lin rfl rfl (w.heap.size + 1) rfl (hz1.out.kept hk2 (by simp)) a2 u c2 s rfl ?_; intro w3 hb3 hk3
    refine hK.out _ _ ?_ (fun hHeld => ?_)
    · (try dsimp only); (first | exact heldL hHeld hk3 (by simp) | exact heldL hHeld hj2 (by simp) | exact heldL hHeld hj1 (by simp) | exact (hb1.out.kept (Kept.refl [] wa).drew (by simp)).at)
    clear hK K
    try simp only [Act.put, List.getElem_toArray, List.getElem_cons_succ, List.getElem_cons_zero, List.setIfInBounds_toArray, List.set_cons_zero, List.set_cons_succ]
    refine wpAnyH_take (i := 10) (v := ?_) rfl (by kernel_rfl) (by kernel_rfl) (by kernel_rfl) (fun _ _ _ h => h) (Or.inl ⟨by rfl, ?_⟩) (by assumption) ?_
    rotate_left
    · (intro wq hSw; (try dsimp only at hSw); go_simp; try with_reducible rfl)
    try simp only [Act.put, List.getElem_toArray, List.getElem_cons_succ, List.getElem_cons_zero, List.setIfInBounds_toArray, List.set_cons_zero, List.set_cons_succ]
    refine wpAnyH_done (by kernel_rfl) ?_ _
    go_wp2_with fail
    have hge : ∀ g ∈ blk a2, w1.heap.size ≤ g := fun g hg => (ho2.ge g hg).1
    have hs1 : W0.heap.size ≤ w1.heap.size := (hka.trans hk1 (by simp)).size
    refine bodyPost_ret (results_lin2 rfl rfl hb3 rfl) rfl ?_
    have ho3 := Own.kept (xs := cellsV tk) (ho2.base (show w.heap.size ≤ w1.heap.size by omega)) hk3 (fun g hg hm => by simp at hm; subst hm; have := hge _ hg; omega)
    exact ⟨a2, u, c2, rfl, by rw [hT.out]; exact ho3, ho3.caps.1, ho3.caps.2, (hk0.trans (hka.trans hk2 (by simp)) (by simp)).trans hk3 (by simp)⟩
end Go.Proofs.YtkhdnaopdhnkaaaDoor
