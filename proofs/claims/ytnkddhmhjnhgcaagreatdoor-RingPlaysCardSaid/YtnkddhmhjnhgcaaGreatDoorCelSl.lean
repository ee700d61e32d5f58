/- Slices of cells: slices.Clone; the reference's Same, Stain. -/
import Derived.Test.YtnkddhmhjnhgcaaGreatDoorCelEq
import Derived.Lib.SliceRun
namespace Go.Proofs.YtnkddhmhjnhgcaaGreatDoor
open Go.RowKit
set_option linter.unusedVariables false
set_option maxRecDepth 100000

theorem elCell : ElemT Tryz.prog 34 86 (.agg #[.int .i32 0, .int .i32 0, .int .i32 0, .int .i32 0, .int .i64 0, .int .i64 0, .int .u8 0, .int .u8 0, .int .u8 0, .int .u8 0, .int .i64 0, .int .u8 0, .int .u8 0, .int .u8 0, .int .u8 0, .int .u8 0]) 16 64 := ⟨Tryz.underlying34, by kernel_rfl, rfl, by decide, by decide⟩

theorem Clone_any (a : Option Addr) (n c : Nat) (l : List Cl) (w : World) (hr : Rd w a n 16 (cellsV l)) (hn : n ≤ 1000) :
    Calls Tryz.prog 78 #[.slice a n c] w fun e w' => ∃ a' c', e = .returned (.slice a' n c') ∧ Own w' w.heap.size 86 a' n c' 16 (cellsV l) ∧ Kept [] w w' := by
  have hq := fun n' c' w => Lib.run_eql_slice_nil (P := Tryz.prog) w 34 86 a n c n' c' Tryz.underlying34
  cases a with
  | none =>
    have hl : l = [] := by
      rcases hr.2 with h0 | ⟨b, o, h, _⟩
      · cases l with
        | nil => rfl
        | cons x l => cases h0
      · cases h
    subst hl
    have h0 := hr.clen
    simp at h0
    subst h0
    go_enter Tryz.func78, Tryz.ntmps78
    go_wp2_with fail
    go_ret
    exact ⟨none, 0, rfl, Own.nil _ _ _ _, Kept.refl _ _⟩
  | some x =>
    go_enter Tryz.func78, Tryz.ntmps78
    have hh : (w.alloc (.cells #[] 86)).heap[w.heap.size]? = some (.cells #[] 86 (0, 0)) := heap_alloc_new w _
    have hown : Own (w.alloc (.cells #[] 86)) w.heap.size 86 (some ⟨w.heap.size, 0, none⟩) 0 0 16 [] := ⟨rfl, .inr ⟨w.heap.size, 0, #[], rfl, Nat.le_refl _, hh, Nat.le_refl _, by decide, rfl, rfl⟩⟩
    have hr' := hr.kept ((Kept.refl [] w).alloc (.cells #[] 86)) (by simp)
    go_wp2_with (at_builtin; refine wpList_app ?_ rfl elCell rfl rfl hown rfl hr' (cellsV_one l) ?o2 ?o3; intro a' c' w2 ho2 hk2 hat2)
    case o2 => omega
    case o3 => simp
    go_ret
    rw [Nat.zero_add] at *
    exact ⟨a', c', rfl, by simpa using ho2, ((Kept.refl [] w).alloc _).trans hk2 (by intro x hx; simp [blk] at hx; omega)⟩

set_option maxHeartbeats 1000000 in
theorem Same_big (a : Option Addr) (n c : Nat) (l : List Cl) (a2 : Option Addr) (n2 c2 : Nat) (m : List Cl) (w : World) (hr : Rd w a n 16 (cellsV l)) (hr2 : Rd w a2 n2 16 (cellsV m)) (hn : n ≤ 1000000) :
    Calls Tryz.prog 59 #[.slice a n c, .slice a2 n2 c2] w fun e w' => e = .returned (.bool (decide (l = m))) ∧ Kept [] w w' := by
  have hl := hr.clen
  have hm := hr2.clen
  by_cases hnn0 : n = n2
  · subst hnn0
    have hH := hide hr
    have hH2 := hide hr2
    clear hr hr2
    go_enter Tryz.func59, Tryz.ntmps59
    go_wp2_with fail
    have hl := hide hl
    have hm := hide hm
    go_loopg [5, 11, 12, 13, 14, 15, 16, 17, 18, 19, 20, 21, 22, 23, 24, 25] n (fun kx s5 s11 s12 s13 s14 s15 s16 s17 s18 s19 s20 s21 s22 s23 s24 s25 wr => ∃ k : Nat, s5 = .int .i64 k ∧ k ≤ n ∧ n - k ≤ kx ∧ Hid (l.take k = m.take k) ∧ Kept [] w wr)
    case atStart => exact ⟨0, rfl, Nat.zero_le _, by omega, hide (by simp), Kept.refl _ _⟩
    case round =>
      obtain ⟨k, rfl, hk, hg, hT, hkr⟩ := hrel
      by_cases hlt : k < n
      · have hkl : k < l.length := by rw [hl.out]; exact hlt
        have hkm : k < m.length := by rw [hm.out]; exact hlt
        obtain ⟨b, o, rfl⟩ := hH.out.addr (fun h => by rw [h] at hkl; cases hkl)
        obtain ⟨b2, o2, rfl⟩ := hH2.out.addr (fun h => by rw [h] at hkm; cases hkm)
        have r1 := (hH.out.cel k hkl).kept hkr (by simp)
        have r2 := (hH2.out.cel k hkm).kept hkr (by simp)
        have hkn : (k : Int) < (n : Int) := by omega
        have hnx1 : l.take (k + 1) = l.take k ++ [l[k]] := List.take_succ_eq_append_getElem hkl
        have hnx2 : m.take (k + 1) = m.take k ++ [m[k]] := List.take_succ_eq_append_getElem hkm
        have hnx := hide (And.intro hnx1 hnx2)
        have hne := hide (fun h : l = m => (by subst h; rfl : l[k] = m[k]))
        clear hnx1 hnx2
        generalize l[k] = x at *
        generalize m[k] = y at *
        by_cases hxy0 : x = y
        · have hq : ∀ w, (binOp .neq 86 (.agg #[.int .i32 x.r, .int .i32 x.m0, .int .i32 x.m1, .int .i32 x.m2, .int .i64 x.w, .int .i64 x.p.f.k, .int .u8 x.p.f.i, .int .u8 x.p.f.r, .int .u8 x.p.f.g, .int .u8 x.p.f.b, .int .i64 x.p.b.k, .int .u8 x.p.b.i, .int .u8 x.p.b.r, .int .u8 x.p.b.g, .int .u8 x.p.b.b, .int .u8 x.p.fl]) (.agg #[.int .i32 y.r, .int .i32 y.m0, .int .i32 y.m1, .int .i32 y.m2, .int .i64 y.w, .int .i64 y.p.f.k, .int .u8 y.p.f.i, .int .u8 y.p.f.r, .int .u8 y.p.f.g, .int .u8 y.p.f.b, .int .i64 y.p.b.k, .int .u8 y.p.b.i, .int .u8 y.p.b.r, .int .u8 y.p.b.g, .int .u8 y.p.b.b, .int .u8 y.p.fl])).run Tryz.prog w = .ok (.bool false) w := fun w => (neq_K x y w).trans (by rw [decide_eq_true hxy0]; rfl)
          have hxy := hide hxy0
          clear hxy0
          go_upto_region 6 with fail
          refine wp_region_held_drew (S := (fun w' => CelR w' b (o + k * 16) x ∧ CelR w' b2 (o2 + k * 16) y)) (by kernel_rfl) ?_ (fun hHeld => ?_)
          · (try dsimp only); (exact ⟨r1.kept (Kept.refl [] wr).drew (by simp), r2.kept (Kept.refl [] wr).drew (by simp)⟩)
          refine wpAnyH_take (i := 0) (v := ?_) rfl (by kernel_rfl) (by kernel_rfl) (by kernel_rfl) (fun _ _ _ h => h) (Or.inl ⟨by rfl, ?_⟩) (by assumption) ?_
          rotate_left
          · (intro wq hSw; (try dsimp only at hSw); go_simp; try with_reducible rfl)
          try simp only [Act.put, List.getElem_toArray, List.getElem_cons_zero, List.setIfInBounds_toArray, List.set_cons_zero, List.set_cons_succ]
          refine wpAnyH_take (i := 1) (v := ?_) rfl (by kernel_rfl) (by kernel_rfl) (by kernel_rfl) (fun _ _ _ h => h) (Or.inl ⟨by rfl, ?_⟩) (by assumption) ?_
          rotate_left
          · (intro wq hSw; (try dsimp only at hSw); go_simp; try with_reducible rfl)
          try simp only [Act.put, List.getElem_toArray, List.getElem_cons_succ, List.getElem_cons_zero, List.setIfInBounds_toArray, List.set_cons_zero, List.set_cons_succ]
          refine wpAnyH_take (i := 2) (v := ?_) rfl (by kernel_rfl) (by kernel_rfl) (by kernel_rfl) (fun _ _ _ h => h) (Or.inl ⟨by rfl, ?_⟩) (by assumption) ?_
          rotate_left
          · (intro wq hSw; (try dsimp only at hSw); go_simp; try with_reducible rfl)
          try simp only [Act.put, List.getElem_toArray, List.getElem_cons_succ, List.getElem_cons_zero, List.setIfInBounds_toArray, List.set_cons_zero, List.set_cons_succ]
          refine wpAnyH_take (i := 3) (v := (.agg #[.int .i32 x.r, .int .i32 x.m0, .int .i32 x.m1, .int .i32 x.m2, .int .i64 x.w, .int .i64 x.p.f.k, .int .u8 x.p.f.i, .int .u8 x.p.f.r, .int .u8 x.p.f.g, .int .u8 x.p.f.b, .int .i64 x.p.b.k, .int .u8 x.p.b.i, .int .u8 x.p.b.r, .int .u8 x.p.b.g, .int .u8 x.p.b.b, .int .u8 x.p.fl])) rfl (by kernel_rfl) (by kernel_rfl) (by kernel_rfl) (fun _ _ _ h => h) (yieldsIf_load_mid (by rfl) 86 _ rfl b (o + k * 16) rfl (kcL x) _ (fun _ h => h.1) Tryz.underlying86 rfl (by kernel_rfl)) (by assumption) ?_
          try simp only [Act.put, List.getElem_toArray, List.getElem_cons_succ, List.getElem_cons_zero, List.setIfInBounds_toArray, List.set_cons_zero, List.set_cons_succ]
          refine wpAnyH_take (i := 4) (v := ?_) rfl (by kernel_rfl) (by kernel_rfl) (by kernel_rfl) (fun _ _ _ h => h) (Or.inl ⟨by rfl, ?_⟩) (by assumption) ?_
          rotate_left
          · (intro wq hSw; (try dsimp only at hSw); go_simp; try with_reducible rfl)
          try simp only [Act.put, List.getElem_toArray, List.getElem_cons_succ, List.getElem_cons_zero, List.setIfInBounds_toArray, List.set_cons_zero, List.set_cons_succ]
          refine wpAnyH_take (i := 5) (v := ?_) rfl (by kernel_rfl) (by kernel_rfl) (by kernel_rfl) (fun _ _ _ h => h) (Or.inl ⟨by rfl, ?_⟩) (by assumption) ?_
          rotate_left
          · (intro wq hSw; (try dsimp only at hSw); go_simp; try with_reducible rfl)
          try simp only [Act.put, List.getElem_toArray, List.getElem_cons_succ, List.getElem_cons_zero, List.setIfInBounds_toArray, List.set_cons_zero, List.set_cons_succ]
          refine wpAnyH_take (i := 6) (v := ?_) rfl (by kernel_rfl) (by kernel_rfl) (by kernel_rfl) (fun _ _ _ h => h) (Or.inl ⟨by rfl, ?_⟩) (by assumption) ?_
          rotate_left
          · (intro wq hSw; (try dsimp only at hSw); go_simp; try with_reducible rfl)
          try simp only [Act.put, List.getElem_toArray, List.getElem_cons_succ, List.getElem_cons_zero, List.setIfInBounds_toArray, List.set_cons_zero, List.set_cons_succ]
          refine wpAnyH_take (i := 7) (v := (.agg #[.int .i32 y.r, .int .i32 y.m0, .int .i32 y.m1, .int .i32 y.m2, .int .i64 y.w, .int .i64 y.p.f.k, .int .u8 y.p.f.i, .int .u8 y.p.f.r, .int .u8 y.p.f.g, .int .u8 y.p.f.b, .int .i64 y.p.b.k, .int .u8 y.p.b.i, .int .u8 y.p.b.r, .int .u8 y.p.b.g, .int .u8 y.p.b.b, .int .u8 y.p.fl])) rfl (by kernel_rfl) (by kernel_rfl) (by kernel_rfl) (fun _ _ _ h => h) (yieldsIf_load_mid (by rfl) 86 _ rfl b2 (o2 + k * 16) rfl (kcL y) _ (fun _ h => h.2) Tryz.underlying86 rfl (by kernel_rfl)) (by assumption) ?_
          try simp only [Act.put, List.getElem_toArray, List.getElem_cons_succ, List.getElem_cons_zero, List.setIfInBounds_toArray, List.set_cons_zero, List.set_cons_succ]
          refine wpAnyH_take (i := 8) (v := ?_) rfl (by kernel_rfl) (by kernel_rfl) (by kernel_rfl) (fun _ _ _ h => h) (Or.inl ⟨by rfl, ?_⟩) (by assumption) ?_
          rotate_left
          · (intro wq hSw; (try dsimp only at hSw); go_simp; try with_reducible rfl)
          try simp only [Act.put, List.getElem_toArray, List.getElem_cons_succ, List.getElem_cons_zero, List.setIfInBounds_toArray, List.set_cons_zero, List.set_cons_succ]
          refine wpAnyH_done (by kernel_rfl) ?_ _
          go_wp2_with fail
          go_roundg (n - (k + 1))
          case measure => omega
          case rel => exact ⟨k + 1, by push_cast; rfl, by omega, Nat.le_refl _, hide (by rw [hnx.out.1, hnx.out.2, hT.out, hxy.out]), hkr.drew⟩
        · have hq : ∀ w, (binOp .neq 86 (.agg #[.int .i32 x.r, .int .i32 x.m0, .int .i32 x.m1, .int .i32 x.m2, .int .i64 x.w, .int .i64 x.p.f.k, .int .u8 x.p.f.i, .int .u8 x.p.f.r, .int .u8 x.p.f.g, .int .u8 x.p.f.b, .int .i64 x.p.b.k, .int .u8 x.p.b.i, .int .u8 x.p.b.r, .int .u8 x.p.b.g, .int .u8 x.p.b.b, .int .u8 x.p.fl]) (.agg #[.int .i32 y.r, .int .i32 y.m0, .int .i32 y.m1, .int .i32 y.m2, .int .i64 y.w, .int .i64 y.p.f.k, .int .u8 y.p.f.i, .int .u8 y.p.f.r, .int .u8 y.p.f.g, .int .u8 y.p.f.b, .int .i64 y.p.b.k, .int .u8 y.p.b.i, .int .u8 y.p.b.r, .int .u8 y.p.b.g, .int .u8 y.p.b.b, .int .u8 y.p.fl])).run Tryz.prog w = .ok (.bool true) w := fun w => (neq_K x y w).trans (by rw [decide_eq_false hxy0]; rfl)
          have hxy := hide hxy0
          clear hxy0
          go_upto_region 6 with fail
          refine wp_region_held_drew (S := (fun w' => CelR w' b (o + k * 16) x ∧ CelR w' b2 (o2 + k * 16) y)) (by kernel_rfl) ?_ (fun hHeld => ?_)
          · (try dsimp only); (exact ⟨r1.kept (Kept.refl [] wr).drew (by simp), r2.kept (Kept.refl [] wr).drew (by simp)⟩)
          refine wpAnyH_take (i := 0) (v := ?_) rfl (by kernel_rfl) (by kernel_rfl) (by kernel_rfl) (fun _ _ _ h => h) (Or.inl ⟨by rfl, ?_⟩) (by assumption) ?_
          rotate_left
          · (intro wq hSw; (try dsimp only at hSw); go_simp; try with_reducible rfl)
          try simp only [Act.put, List.getElem_toArray, List.getElem_cons_zero, List.setIfInBounds_toArray, List.set_cons_zero, List.set_cons_succ]
          refine wpAnyH_take (i := 1) (v := ?_) rfl (by kernel_rfl) (by kernel_rfl) (by kernel_rfl) (fun _ _ _ h => h) (Or.inl ⟨by rfl, ?_⟩) (by assumption) ?_
          rotate_left
          · (intro wq hSw; (try dsimp only at hSw); go_simp; try with_reducible rfl)
          try simp only [Act.put, List.getElem_toArray, List.getElem_cons_succ, List.getElem_cons_zero, List.setIfInBounds_toArray, List.set_cons_zero, List.set_cons_succ]
          refine wpAnyH_take (i := 2) (v := ?_) rfl (by kernel_rfl) (by kernel_rfl) (by kernel_rfl) (fun _ _ _ h => h) (Or.inl ⟨by rfl, ?_⟩) (by assumption) ?_
          rotate_left
          · (intro wq hSw; (try dsimp only at hSw); go_simp; try with_reducible rfl)
          try simp only [Act.put, List.getElem_toArray, List.getElem_cons_succ, List.getElem_cons_zero, List.setIfInBounds_toArray, List.set_cons_zero, List.set_cons_succ]
          refine wpAnyH_take (i := 3) (v := (.agg #[.int .i32 x.r, .int .i32 x.m0, .int .i32 x.m1, .int .i32 x.m2, .int .i64 x.w, .int .i64 x.p.f.k, .int .u8 x.p.f.i, .int .u8 x.p.f.r, .int .u8 x.p.f.g, .int .u8 x.p.f.b, .int .i64 x.p.b.k, .int .u8 x.p.b.i, .int .u8 x.p.b.r, .int .u8 x.p.b.g, .int .u8 x.p.b.b, .int .u8 x.p.fl])) rfl (by kernel_rfl) (by kernel_rfl) (by kernel_rfl) (fun _ _ _ h => h) (yieldsIf_load_mid (by rfl) 86 _ rfl b (o + k * 16) rfl (kcL x) _ (fun _ h => h.1) Tryz.underlying86 rfl (by kernel_rfl)) (by assumption) ?_
          try simp only [Act.put, List.getElem_toArray, List.getElem_cons_succ, List.getElem_cons_zero, List.setIfInBounds_toArray, List.set_cons_zero, List.set_cons_succ]
          refine wpAnyH_take (i := 4) (v := ?_) rfl (by kernel_rfl) (by kernel_rfl) (by kernel_rfl) (fun _ _ _ h => h) (Or.inl ⟨by rfl, ?_⟩) (by assumption) ?_
          rotate_left
          · (intro wq hSw; (try dsimp only at hSw); go_simp; try with_reducible rfl)
          try simp only [Act.put, List.getElem_toArray, List.getElem_cons_succ, List.getElem_cons_zero, List.setIfInBounds_toArray, List.set_cons_zero, List.set_cons_succ]
          refine wpAnyH_take (i := 5) (v := ?_) rfl (by kernel_rfl) (by kernel_rfl) (by kernel_rfl) (fun _ _ _ h => h) (Or.inl ⟨by rfl, ?_⟩) (by assumption) ?_
          rotate_left
          · (intro wq hSw; (try dsimp only at hSw); go_simp; try with_reducible rfl)
          try simp only [Act.put, List.getElem_toArray, List.getElem_cons_succ, List.getElem_cons_zero, List.setIfInBounds_toArray, List.set_cons_zero, List.set_cons_succ]
          refine wpAnyH_take (i := 6) (v := ?_) rfl (by kernel_rfl) (by kernel_rfl) (by kernel_rfl) (fun _ _ _ h => h) (Or.inl ⟨by rfl, ?_⟩) (by assumption) ?_
          rotate_left
          · (intro wq hSw; (try dsimp only at hSw); go_simp; try with_reducible rfl)
          try simp only [Act.put, List.getElem_toArray, List.getElem_cons_succ, List.getElem_cons_zero, List.setIfInBounds_toArray, List.set_cons_zero, List.set_cons_succ]
          refine wpAnyH_take (i := 7) (v := (.agg #[.int .i32 y.r, .int .i32 y.m0, .int .i32 y.m1, .int .i32 y.m2, .int .i64 y.w, .int .i64 y.p.f.k, .int .u8 y.p.f.i, .int .u8 y.p.f.r, .int .u8 y.p.f.g, .int .u8 y.p.f.b, .int .i64 y.p.b.k, .int .u8 y.p.b.i, .int .u8 y.p.b.r, .int .u8 y.p.b.g, .int .u8 y.p.b.b, .int .u8 y.p.fl])) rfl (by kernel_rfl) (by kernel_rfl) (by kernel_rfl) (fun _ _ _ h => h) (yieldsIf_load_mid (by rfl) 86 _ rfl b2 (o2 + k * 16) rfl (kcL y) _ (fun _ h => h.2) Tryz.underlying86 rfl (by kernel_rfl)) (by assumption) ?_
          try simp only [Act.put, List.getElem_toArray, List.getElem_cons_succ, List.getElem_cons_zero, List.setIfInBounds_toArray, List.set_cons_zero, List.set_cons_succ]
          refine wpAnyH_take (i := 8) (v := ?_) rfl (by kernel_rfl) (by kernel_rfl) (by kernel_rfl) (fun _ _ _ h => h) (Or.inl ⟨by rfl, ?_⟩) (by assumption) ?_
          rotate_left
          · (intro wq hSw; (try dsimp only at hSw); go_simp; try with_reducible rfl)
          try simp only [Act.put, List.getElem_toArray, List.getElem_cons_succ, List.getElem_cons_zero, List.setIfInBounds_toArray, List.set_cons_zero, List.set_cons_succ]
          refine wpAnyH_done (by kernel_rfl) ?_ _
          go_wp2_with fail
          go_ret
          exact ⟨ret_bool (by simp; exact fun h => hxy.out (hne.out h)), hkr.drew⟩
      · obtain rfl : k = n := by omega
        go_wp2_with fail
        go_ret
        have e : l = m := by
          have := hT.out
          rwa [List.take_of_length_le (Nat.le_of_eq hl.out), List.take_of_length_le (Nat.le_of_eq hm.out)] at this
        exact ⟨ret_bool (by simp [e]), hkr⟩
  · have hnn : (n : Int) ≠ (n2 : Int) := by omega
    go_enter Tryz.func59, Tryz.ntmps59
    go_wp2_with fail
    go_ret
    have e : ¬ l = m := fun e => hnn0 (by rw [← hl, ← hm, e])
    exact ⟨ret_bool (by simp [e]), Kept.refl _ _⟩

theorem Same_any (a : Option Addr) (n c : Nat) (l : List Cl) (a2 : Option Addr) (n2 c2 : Nat) (m : List Cl) (w : World) (hr : Rd w a n 16 (cellsV l)) (hr2 : Rd w a2 n2 16 (cellsV m)) (hn : n ≤ 1000) :
    Calls Tryz.prog 59 #[.slice a n c, .slice a2 n2 c2] w fun e w' => e = .returned (.bool (decide (l = m))) ∧ Kept [] w w' := Same_big a n c l a2 n2 c2 m w hr hr2 (by omega)

/-- Cells that can be stained. -/
def StainAt (w : World) (g n : Nat) : Prop := (∀ i, i < n → ∃ r v, w.cell? ⟨g, i * 16, none⟩ = some (.int .i32 r) ∧ w.cell? ⟨g, i * 16 + 4, none⟩ = some (.int .i64 v)) ∧ ∃ cur, w.heap[g]? = some (.cells cur 86 (0, 0))
theorem StainAt.next {w : World} {g n k : Nat} (h : StainAt w g n) (hk : k < n) (x y : Int) : StainAt ((w.setCell ⟨g, k * 16, none⟩ (.int .i32 x)).setCell ⟨g, k * 16 + 4, none⟩ (.int .i64 y)) g n := by
  obtain ⟨h1, cur, hc⟩ := h
  refine ⟨fun i hi => ?_, _, heap_set _ g _ _ _ _ (heap_set w g _ _ _ _ hc)⟩
  obtain ⟨r, v, e1, e2⟩ := h1 i hi
  by_cases hik : i = k
  · subst hik
    refine ⟨x, y, ?_, ?_⟩
    · rw [World.cell?_setCell_other _ _ _ _ (by simp)]
      exact World.cell?_setCell_same _ _ _ e1
    · exact World.cell?_setCell_same (u := .int .i64 v) _ _ _ (by rw [World.cell?_setCell_other _ _ _ _ (by simp)]; exact e2)
  · refine ⟨r, v, ?_, ?_⟩
    · rw [World.cell?_setCell_other _ _ _ _ (by simp; try omega), World.cell?_setCell_other _ _ _ _ (by simp; try omega)]; exact e1
    · rw [World.cell?_setCell_other _ _ _ _ (by simp; try omega), World.cell?_setCell_other _ _ _ _ (by simp; try omega)]; exact e2

/-- Stain writes into the cells of a slice of the call's own, and nowhere else. -/
theorem Stain_any (a : Option Addr) (n c base : Nat) (l : List Cl) (w : World) (ho : Own w base 86 a n c 16 (cellsV l)) (hn : n ≤ 1000) :
    Calls Tryz.prog 28 #[.slice a n c] w fun e w' => e = .returned (.tuple #[]) ∧ Kept (blk a) w w' := by
  by_cases hn0 : n = 0
  · subst hn0
    go_enter Tryz.func28, Tryz.ntmps28
    go_wp2_with fail
    refine wp_loop_rounds 1 ?_
    rw [rounds_succ]
    go_wp2_with fail
    go_end0
    exact ⟨rfl, Kept.refl _ _⟩
  · obtain ⟨g, rfl, cur, hcur⟩ := ho.form (by omega)
    have hS : StainAt w g n := ⟨fun i hi => by
      have r1 := ho.rd.cel i (by have := ho.rd.clen; omega)
      rw [Nat.zero_add] at r1
      obtain ⟨q0, _, _, _, q4, _⟩ := r1.at
      exact ⟨_, _, q0, q4⟩, cur, hcur⟩
    clear hcur ho
    go_enter Tryz.func28, Tryz.ntmps28
    go_wp2_with fail
    go_loopg [2, 3, 4, 5, 6, 7, 8, 9, 10, 11, 12, 13, 14, 15, 16, 17, 18, 19, 20, 21, 22, 23, 24] n (fun kx s2 s3 s4 s5 s6 s7 s8 s9 s10 s11 s12 s13 s14 s15 s16 s17 s18 s19 s20 s21 s22 s23 s24 wr => ∃ (k : Nat), s2 = .int .i64 k ∧ k ≤ n ∧ n - k ≤ kx ∧ StainAt wr g n ∧ Kept [g] w wr)
    case atStart => exact ⟨0, rfl, Nat.zero_le _, by omega, hS, Kept.refl _ _⟩
    case round =>
      obtain ⟨k, rfl, hk, hg, hor, hkr⟩ := hrel
      by_cases hlt : k < n
      · have hkn : (k : Int) < (n : Int) := by omega
        have hor' := hide hor
        obtain ⟨h1, cur, hcur⟩ := hor
        have hf : ∀ j, wr.frozen? ⟨g, j, none⟩ = false := fun j => by unfold World.frozen?; rw [hcur]; simp
        obtain ⟨r, v, q0, q4⟩ := h1 k hlt
        have f0 := hf (k * 16)
        have f4 := hf (k * 16 + 4)
        clear hf h1 hcur
        go_wp2_with fail
        go_roundg (n - (k + 1))
        case measure => omega
        case rel => exact ⟨k + 1, by push_cast; rfl, by omega, Nat.le_refl _, hor'.out.next hlt _ _, (hkr.setCell (.inl (by simp)) _).setCell (.inl (by simp)) _⟩
      · obtain rfl : k = n := by omega
        go_wp2_with fail
        go_end0
        exact ⟨rfl, hkr⟩
end Go.Proofs.YtnkddhmhjnhgcaaGreatDoor
