/- Cloning runs; comparing lists of runs. -/
import Derived.Test.YtpdjlollijbdeaaDoorPakApp
namespace Go.Proofs.YtpdjlollijbdeaaDoor
open Go.RowKit
set_option linter.unusedVariables false

theorem rangeKept {S : List Nat} {w w' : World} {b o : Nat} {L : List Value} (h : w.rangeAt b o L) (hk : Kept S w w') (hb : b ∉ S) : w'.rangeAt b o L := fun j v hv => hk.cell (h j v hv) hb
theorem RClone_any (a : Option Addr) (n c : Nat) (l : List Ru) (w : World) (hr : Rd w a n 4 (runsV l)) (hn : n ≤ 1000000) :
    Calls Tryd.prog 52 #[.slice a n c] w fun e w' => ∃ a' c', e = .returned (.slice a' n c') ∧ Own w' w.heap.size 67 a' n c' 4 (runsV l) ∧ Kept [] w w' := by
  have hq := fun n' c' w => Lib.run_eql_slice_nil (P := Tryd.prog) w 43 67 a n c n' c' Tryd.underlying43
  cases a with
  | none =>
    obtain ⟨rfl, rfl⟩ := hr.rowNil rowRun
    go_enter Tryd.func52, Tryd.ntmps52
    go_wp2_with fail
    go_ret
    exact ⟨none, 0, rfl, Own.nil _ _ _ _, Kept.refl _ _⟩
  | some x =>
    go_enter Tryd.func52, Tryd.ntmps52
    have hh : (w.alloc (.cells #[] 67)).heap[w.heap.size]? = some (.cells #[] 67 (0, 0)) := heap_alloc_new w _
    have hown : Own (w.alloc (.cells #[] 67)) w.heap.size 67 (some ⟨w.heap.size, 0, none⟩) 0 0 4 [] := ⟨rfl, .inr ⟨w.heap.size, 0, #[], rfl, Nat.le_refl _, hh, Nat.le_refl _, by decide, rfl, rfl⟩⟩
    have hr' := hr.kept ((Kept.refl [] w).alloc (.cells #[] 67)) (by simp)
    go_wp2_with (at_builtin; refine wpList_app ?_ rfl elRun rfl rfl hown rfl hr' (rowsV_oneCell rowRun l) ?o2 ?o3; intro a' c' w2 ho2 hk2 hat2)
    case o2 => omega
    case o3 => simp
    go_ret
    rw [Nat.zero_add] at *
    exact ⟨a', c', rfl, by simpa using ho2, ((Kept.refl [] w).alloc _).trans hk2 (by intro x hx; simp [blk] at hx; omega)⟩


set_option maxHeartbeats 1000000 in
theorem RSame_any (a : Option Addr) (n c : Nat) (l : List Ru) (a2 : Option Addr) (n2 c2 : Nat) (m : List Ru) (w : World) (hr : Rd w a n 4 (runsV l)) (hr2 : Rd w a2 n2 4 (runsV m)) (hn : n ≤ 1000000) :
    Calls Tryd.prog 24 #[.slice a n c, .slice a2 n2 c2] w fun e w' => e = .returned (.bool (decide (l = m))) ∧ Kept [] w w' := by
  have hl := hr.runs
  have hm := hr2.runs
  by_cases hnn0 : n = n2
  · subst hnn0
    have hH := hide hr
    have hH2 := hide hr2
    clear hr hr2
    go_enter Tryd.func24, Tryd.ntmps24
    go_wp2_with fail
    have hl := hide hl
    have hm := hide hm
    go_loopg [5, 11, 12, 13, 14, 15, 16, 17, 18, 19, 20, 21, 22, 23, 24, 25] n (fun kx s5 s11 s12 s13 s14 s15 s16 s17 s18 s19 s20 s21 s22 s23 s24 s25 wr => ∃ k : Nat, s5 = .int .i64 k ∧ k ≤ n ∧ n - k ≤ kx ∧ Hid (l.take k = m.take k) ∧ Kept [] w wr)
    case atStart => exact ⟨0, rfl, Nat.zero_le _, by omega, hide (by simp), Kept.refl _ _⟩
    case round =>
      obtain ⟨k, rfl, hk, hg, hT, hkr⟩ := hrel
      by_cases hlt : k < n
      · have hkl : k < l.length := by rw [hl.out]; exact hlt
        have hkm : k < m.length := by rw [hm.out]; exact hlt
        obtain ⟨b, o, rfl⟩ := hH.out.runAddr (by omega)
        obtain ⟨b2, o2, rfl⟩ := hH2.out.runAddr (by omega)
        have r1 := rangeKept (hH.out.row rowRun k hkl) hkr (by simp)
        have r2 := rangeKept (hH2.out.row rowRun k hkm) hkr (by simp)
        have hkn : (k : Int) < (n : Int) := by omega
        have hnx1 : l.take (k + 1) = l.take k ++ [l[k]] := List.take_succ_eq_append_getElem hkl
        have hnx2 : m.take (k + 1) = m.take k ++ [m[k]] := List.take_succ_eq_append_getElem hkm
        have hnx := hide (And.intro hnx1 hnx2)
        have hne := hide (fun h : l = m => (by subst h; rfl : l[k] = m[k]))
        clear hnx1 hnx2
        generalize l[k] = x at *
        generalize m[k] = y at *
        by_cases hxy0 : x = y
        · have hq : ∀ w, (binOp .neq 67 (.agg #[.int .i64 x.n, .int .u64 x.w.a, .int .u64 x.w.b, .int .u64 x.w.c]) (.agg #[.int .i64 y.n, .int .u64 y.w.a, .int .u64 y.w.b, .int .u64 y.w.c])).run Tryd.prog w = .ok (.bool false) w := fun w => (neq_R x y w).trans (by rw [decide_eq_true hxy0]; rfl)
          have hxy := hide hxy0
          clear hxy0
          go_upto_region 6 with fail
          refine wp_region_held_drew (S := (fun w' => w'.rangeAt b (o + k * 4) (runL x) ∧ w'.rangeAt b2 (o2 + k * 4) (runL y))) (by kernel_rfl) ?_ (fun hHeld => ?_)
          · (try dsimp only); (exact ⟨rangeKept r1 (Kept.refl [] wr).drew (by simp), rangeKept r2 (Kept.refl [] wr).drew (by simp)⟩)
          refine wpAnyH_take (i := 0) (v := ?_) rfl (by kernel_rfl) (by kernel_rfl) (by kernel_rfl) (fun _ _ _ h => h) (Or.inl ⟨by rfl, ?_⟩) (by assumption) ?_
          rotate_left
          · (intro wq hSw; (try dsimp only at hSw); go_simp; try with_reducible rfl)
          try simp only [Act.put, List.getElem_toArray, List.getElem_cons_zero, List.setIfInBounds_toArray, List.set_cons_zero, List.set_cons_succ]
          refine wpAnyH_take (i := 1) (v := ?_) rfl (by kernel_rfl) (by kernel_rfl) (by kernel_rfl) (fun _ _ _ h => h) (Or.inl ⟨by rfl, ?_⟩) (by assumption) ?_
          rotate_left
          · (intro wq hSw; (try dsimp only at hSw); go_simp; try with_reducible rfl)
          try simp only [Act.put, List.getElem_toArray, List.getElem_cons_succ, List.getElem_cons_zero, List.setIfInBounds_toArray, List.set_cons_zero, List.set_cons_succ]
          refine wpAnyH_take (i := 2) (v := ?_) rfl (by kernel_rfl) (by kernel_rfl) (by kernel_rfl) (fun _ _ _ h => h) (Or.inl ⟨by rfl, ?_⟩) (by assumption) ?_
          rotate_left
          · (intro wq hSw; (try dsimp only at hSw); go_simp; try with_reducible rfl)
          try simp only [Act.put, List.getElem_toArray, List.getElem_cons_succ, List.getElem_cons_zero, List.setIfInBounds_toArray, List.set_cons_zero, List.set_cons_succ]
          refine wpAnyH_take (i := 3) (v := (.agg #[.int .i64 x.n, .int .u64 x.w.a, .int .u64 x.w.b, .int .u64 x.w.c])) rfl (by kernel_rfl) (by kernel_rfl) (by kernel_rfl) (fun _ _ _ h => h) (yieldsIf_load_mid (by rfl) 67 _ rfl b (o + k * 4) rfl (runL x) _ (fun _ h => h.1) Tryd.underlying67 rfl (by kernel_rfl)) (by assumption) ?_
          try simp only [Act.put, List.getElem_toArray, List.getElem_cons_succ, List.getElem_cons_zero, List.setIfInBounds_toArray, List.set_cons_zero, List.set_cons_succ]
          refine wpAnyH_take (i := 4) (v := ?_) rfl (by kernel_rfl) (by kernel_rfl) (by kernel_rfl) (fun _ _ _ h => h) (Or.inl ⟨by rfl, ?_⟩) (by assumption) ?_
          rotate_left
          · (intro wq hSw; (try dsimp only at hSw); go_simp; try with_reducible rfl)
          try simp only [Act.put, List.getElem_toArray, List.getElem_cons_succ, List.getElem_cons_zero, List.setIfInBounds_toArray, List.set_cons_zero, List.set_cons_succ]
          refine wpAnyH_take (i := 5) (v := ?_) rfl (by kernel_rfl) (by kernel_rfl) (by kernel_rfl) (fun _ _ _ h => h) (Or.inl ⟨by rfl, ?_⟩) (by assumption) ?_
          rotate_left
          · (intro wq hSw; (try dsimp only at hSw); go_simp; try with_reducible rfl)
          try simp only [Act.put, List.getElem_toArray, List.getElem_cons_succ, List.getElem_cons_zero, List.setIfInBounds_toArray, List.set_cons_zero, List.set_cons_succ]
          refine wpAnyH_take (i := 6) (v := ?_) rfl (by kernel_rfl) (by kernel_rfl) (by kernel_rfl) (fun _ _ _ h => h) (Or.inl ⟨by rfl, ?_⟩) (by assumption) ?_
          rotate_left
          · (intro wq hSw; (try dsimp only at hSw); go_simp; try with_reducible rfl)
          try simp only [Act.put, List.getElem_toArray, List.getElem_cons_succ, List.getElem_cons_zero, List.setIfInBounds_toArray, List.set_cons_zero, List.set_cons_succ]
          refine wpAnyH_take (i := 7) (v := (.agg #[.int .i64 y.n, .int .u64 y.w.a, .int .u64 y.w.b, .int .u64 y.w.c])) rfl (by kernel_rfl) (by kernel_rfl) (by kernel_rfl) (fun _ _ _ h => h) (yieldsIf_load_mid (by rfl) 67 _ rfl b2 (o2 + k * 4) rfl (runL y) _ (fun _ h => h.2) Tryd.underlying67 rfl (by kernel_rfl)) (by assumption) ?_
          try simp only [Act.put, List.getElem_toArray, List.getElem_cons_succ, List.getElem_cons_zero, List.setIfInBounds_toArray, List.set_cons_zero, List.set_cons_succ]
          refine wpAnyH_take (i := 8) (v := ?_) rfl (by kernel_rfl) (by kernel_rfl) (by kernel_rfl) (fun _ _ _ h => h) (Or.inl ⟨by rfl, ?_⟩) (by assumption) ?_
          rotate_left
          · (intro wq hSw; (try dsimp only at hSw); go_simp; try with_reducible rfl)
          try simp only [Act.put, List.getElem_toArray, List.getElem_cons_succ, List.getElem_cons_zero, List.setIfInBounds_toArray, List.set_cons_zero, List.set_cons_succ]
          refine wpAnyH_done (by kernel_rfl) ?_ _
          go_wp2_with fail
          go_roundg (n - (k + 1))
          case measure => omega
          case rel => exact ⟨k + 1, by push_cast; rfl, by omega, Nat.le_refl _, hide (by rw [hnx.out.1, hnx.out.2, hT.out, hxy.out]), hkr.drew⟩
        · have hq : ∀ w, (binOp .neq 67 (.agg #[.int .i64 x.n, .int .u64 x.w.a, .int .u64 x.w.b, .int .u64 x.w.c]) (.agg #[.int .i64 y.n, .int .u64 y.w.a, .int .u64 y.w.b, .int .u64 y.w.c])).run Tryd.prog w = .ok (.bool true) w := fun w => (neq_R x y w).trans (by rw [decide_eq_false hxy0]; rfl)
          have hxy := hide hxy0
          clear hxy0
          go_upto_region 6 with fail
          refine wp_region_held_drew (S := (fun w' => w'.rangeAt b (o + k * 4) (runL x) ∧ w'.rangeAt b2 (o2 + k * 4) (runL y))) (by kernel_rfl) ?_ (fun hHeld => ?_)
          · (try dsimp only); (exact ⟨rangeKept r1 (Kept.refl [] wr).drew (by simp), rangeKept r2 (Kept.refl [] wr).drew (by simp)⟩)
          refine wpAnyH_take (i := 0) (v := ?_) rfl (by kernel_rfl) (by kernel_rfl) (by kernel_rfl) (fun _ _ _ h => h) (Or.inl ⟨by rfl, ?_⟩) (by assumption) ?_
          rotate_left
          · (intro wq hSw; (try dsimp only at hSw); go_simp; try with_reducible rfl)
          try simp only [Act.put, List.getElem_toArray, List.getElem_cons_zero, List.setIfInBounds_toArray, List.set_cons_zero, List.set_cons_succ]
          refine wpAnyH_take (i := 1) (v := ?_) rfl (by kernel_rfl) (by kernel_rfl) (by kernel_rfl) (fun _ _ _ h => h) (Or.inl ⟨by rfl, ?_⟩) (by assumption) ?_
          rotate_left
          · (intro wq hSw; (try dsimp only at hSw); go_simp; try with_reducible rfl)
          try simp only [Act.put, List.getElem_toArray, List.getElem_cons_succ, List.getElem_cons_zero, List.setIfInBounds_toArray, List.set_cons_zero, List.set_cons_succ]
          refine wpAnyH_take (i := 2) (v := ?_) rfl (by kernel_rfl) (by kernel_rfl) (by kernel_rfl) (fun _ _ _ h => h) (Or.inl ⟨by rfl, ?_⟩) (by assumption) ?_
          rotate_left
          · (intro wq hSw; (try dsimp only at hSw); go_simp; try with_reducible rfl)
          try simp only [Act.put, List.getElem_toArray, List.getElem_cons_succ, List.getElem_cons_zero, List.setIfInBounds_toArray, List.set_cons_zero, List.set_cons_succ]
          refine wpAnyH_take (i := 3) (v := (.agg #[.int .i64 x.n, .int .u64 x.w.a, .int .u64 x.w.b, .int .u64 x.w.c])) rfl (by kernel_rfl) (by kernel_rfl) (by kernel_rfl) (fun _ _ _ h => h) (yieldsIf_load_mid (by rfl) 67 _ rfl b (o + k * 4) rfl (runL x) _ (fun _ h => h.1) Tryd.underlying67 rfl (by kernel_rfl)) (by assumption) ?_
          try simp only [Act.put, List.getElem_toArray, List.getElem_cons_succ, List.getElem_cons_zero, List.setIfInBounds_toArray, List.set_cons_zero, List.set_cons_succ]
          refine wpAnyH_take (i := 4) (v := ?_) rfl (by kernel_rfl) (by kernel_rfl) (by kernel_rfl) (fun _ _ _ h => h) (Or.inl ⟨by rfl, ?_⟩) (by assumption) ?_
          rotate_left
          · (intro wq hSw; (try dsimp only at hSw); go_simp; try with_reducible rfl)
          try simp only [Act.put, List.getElem_toArray, List.getElem_cons_succ, List.getElem_cons_zero, List.setIfInBounds_toArray, List.set_cons_zero, List.set_cons_succ]
          refine wpAnyH_take (i := 5) (v := ?_) rfl (by kernel_rfl) (by kernel_rfl) (by kernel_rfl) (fun _ _ _ h => h) (Or.inl ⟨by rfl, ?_⟩) (by assumption) ?_
          rotate_left
          · (intro wq hSw; (try dsimp only at hSw); go_simp; try with_reducible rfl)
          try simp only [Act.put, List.getElem_toArray, List.getElem_cons_succ, List.getElem_cons_zero, List.setIfInBounds_toArray, List.set_cons_zero, List.set_cons_succ]
          refine wpAnyH_take (i := 6) (v := ?_) rfl (by kernel_rfl) (by kernel_rfl) (by kernel_rfl) (fun _ _ _ h => h) (Or.inl ⟨by rfl, ?_⟩) (by assumption) ?_
          rotate_left
          · (intro wq hSw; (try dsimp only at hSw); go_simp; try with_reducible rfl)
          try simp only [Act.put, List.getElem_toArray, List.getElem_cons_succ, List.getElem_cons_zero, List.setIfInBounds_toArray, List.set_cons_zero, List.set_cons_succ]
          refine wpAnyH_take (i := 7) (v := (.agg #[.int .i64 y.n, .int .u64 y.w.a, .int .u64 y.w.b, .int .u64 y.w.c])) rfl (by kernel_rfl) (by kernel_rfl) (by kernel_rfl) (fun _ _ _ h => h) (yieldsIf_load_mid (by rfl) 67 _ rfl b2 (o2 + k * 4) rfl (runL y) _ (fun _ h => h.2) Tryd.underlying67 rfl (by kernel_rfl)) (by assumption) ?_
          try simp only [Act.put, List.getElem_toArray, List.getElem_cons_succ, List.getElem_cons_zero, List.setIfInBounds_toArray, List.set_cons_zero, List.set_cons_succ]
          refine wpAnyH_take (i := 8) (v := ?_) rfl (by kernel_rfl) (by kernel_rfl) (by kernel_rfl) (fun _ _ _ h => h) (Or.inl ⟨by rfl, ?_⟩) (by assumption) ?_
          rotate_left
          · (intro wq hSw; (try dsimp only at hSw); go_simp; try with_reducible rfl)
          try simp only [Act.put, List.getElem_toArray, List.getElem_cons_succ, List.getElem_cons_zero, List.setIfInBounds_toArray, List.set_cons_zero, List.set_cons_succ]
          refine wpAnyH_done (by kernel_rfl) ?_ _
          go_wp2_with fail
          go_ret
          exact ⟨ret_bool (by simp; exact fun h => hxy.out (hne.out h)), hkr.drew⟩
      · obtain rfl : k = n := by omega
        go_wp2_with fail
        go_ret
        have e : l = m := by
          have := hT.out
          rwa [List.take_of_length_le (Nat.le_of_eq hl.out), List.take_of_length_le (Nat.le_of_eq hm.out)] at this
        exact ⟨ret_bool (by simp [e]), hkr⟩
  · have hnn : (n : Int) ≠ (n2 : Int) := by omega
    go_enter Tryd.func24, Tryd.ntmps24
    go_wp2_with fail
    go_ret
    have e : ¬ l = m := fun e => hnn0 (by rw [← hl, ← hm, e])
    exact ⟨ret_bool (by simp [e]), Kept.refl _ _⟩
end Go.Proofs.YtpdjlollijbdeaaDoor
