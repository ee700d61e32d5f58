/- The program's function Put of layer 6. -/
import Derived.Test.YtkhdnaopdhnkaaaDoorLinFn3
namespace Go.Proofs.YtkhdnaopdhnkaaaDoor
open Go.RowKit
set_option linter.unusedVariables false
set_option maxRecDepth 100000

theorem three_new (w : World) (a1 : Option Addr) (n1 c1 : Nat) (a2 : Option Addr) (n2 c2 : Nat) (a3 : Option Addr) (n3 c3 : Nat) : ThreeIn (w.alloc (.cells #[.slice a1 n1 c1, .slice a2 n2 c2, .slice a3 n3 c3] 22)) w.heap.size a1 n1 c1 a2 n2 c2 a3 n3 c3 := by
  have e := fun j => cell_of_row _ w.heap.size j _ _ _ (heap_alloc_new w (.cells #[.slice a1 n1 c1, .slice a2 n2 c2, .slice a3 n3 c3] 22))
  exact ⟨e 0, e 1, e 2⟩

set_option maxHeartbeats 4000000 in
theorem Put6_bad1 (a : Option Addr) (n c : Nat) (s : Bool) (l : List Cl) (at' : Int) (a2 : Option Addr) (n2 c2 : Nat) (l2 : List Cl) (w : World) (ht : Tabs w) (hr : Rd w a n 16 (cellsV l)) (hn : n ≤ 1000) (hnc : n ≤ c) (hcm : c ≤ maxLen) (hr2 : Rd w a2 n2 16 (cellsV l2)) (hn2 : n2 ≤ 1000) (hv : validL l = false) :
    Calls Tryd.prog 35 #[.agg #[.slice a n c, .bool s], .int .i64 at', .slice a2 n2 c2] w (LinRet2 w (([], false), 2)) := by
  obtain ⟨W0, hW0⟩ : ∃ z : World, z = (w.alloc (.cells #[.slice a n c, .bool s] 27)).alloc (.cells #[.slice none 0 0, .bool false] 27) := ⟨_, rfl⟩
  have hk0 : Kept [] w W0 := by rw [hW0]; exact ((Kept.refl [] w).alloc _).alloc _
  have hb0 : Hid (LinIn W0 w.heap.size a n c s) := hide (by rw [hW0]; exact (LinIn.new w a n c s).kept ((Kept.refl [] _).alloc _) (by simp))
  have hz0 : Hid (LinIn W0 (w.heap.size + 1) none 0 0 false) := hide (by rw [hW0]; exact heap_new_at (by simp))
  have hH := hide (hr.kept hk0 (by simp))
  have hH2 := hide (hr2.kept hk0 (by simp))
  have hs0 : w.heap.size + 1 < W0.heap.size := by rw [hW0]; simp
  replace hs0 := hide hs0
  have hl := hide hr.clen
  have hl2 := hide hr2.clen
  have hV := hide (Valid6_any a n c l s W0 (ht.kept hk0) hH.out (by omega))
  have hR := hide (fun w1 (hk : Kept [] W0 w1) => Row_any a2 n2 c2 l2 w1 (ht.kept (hk0.trans hk (by simp))) (hH2.out.kept hk (by simp)) hn2)
  rw [hv] at hV
  clear hr hr2 ht hv
  go_enter Tryd.func35, Tryd.ntmps35
  go_upto_region 1 with fail
  rw [← hW0]
  clear hW0
  obtain ⟨q0, q1⟩ := hb0.out.at
  go_wp2_with fail
  refine hV.out.mono ?_
  rintro e w1 ⟨rfl, hk1⟩
  go_wp2_with (refine wpList_store_lin rfl rfl rfl (w.heap.size + 1) rfl (hz0.out.kept hk1 (by simp)) none 0 0 false rfl ?_; intro w7 hb7 hk7)
  refine bodyPost_ret (results_lin2 rfl rfl hb7 rfl) rfl ?_
  exact ⟨none, 0, 0, rfl, Own.nil _ _ _ _, Nat.le_refl _, Nat.zero_le _, (hk0.trans hk1 (by simp)).trans hk7 (by simp)⟩

set_option maxHeartbeats 4000000 in
theorem Put6_bad2 (a : Option Addr) (n c : Nat) (s : Bool) (l : List Cl) (at' : Int) (a2 : Option Addr) (n2 c2 : Nat) (l2 : List Cl) (w : World) (ht : Tabs w) (hr : Rd w a n 16 (cellsV l)) (hn : n ≤ 1000) (hnc : n ≤ c) (hcm : c ≤ maxLen) (hr2 : Rd w a2 n2 16 (cellsV l2)) (hn2 : n2 ≤ 1000) (hv : validL l = true) (hv2 : rowI l2 = false) :
    Calls Tryd.prog 35 #[.agg #[.slice a n c, .bool s], .int .i64 at', .slice a2 n2 c2] w (LinRet2 w (([], false), 2)) := by
  obtain ⟨W0, hW0⟩ : ∃ z : World, z = (w.alloc (.cells #[.slice a n c, .bool s] 27)).alloc (.cells #[.slice none 0 0, .bool false] 27) := ⟨_, rfl⟩
  have hk0 : Kept [] w W0 := by rw [hW0]; exact ((Kept.refl [] w).alloc _).alloc _
  have hb0 : Hid (LinIn W0 w.heap.size a n c s) := hide (by rw [hW0]; exact (LinIn.new w a n c s).kept ((Kept.refl [] _).alloc _) (by simp))
  have hz0 : Hid (LinIn W0 (w.heap.size + 1) none 0 0 false) := hide (by rw [hW0]; exact heap_new_at (by simp))
  have hH := hide (hr.kept hk0 (by simp))
  have hH2 := hide (hr2.kept hk0 (by simp))
  have hs0 : w.heap.size + 1 < W0.heap.size := by rw [hW0]; simp
  replace hs0 := hide hs0
  have hl := hide hr.clen
  have hl2 := hide hr2.clen
  have hV := hide (Valid6_any a n c l s W0 (ht.kept hk0) hH.out (by omega))
  have hR := hide (fun w1 (hk : Kept [] W0 w1) => Row_any a2 n2 c2 l2 w1 (ht.kept (hk0.trans hk (by simp))) (hH2.out.kept hk (by simp)) hn2)
  rw [hv] at hV
  rw [hv2] at hR
  clear hr hr2 ht hv hv2
  go_enter Tryd.func35, Tryd.ntmps35
  go_upto_region 1 with fail
  rw [← hW0]
  clear hW0
  obtain ⟨q0, q1⟩ := hb0.out.at
  go_wp2_with fail
  refine hV.out.mono ?_
  rintro e w1 ⟨rfl, hk1⟩
  go_wp2_with fail
  refine (hR.out w1 hk1).mono ?_
  rintro e w2 ⟨rfl, hj2⟩
  have hk2 := hk1.trans hj2 (by simp)
  go_wp2_with (refine wpList_store_lin rfl rfl rfl (w.heap.size + 1) rfl (hz0.out.kept hk2 (by simp)) none 0 0 false rfl ?_; intro w7 hb7 hk7)
  refine bodyPost_ret (results_lin2 rfl rfl hb7 rfl) rfl ?_
  exact ⟨none, 0, 0, rfl, Own.nil _ _ _ _, Nat.le_refl _, Nat.zero_le _, (hk0.trans hk2 (by simp)).trans hk7 (by simp)⟩

set_option maxHeartbeats 4000000 in
theorem Put6_low (a : Option Addr) (n c : Nat) (s : Bool) (l : List Cl) (at' : Int) (a2 : Option Addr) (n2 c2 : Nat) (l2 : List Cl) (w : World) (ht : Tabs w) (hr : Rd w a n 16 (cellsV l)) (hn : n ≤ 1000) (hnc : n ≤ c) (hcm : c ≤ maxLen) (hr2 : Rd w a2 n2 16 (cellsV l2)) (hn2 : n2 ≤ 1000) (hv : validL l = true) (hv2 : rowI l2 = true) (h0 : at' < 0) :
    Calls Tryd.prog 35 #[.agg #[.slice a n c, .bool s], .int .i64 at', .slice a2 n2 c2] w (LinRet2 w (([], false), 3)) := by
  obtain ⟨W0, hW0⟩ : ∃ z : World, z = (w.alloc (.cells #[.slice a n c, .bool s] 27)).alloc (.cells #[.slice none 0 0, .bool false] 27) := ⟨_, rfl⟩
  have hk0 : Kept [] w W0 := by rw [hW0]; exact ((Kept.refl [] w).alloc _).alloc _
  have hb0 : Hid (LinIn W0 w.heap.size a n c s) := hide (by rw [hW0]; exact (LinIn.new w a n c s).kept ((Kept.refl [] _).alloc _) (by simp))
  have hz0 : Hid (LinIn W0 (w.heap.size + 1) none 0 0 false) := hide (by rw [hW0]; exact heap_new_at (by simp))
  have hH := hide (hr.kept hk0 (by simp))
  have hH2 := hide (hr2.kept hk0 (by simp))
  have hs0 : w.heap.size + 1 < W0.heap.size := by rw [hW0]; simp
  replace hs0 := hide hs0
  have hl := hide hr.clen
  have hl2 := hide hr2.clen
  have hV := hide (Valid6_any a n c l s W0 (ht.kept hk0) hH.out (by omega))
  have hR := hide (fun w1 (hk : Kept [] W0 w1) => Row_any a2 n2 c2 l2 w1 (ht.kept (hk0.trans hk (by simp))) (hH2.out.kept hk (by simp)) hn2)
  rw [hv] at hV
  rw [hv2] at hR
  clear hr hr2 ht hv hv2
  go_enter Tryd.func35, Tryd.ntmps35
  go_upto_region 1 with fail
  rw [← hW0]
  clear hW0
  obtain ⟨q0, q1⟩ := hb0.out.at
  go_wp2_with fail
  refine hV.out.mono ?_
  rintro e w1 ⟨rfl, hk1⟩
  go_wp2_with fail
  refine (hR.out w1 hk1).mono ?_
  rintro e w2 ⟨rfl, hj2⟩
  have hk2 := hk1.trans hj2 (by simp)
  clear q0 q1
  obtain ⟨q0, q1⟩ := (hb0.out.kept hk2 (by simp)).at
  go_wp2_with (refine wpList_store_lin rfl rfl rfl (w.heap.size + 1) rfl (hz0.out.kept hk2 (by simp)) none 0 0 false rfl ?_; intro w7 hb7 hk7)
  refine bodyPost_ret (results_lin2 rfl rfl hb7 rfl) rfl ?_
  exact ⟨none, 0, 0, rfl, Own.nil _ _ _ _, Nat.le_refl _, Nat.zero_le _, (hk0.trans hk2 (by simp)).trans hk7 (by simp)⟩

set_option maxHeartbeats 4000000 in
theorem Put6_over (a : Option Addr) (n c : Nat) (s : Bool) (l : List Cl) (at' : Int) (a2 : Option Addr) (n2 c2 : Nat) (l2 : List Cl) (w : World) (ht : Tabs w) (hr : Rd w a n 16 (cellsV l)) (hn : n ≤ 1000) (hnc : n ≤ c) (hcm : c ≤ maxLen) (hr2 : Rd w a2 n2 16 (cellsV l2)) (hn2 : n2 ≤ 1000) (hv : validL l = true) (hv2 : rowI l2 = true) (h0 : 0 ≤ at') (hM : at' ≤ 9223372036854775807) (h1 : (n : Int) < at' + n2) :
    Calls Tryd.prog 35 #[.agg #[.slice a n c, .bool s], .int .i64 at', .slice a2 n2 c2] w (LinRet2 w (([], false), 3)) := by
  have hx : IntKind.i64.wrap ((n : Int) - at') = (n : Int) - at' := by rw [IntKind.wrap_i64]; omega
  have hd : (n : Int) - at' < (n2 : Int) := by omega
  have hng : ¬ at' < 0 := by omega
  obtain ⟨W0, hW0⟩ : ∃ z : World, z = (w.alloc (.cells #[.slice a n c, .bool s] 27)).alloc (.cells #[.slice none 0 0, .bool false] 27) := ⟨_, rfl⟩
  have hk0 : Kept [] w W0 := by rw [hW0]; exact ((Kept.refl [] w).alloc _).alloc _
  have hb0 : Hid (LinIn W0 w.heap.size a n c s) := hide (by rw [hW0]; exact (LinIn.new w a n c s).kept ((Kept.refl [] _).alloc _) (by simp))
  have hz0 : Hid (LinIn W0 (w.heap.size + 1) none 0 0 false) := hide (by rw [hW0]; exact heap_new_at (by simp))
  have hH := hide (hr.kept hk0 (by simp))
  have hH2 := hide (hr2.kept hk0 (by simp))
  have hs0 : w.heap.size + 1 < W0.heap.size := by rw [hW0]; simp
  replace hs0 := hide hs0
  have hl := hide hr.clen
  have hl2 := hide hr2.clen
  have hV := hide (Valid6_any a n c l s W0 (ht.kept hk0) hH.out (by omega))
  have hR := hide (fun w1 (hk : Kept [] W0 w1) => Row_any a2 n2 c2 l2 w1 (ht.kept (hk0.trans hk (by simp))) (hH2.out.kept hk (by simp)) hn2)
  rw [hv] at hV
  rw [hv2] at hR
  clear hr hr2 ht hv hv2
  go_enter Tryd.func35, Tryd.ntmps35
  go_upto_region 1 with fail
  rw [← hW0]
  clear hW0
  obtain ⟨q0, q1⟩ := hb0.out.at
  go_wp2_with fail
  refine hV.out.mono ?_
  rintro e w1 ⟨rfl, hk1⟩
  go_wp2_with fail
  refine (hR.out w1 hk1).mono ?_
  rintro e w2 ⟨rfl, hj2⟩
  have hk2 := hk1.trans hj2 (by simp)
  clear q0 q1
  obtain ⟨q0, q1⟩ := (hb0.out.kept hk2 (by simp)).at
  go_wp2_with (refine wpList_store_lin rfl rfl rfl (w.heap.size + 1) rfl (hz0.out.kept hk2 (by simp)) none 0 0 false rfl ?_; intro w7 hb7 hk7)
  refine bodyPost_ret (results_lin2 rfl rfl hb7 rfl) rfl ?_
  exact ⟨none, 0, 0, rfl, Own.nil _ _ _ _, Nat.le_refl _, Nat.zero_le _, (hk0.trans hk2 (by simp)).trans hk7 (by simp)⟩

set_option maxHeartbeats 4000000 in
theorem Put6_good (a : Option Addr) (n c : Nat) (s : Bool) (l : List Cl) (at' : Int) (a2 : Option Addr) (n2 c2 : Nat) (l2 : List Cl) (w : World) (ht : Tabs w) (hr : Rd w a n 16 (cellsV l)) (hn : n ≤ 1000) (hnc : n ≤ c) (hcm : c ≤ maxLen) (hr2 : Rd w a2 n2 16 (cellsV l2)) (hn2 : n2 ≤ 1000) (hv : validL l = true) (hv2 : rowI l2 = true) (at0 : Nat) (hA : at' = at0) (h1 : at0 + n2 ≤ n) :
    Calls Tryd.prog 35 #[.agg #[.slice a n c, .bool s], .int .i64 at', .slice a2 n2 c2] w (LinRet2 w ((putL l at0 l2, s), 0)) := by
  subst hA
  have hx : IntKind.i64.wrap ((n : Int) - (at0 : Int)) = (n : Int) - (at0 : Int) := by rw [IntKind.wrap_i64]; omega
  have hx2 : IntKind.i64.wrap ((at0 : Int) + (n2 : Int)) = (at0 : Int) + (n2 : Int) := by rw [IntKind.wrap_i64]; omega
  have hd : ¬ ((n : Int) - (at0 : Int) < (n2 : Int)) := by omega
  have hng : ¬ ((at0 : Int) < 0) := by omega
  have hz3 : at0 + n2 + (n - (at0 + n2)) = n := by omega
  obtain ⟨ax, cx, hcx1, hcx2, hcutx, hcrx⟩ := cut_h a n c at0 (by omega) hnc hcm
  obtain ⟨ay, cy, hcy1, hcy2, hcuty, hcry⟩ := cut_l a n c (at0 + n2) (by omega) hnc hcm
  rw [show ((at0 + n2 : Nat) : Int) = (at0 : Int) + (n2 : Int) by push_cast; rfl] at hcuty
  obtain ⟨W0, hW0⟩ : ∃ z : World, z = (w.alloc (.cells #[.slice a n c, .bool s] 27)).alloc (.cells #[.slice none 0 0, .bool false] 27) := ⟨_, rfl⟩
  have hk0 : Kept [] w W0 := by rw [hW0]; exact ((Kept.refl [] w).alloc _).alloc _
  have hb0 : Hid (LinIn W0 w.heap.size a n c s) := hide (by rw [hW0]; exact (LinIn.new w a n c s).kept ((Kept.refl [] _).alloc _) (by simp))
  have hz0 : Hid (LinIn W0 (w.heap.size + 1) none 0 0 false) := hide (by rw [hW0]; exact heap_new_at (by simp))
  have hH := hide (hr.kept hk0 (by simp))
  have hH2 := hide (hr2.kept hk0 (by simp))
  have hs0 : w.heap.size + 1 < W0.heap.size := by rw [hW0]; simp
  replace hs0 := hide hs0
  have hl := hide hr.clen
  have hl2 := hide hr2.clen
  have hV := hide (Valid6_any a n c l s W0 (ht.kept hk0) hH.out (by omega))
  have hR := hide (fun w1 (hk : Kept [] W0 w1) => Row_any a2 n2 c2 l2 w1 (ht.kept (hk0.trans hk (by simp))) (hH2.out.kept hk (by simp)) hn2)
  rw [hv] at hV
  rw [hv2] at hR
  have hF1 := hide (fun w1 (hk : Kept [] W0 w1) => Fix_any ax at0 cx (l.take at0) w1 (hcrx w1 l (hH.out.kept hk (by simp))) (by omega))
  have hF2 := hide (fun w1 (hk : Kept [] W0 w1) => Fix_any ay (n - (at0 + n2)) cy (l.drop (at0 + n2)) w1 (hcry w1 l (hH.out.kept hk (by simp))) (by omega))
  have hT : Hid (putL l at0 l2 = fixI (l.take at0) ++ l2 ++ fixI (l.drop (at0 + n2))) := hide (by unfold putL; rw [hl2.out])
  have hny : n - (at0 + n2) ≤ 1000 := by omega
  generalize putL l at0 l2 = T at *
  generalize fixI (l.take at0) = fx at *
  generalize fixI (l.drop (at0 + n2)) = fy at *
  generalize n - (at0 + n2) = ny at *
  replace hcrx := hide hcrx
  replace hcry := hide hcry
  have ha0 : at0 ≤ 1000 := by omega
  replace hz3 := hide hz3
  clear hr hr2 ht hv hv2
  go_enter Tryd.func35, Tryd.ntmps35
  go_upto_region 1 with fail
  rw [← hW0]
  clear hW0
  obtain ⟨q0, q1⟩ := hb0.out.at
  go_wp2_with fail
  refine hV.out.mono ?_
  rintro e w1 ⟨rfl, hk1⟩
  go_wp2_with fail
  refine (hR.out w1 hk1).mono ?_
  rintro e w2 ⟨rfl, hj2⟩
  have hk2 := hk1.trans hj2 (by simp)
  clear q0 q1
  have hb2 := hide (hb0.out.kept hk2 (by simp))
  obtain ⟨q0, q1⟩ := hb2.out.at
  go_upto_region 5 with fail
  clear q0 q1
  refine wp_region_held_drew (S := (fun w' => w'.cell? ⟨w.heap.size, 0, none⟩ = some (.slice a n c) ∧ w'.cell? ⟨w.heap.size, 1, none⟩ = some (.bool s))) (by kernel_rfl) ?_ (fun hHeld => ?_)
  · (try dsimp only); (first | exact heldL hHeld hj4 (by simp) | exact heldL hHeld hj3 (by simp) | exact (hb2.out.kept (Kept.refl [] w2).drew (by simp)).at)
  refine wpAnyH_take (i := 0) (v := ?_) rfl (by kernel_rfl) (by kernel_rfl) (by kernel_rfl) (fun _ _ _ h => h) (Or.inl ⟨by rfl, ?_⟩) (by assumption) ?_
  rotate_left
  · (intro wq hSw; (try dsimp only at hSw); go_simp; try with_reducible rfl)
  try simp only [Act.put, List.getElem_toArray, List.getElem_cons_zero, List.setIfInBounds_toArray, List.set_cons_zero, List.set_cons_succ]
  refine wpAnyH_take (i := 1) (v := ?_) rfl (by kernel_rfl) (by kernel_rfl) (by kernel_rfl) (fun _ _ _ h => h) (Or.inl ⟨by rfl, ?_⟩) (by assumption) ?_
  rotate_left
  · (intro wq hSw; (try dsimp only at hSw); go_simp; try with_reducible rfl)
  try simp only [Act.put, List.getElem_toArray, List.getElem_cons_succ, List.getElem_cons_zero, List.setIfInBounds_toArray, List.set_cons_zero, List.set_cons_succ]
  refine wpAnyH_take (i := 2) (v := ?_) rfl (by kernel_rfl) (by kernel_rfl) (by kernel_rfl) (fun _ _ _ h => h) (Or.inl ⟨by rfl, ?_⟩) (by assumption) ?_
  rotate_left
  · (intro wq hSw; (try dsimp only at hSw); go_simp; try with_reducible rfl)
  try simp only [Act.put, List.getElem_toArray, List.getElem_cons_succ, List.getElem_cons_zero, List.setIfInBounds_toArray, List.set_cons_zero, List.set_cons_succ]
  refine wpAnyH_take (i := 3) (v := ?_) rfl (by kernel_rfl) (by kernel_rfl) (by kernel_rfl) (fun _ _ _ h => h) (Or.inl ⟨by rfl, ?_⟩) (by assumption) ?_
  rotate_left
  · (intro wq hSw; (try dsimp only at hSw); go_simp; try with_reducible rfl)
  try simp only [Act.put, List.getElem_toArray, List.getElem_cons_succ, List.getElem_cons_zero, List.setIfInBounds_toArray, List.set_cons_zero, List.set_cons_succ]
  refine wpAnyH_take (i := 5) (v := ?_) rfl (by kernel_rfl) (by kernel_rfl) (by kernel_rfl) (fun _ _ _ h => h) (Or.inl ⟨by rfl, ?_⟩) (by assumption) ?_
  rotate_left
  · (intro wq hSw; (try dsimp only at hSw); go_simp; try with_reducible rfl)
  try simp only [Act.put, List.getElem_toArray, List.getElem_cons_succ, List.getElem_cons_zero, List.setIfInBounds_toArray, List.set_cons_zero, List.set_cons_succ]
  refine wpAnyH_take (i := 6) (v := ?_) rfl (by kernel_rfl) (by kernel_rfl) (by kernel_rfl) (fun _ _ _ h => h) (Or.inl ⟨by rfl, ?_⟩) (by assumption) ?_
  rotate_left
  · (intro wq hSw; (try dsimp only at hSw); go_simp; try with_reducible rfl)
  try simp only [Act.put, List.getElem_toArray, List.getElem_cons_succ, List.getElem_cons_zero, List.setIfInBounds_toArray, List.set_cons_zero, List.set_cons_succ]
  refine wpAnyH_take (i := 7) (v := ?_) rfl (by kernel_rfl) (by kernel_rfl) (by kernel_rfl) (fun _ _ _ h => h) (Or.inl ⟨by rfl, ?_⟩) (by assumption) ?_
  rotate_left
  · (intro wq hSw; (try dsimp only at hSw); go_simp; try with_reducible rfl)
  try simp only [Act.put, List.getElem_toArray, List.getElem_cons_succ, List.getElem_cons_zero, List.setIfInBounds_toArray, List.set_cons_zero, List.set_cons_succ]
  refine wpAnyH_take (i := 8) (v := ?_) rfl (by kernel_rfl) (by kernel_rfl) (by kernel_rfl) (fun _ _ _ h => h) (Or.inl ⟨by rfl, ?_⟩) (by assumption) ?_
  rotate_left
  · (intro wq hSw; (try dsimp only at hSw); go_simp; try with_reducible rfl)
  try simp only [Act.put, List.getElem_toArray, List.getElem_cons_succ, List.getElem_cons_zero, List.setIfInBounds_toArray, List.set_cons_zero, List.set_cons_succ]
  refine wpAnyH_take (i := 9) (v := ?_) rfl (by kernel_rfl) (by kernel_rfl) (by kernel_rfl) (fun _ _ _ h => h) (Or.inl ⟨by rfl, ?_⟩) (by assumption) ?_
  rotate_left
  · (intro wq hSw; (try dsimp only at hSw); go_simp; try with_reducible rfl)
  try simp only [Act.put, List.getElem_toArray, List.getElem_cons_succ, List.getElem_cons_zero, List.setIfInBounds_toArray, List.set_cons_zero, List.set_cons_succ]
  refine wpAnyH_take (i := 10) (v := ?_) rfl (by kernel_rfl) (by kernel_rfl) (by kernel_rfl) (fun _ _ _ h => h) (Or.inl ⟨by rfl, ?_⟩) (by assumption) ?_
  rotate_left
  · (intro wq hSw; (try dsimp only at hSw); go_simp; try with_reducible rfl)
  try simp only [Act.put, List.getElem_toArray, List.getElem_cons_succ, List.getElem_cons_zero, List.setIfInBounds_toArray, List.set_cons_zero, List.set_cons_succ]
  refine wpAnyH_take (i := 11) (v := ?_) rfl (by kernel_rfl) (by kernel_rfl) (by kernel_rfl) (fun _ _ _ h => h) (Or.inl ⟨by rfl, ?_⟩) (by assumption) ?_
  rotate_left
  · (intro wq hSw; (try dsimp only at hSw); go_simp; try with_reducible rfl)
  try simp only [Act.put, List.getElem_toArray, List.getElem_cons_succ, List.getElem_cons_zero, List.setIfInBounds_toArray, List.set_cons_zero, List.set_cons_succ]
  refine wpAnyH_ready (rs := [4]) (by kernel_rfl) (by simp) ?_
  refine AllReadyH.cons rfl (fun K hK => ?_) AllReadyH.nil
  go_simp
  refine (hF1.out w2.drew (hk2.trans (Kept.refl [] w2).drew (by simp))).mono ?_; rintro e w3 ⟨a3, c3, rfl, ho3, hj3⟩; have hk3 : Kept [] W0 w3 := hk2.drew.trans hj3 (by simp)
  try go_wp2_with fail
  refine hK.out _ _ ?_ (fun hHeld => ?_)
  · (try dsimp only); (first | exact heldL hHeld hj4 (by simp) | exact heldL hHeld hj3 (by simp) | exact (hb2.out.kept (Kept.refl [] w2).drew (by simp)).at)
  clear hK K
  try simp only [Act.put, List.getElem_toArray, List.getElem_cons_succ, List.getElem_cons_zero, List.setIfInBounds_toArray, List.set_cons_zero, List.set_cons_succ]
  refine wpAnyH_ready (rs := [12]) (by kernel_rfl) (by simp) ?_
  refine AllReadyH.cons rfl (fun K hK => ?_) AllReadyH.nil
  go_simp
  refine (hF2.out w3 hk3).mono ?_; rintro e w4 ⟨a4, c4, rfl, ho4, hj4⟩
  try go_wp2_with fail
  refine hK.out _ _ ?_ (fun hHeld => ?_)
  · (try dsimp only); (first | exact heldL hHeld hj4 (by simp) | exact heldL hHeld hj3 (by simp) | exact (hb2.out.kept (Kept.refl [] w2).drew (by simp)).at)
  clear hK K
  try simp only [Act.put, List.getElem_toArray, List.getElem_cons_succ, List.getElem_cons_zero, List.setIfInBounds_toArray, List.set_cons_zero, List.set_cons_succ]
  refine wpAnyH_take (i := 13) (v := ?_) rfl (by kernel_rfl) (by kernel_rfl) (by kernel_rfl) (fun _ _ _ h => h) (Or.inl ⟨by rfl, ?_⟩) (by assumption) ?_
  rotate_left
  · (intro wq hSw; (try dsimp only at hSw); go_simp; try with_reducible rfl)
  try simp only [Act.put, List.getElem_toArray, List.getElem_cons_succ, List.getElem_cons_zero, List.setIfInBounds_toArray, List.set_cons_zero, List.set_cons_succ]
  refine wpAnyH_take (i := 14) (v := ?_) rfl (by kernel_rfl) (by kernel_rfl) (by kernel_rfl) (fun _ _ _ h => h) (Or.inl ⟨by rfl, ?_⟩) (by assumption) ?_
  rotate_left
  · (intro wq hSw; (try dsimp only at hSw); go_simp; try with_reducible rfl)
  try simp only [Act.put, List.getElem_toArray, List.getElem_cons_succ, List.getElem_cons_zero, List.setIfInBounds_toArray, List.set_cons_zero, List.set_cons_succ]
  refine wpAnyH_done (by kernel_rfl) ?_ _
  have hk4 : Kept [] W0 w4 := hk3.trans hj4 (by simp)
  have hr3 := hide ((ho3.kept hj4 (by simp)).rd)
  have hr4 := hide ho4.rd
  have hrm := hide (hH2.out.kept hk4 (by simp))
  have hb4 := hide (hb0.out.kept hk4 (by simp))
  clear ho3 ho4 hF1 hF2 hV hR
  have hka : Kept [] w4 (w4.drew.alloc (.cells #[.slice a3 at0 c3, .slice a2 n2 c2, .slice a4 ny c4] 22)) := (Kept.refl [] w4).drew.alloc _
  go_upto_region 6 with fail
  refine wp_region_held_drew (S := (fun w' => w'.cell? ⟨w.heap.size, 0, none⟩ = some (.slice a n c) ∧ w'.cell? ⟨w.heap.size, 1, none⟩ = some (.bool s))) (by kernel_rfl) ?_ (fun hHeld => ?_)
  · (try dsimp only); (first | exact heldL hHeld hk8 (by simp) | exact heldL hHeld hj7 (by simp) | exact heldL hHeld ((Kept.refl [] _).alloc _) (by simp) | exact (hb4.out.kept (Kept.refl [] w4).drew (by simp)).at)
  refine wpAnyH_take (i := 0) (v := ?_) rfl (by kernel_rfl) (by kernel_rfl) (by kernel_rfl) (fun _ _ _ h => h) (Or.inl ⟨by rfl, ?_⟩) (by assumption) ?_
  rotate_left
  · (intro wq hSw; (try dsimp only at hSw); go_simp; try with_reducible rfl)
  try simp only [Act.put, List.getElem_toArray, List.getElem_cons_zero, List.setIfInBounds_toArray, List.set_cons_zero, List.set_cons_succ]
  refine wpAnyH_take (i := 1) (v := ?_) rfl (by kernel_rfl) (by kernel_rfl) (by kernel_rfl) (fun _ _ _ h => h) (Or.inl ⟨by rfl, ?_⟩) (by assumption) ?_
  rotate_left
  · (intro wq hSw; (try dsimp only at hSw); go_simp; try with_reducible rfl)
  try simp only [Act.put, List.getElem_toArray, List.getElem_cons_succ, List.getElem_cons_zero, List.setIfInBounds_toArray, List.set_cons_zero, List.set_cons_succ]
  refine wpAnyH_take (i := 2) (v := ?_) rfl (by kernel_rfl) (by kernel_rfl) (by kernel_rfl) (fun _ _ _ h => h) (Or.inl ⟨by rfl, ?_⟩) (by assumption) ?_
  rotate_left
  · (intro wq hSw; (try dsimp only at hSw); go_simp; try with_reducible rfl)
  try simp only [Act.put, List.getElem_toArray, List.getElem_cons_succ, List.getElem_cons_zero, List.setIfInBounds_toArray, List.set_cons_zero, List.set_cons_succ]
  refine wpAnyH_take (i := 5) (v := ?_) rfl (by kernel_rfl) (by kernel_rfl) (by kernel_rfl) (fun _ _ _ h => h) (Or.inl ⟨by rfl, ?_⟩) (by assumption) ?_
  rotate_left
  · (intro wq hSw; (try dsimp only at hSw); go_simp; try with_reducible rfl)
  try simp only [Act.put, List.getElem_toArray, List.getElem_cons_succ, List.getElem_cons_zero, List.setIfInBounds_toArray, List.set_cons_zero, List.set_cons_succ]
  refine wpAnyH_take (i := 6) (v := ?_) rfl (by kernel_rfl) (by kernel_rfl) (by kernel_rfl) (fun _ _ _ h => h) (Or.inl ⟨by rfl, ?_⟩) (by assumption) ?_
  rotate_left
  · (intro wq hSw; (try dsimp only at hSw); go_simp; try with_reducible rfl)
  try simp only [Act.put, List.getElem_toArray, List.getElem_cons_succ, List.getElem_cons_zero, List.setIfInBounds_toArray, List.set_cons_zero, List.set_cons_succ]
  refine wpAnyH_ready (rs := [3]) (by kernel_rfl) (by simp) ?_
  refine AllReadyH.cons rfl (fun K hK => ?_) AllReadyH.nil
  go_simp
  try go_wp2_with fail
  refine hK.out _ _ ?_ (fun hHeld => ?_)
  · (try dsimp only); (first | exact heldL hHeld hk8 (by simp) | exact heldL hHeld hj7 (by simp) | exact heldL hHeld ((Kept.refl [] _).alloc _) (by simp) | exact (hb4.out.kept (Kept.refl [] w4).drew (by simp)).at)
  clear hK K
  try simp only [Act.put, List.getElem_toArray, List.getElem_cons_succ, List.getElem_cons_zero, List.setIfInBounds_toArray, List.set_cons_zero, List.set_cons_succ]
  refine wpAnyH_ready (rs := [4]) (by kernel_rfl) (by simp) ?_
  refine AllReadyH.cons rfl (fun K hK => ?_) AllReadyH.nil
  go_simp
  refine (Concat3_any w4.heap.size a3 at0 c3 fx a2 n2 c2 l2 a4 ny c4 fy _ (three_new w4.drew _ _ _ _ _ _ _ _ _) (hr3.out.kept hka (by simp)) (hrm.out.kept hka (by simp)) (hr4.out.kept hka (by simp)) ha0 hn2 hny).mono ?_; rintro e w7 ⟨a7, c7, rfl, ho7, hj7⟩; have hk7 : Kept [] w4 w7 := hka.trans hj7 (by simp)
  try go_wp2_with fail
  refine hK.out _ _ ?_ (fun hHeld => ?_)
  · (try dsimp only); (first | exact heldL hHeld hk8 (by simp) | exact heldL hHeld hj7 (by simp) | exact heldL hHeld ((Kept.refl [] _).alloc _) (by simp) | exact (hb4.out.kept (Kept.refl [] w4).drew (by simp)).at)
  clear hK K
  try simp only [Act.put, List.getElem_toArray, List.getElem_cons_succ, List.getElem_cons_zero, List.setIfInBounds_toArray, List.set_cons_zero, List.set_cons_succ]
  refine wpAnyH_take (i := 7) (v := ?_) rfl (by kernel_rfl) (by kernel_rfl) (by kernel_rfl) (fun _ _ _ h => h) (Or.inl ⟨by rfl, ?_⟩) (by assumption) ?_
  rotate_left
  · (intro wq hSw; (try dsimp only at hSw); go_simp; try with_reducible rfl)
  try simp only [Act.put, List.getElem_toArray, List.getElem_cons_succ, List.getElem_cons_zero, List.setIfInBounds_toArray, List.set_cons_zero, List.set_cons_succ]
  refine wpAnyH_ready (rs := [8]) (by kernel_rfl) (by simp) ?_
  refine AllReadyH.cons rfl (fun K hK => ?_) AllReadyH.nil
  rw [if_pos (by rfl)]
  refine wp_store_lin rfl rfl (w.heap.size + 1) rfl (hz0.out.kept (hk4.trans hk7 (by simp)) (by simp)) a7 _ c7 s rfl ?_; intro w8 hb8 hk8
  refine hK.out _ _ ?_ (fun hHeld => ?_)
  · (try dsimp only); (first | exact heldL hHeld hk8 (by simp) | exact heldL hHeld hj7 (by simp) | exact heldL hHeld ((Kept.refl [] _).alloc _) (by simp) | exact (hb4.out.kept (Kept.refl [] w4).drew (by simp)).at)
  clear hK K
  try simp only [Act.put, List.getElem_toArray, List.getElem_cons_succ, List.getElem_cons_zero, List.setIfInBounds_toArray, List.set_cons_zero, List.set_cons_succ]
  refine wpAnyH_take (i := 9) (v := ?_) rfl (by kernel_rfl) (by kernel_rfl) (by kernel_rfl) (fun _ _ _ h => h) (Or.inl ⟨by rfl, ?_⟩) (by assumption) ?_
  rotate_left
  · (intro wq hSw; (try dsimp only at hSw); go_simp; try with_reducible rfl)
  try simp only [Act.put, List.getElem_toArray, List.getElem_cons_succ, List.getElem_cons_zero, List.setIfInBounds_toArray, List.set_cons_zero, List.set_cons_succ]
  refine wpAnyH_done (by kernel_rfl) ?_ _
  go_wp2_with fail
  have hge : ∀ g ∈ blk a7, w4.heap.size ≤ g := fun g hg => Nat.le_trans hka.size (ho7.ge g hg).1
  have hs4 := hk4.size
  have hs := hs0.out
  refine bodyPost_ret (results_lin2 rfl rfl hb8 rfl) rfl ?_
  have ho8 := Own.kept (ho7.base (Nat.le_trans (show w.heap.size ≤ w4.heap.size by omega) hka.size)) hk8 (fun g hg hm => by simp at hm; subst hm; have := hge _ hg; omega)
  exact ⟨a7, _, c7, rfl, by rw [hT.out]; exact ho8, ho8.caps.1, ho8.caps.2, (hk0.trans (hk4.trans hk7 (by simp)) (by simp)).trans hk8 (by simp)⟩

theorem Put6_any : LPutIs := by
  intro a n c l s at' a2 n2 c2 l2 w ht hr hn hnc hcm hr2 hn2 hmin hmax
  have hl := hr.clen
  have hl2 := hr2.clen
  unfold putE
  cases hv : validL l with
  | false => simpa using Put6_bad1 a n c s l at' a2 n2 c2 l2 w ht hr hn hnc hcm hr2 hn2 hv
  | true =>
    cases hv2 : rowI l2 with
    | false => simpa using Put6_bad2 a n c s l at' a2 n2 c2 l2 w ht hr hn hnc hcm hr2 hn2 hv hv2
    | true =>
      rw [if_neg (by simp), hl, hl2]
      by_cases h0 : at' < 0
      · rw [if_pos (.inl h0)]
        exact Put6_low a n c s l at' a2 n2 c2 l2 w ht hr hn hnc hcm hr2 hn2 hv hv2 h0
      · by_cases h1 : (n : Int) < at' + n2
        · rw [if_pos (.inr h1)]
          exact Put6_over a n c s l at' a2 n2 c2 l2 w ht hr hn hnc hcm hr2 hn2 hv hv2 (by omega) hmax h1
        · obtain ⟨at0, hA⟩ : ∃ k : Nat, at' = k := ⟨at'.toNat, by omega⟩
          rw [if_neg (by omega), show at'.toNat = at0 by omega]
          exact Put6_good a n c s l at' a2 n2 c2 l2 w ht hr hn hnc hcm hr2 hn2 hv hv2 at0 hA (by omega)
end Go.Proofs.YtkhdnaopdhnkaaaDoor
