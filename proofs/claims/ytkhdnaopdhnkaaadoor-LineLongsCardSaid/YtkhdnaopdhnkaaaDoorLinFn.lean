/- The program's functions of layer 6: Valid, Copy, Of, New, Equal. -/
import Derived.Test.YtkhdnaopdhnkaaaDoorLinLaw4
import Derived.Test.YtkhdnaopdhnkaaaDoorLinLib
import Derived.Test.YtkhdnaopdhnkaaaDoorCelRow
import Derived.Test.YtkhdnaopdhnkaaaDoorCelVal
import Derived.Test.YtkhdnaopdhnkaaaDoorCelTs
namespace Go.Proofs.YtkhdnaopdhnkaaaDoor
open Go.RowKit
set_option linter.unusedVariables false
set_option maxRecDepth 100000

set_option maxHeartbeats 1000000 in
theorem Valid6_any : LValidIs := by
  intro a n c l s w ht hr hn
  have hl := hr.clen
  have hk0 : Kept [] w (w.alloc (.cells #[.slice a n c, .bool s] 27)) := (Kept.refl [] w).alloc _
  have hC := hide (fun w1 => validColumns_any (n : Int) w1)
  by_cases hn : n ≤ 1000
  · have hR := hide (Row_any a n c l _ (ht.kept hk0) (hr.kept hk0 (by simp)) hn)
    have hV : validL l = rowI l := by unfold validL; rw [decide_eq_true (by omega), Bool.true_and]
    rw [hV]
    rw [decide_eq_true (by omega)] at hC
    clear hr ht
    go_enter Tryd.func13, Tryd.ntmps13
    go_wp2_with fail
    refine (hC.out _).mono ?_
    rintro e w1 ⟨rfl, rfl⟩
    go_wp2_with fail
    refine hR.out.mono ?_
    rintro e w1 ⟨rfl, hk1⟩
    go_wp2_with fail
    go_ret
    exact ⟨rfl, hk0.trans hk1 (by simp)⟩
  · have hV : validL l = false := by unfold validL; rw [decide_eq_false (by omega), Bool.false_and]
    rw [hV]
    rw [decide_eq_false (by omega)] at hC
    clear hr ht
    go_enter Tryd.func13, Tryd.ntmps13
    go_wp2_with fail
    refine (hC.out _).mono ?_
    rintro e w1 ⟨rfl, rfl⟩
    go_wp2_with fail
    go_ret
    exact ⟨rfl, hk0⟩

set_option maxHeartbeats 2000000 in
theorem Copy6_any : LCopyIs := by
  intro a n c l s w hr hn
  obtain ⟨W0, hW0⟩ : ∃ z : World, z = (w.alloc (.cells #[.slice a n c, .bool s] 27)).alloc (.cells #[.slice none 0 0, .bool false] 27) := ⟨_, rfl⟩
  have hk0 : Kept [] w W0 := by rw [hW0]; exact ((Kept.refl [] w).alloc _).alloc _
  have hb0 : Hid (LinIn W0 w.heap.size a n c s) := hide (by rw [hW0]; exact (LinIn.new w a n c s).kept ((Kept.refl [] _).alloc _) (by simp))
  have hz0 : Hid (LinIn W0 (w.heap.size + 1) none 0 0 false) := hide (by rw [hW0]; exact heap_new_at (by simp))
  have hs0 : w.heap.size + 1 < W0.heap.size := by rw [hW0]; simp
  have hCl := hide (Clone_any a n c l W0.drew (hr.kept (hk0.trans (Kept.refl [] W0).drew (by simp)) (by simp)) hn)
  clear hr
  go_enter Tryd.func27, Tryd.ntmps27
  go_upto_region 1 with fail
  rw [← hW0]
  clear hW0
  refine wp_region_held_drew (S := (fun w' => w'.cell? ⟨w.heap.size, 0, none⟩ = some (.slice a n c) ∧ w'.cell? ⟨w.heap.size, 1, none⟩ = some (.bool s))) (by kernel_rfl) ?_ (fun hHeld => ?_)
  · (try dsimp only); (first | exact heldL hHeld hk2 (by simp) | exact heldL hHeld hj1 (by simp) | exact (hb0.out.kept (Kept.refl [] W0).drew (by simp)).at)
  refine wpAnyH_take (i := 0) (v := ?_) rfl (by kernel_rfl) (by kernel_rfl) (by kernel_rfl) (fun _ _ _ h => h) (Or.inl ⟨by rfl, ?_⟩) (by assumption) ?_
  rotate_left
  · (intro wq hSw; (try dsimp only at hSw); go_simp; try with_reducible rfl)
  try simp only [Act.put, List.getElem_toArray, List.getElem_cons_zero, List.setIfInBounds_toArray, List.set_cons_zero, List.set_cons_succ]
  refine wpAnyH_take (i := 1) (v := ?_) rfl (by kernel_rfl) (by kernel_rfl) (by kernel_rfl) (fun _ _ _ h => h) (Or.inl ⟨by rfl, ?_⟩) (by assumption) ?_
  rotate_left
  · (intro wq hSw; (try dsimp only at hSw); go_simp; try with_reducible rfl)
  try simp only [Act.put, List.getElem_toArray, List.getElem_cons_succ, List.getElem_cons_zero, List.setIfInBounds_toArray, List.set_cons_zero, List.set_cons_succ]
  refine wpAnyH_take (i := 3) (v := ?_) rfl (by kernel_rfl) (by kernel_rfl) (by kernel_rfl) (fun _ _ _ h => h) (Or.inl ⟨by rfl, ?_⟩) (by assumption) ?_
  rotate_left
  · (intro wq hSw; (try dsimp only at hSw); go_simp; try with_reducible rfl)
  try simp only [Act.put, List.getElem_toArray, List.getElem_cons_succ, List.getElem_cons_zero, List.setIfInBounds_toArray, List.set_cons_zero, List.set_cons_succ]
  refine wpAnyH_take (i := 4) (v := ?_) rfl (by kernel_rfl) (by kernel_rfl) (by kernel_rfl) (fun _ _ _ h => h) (Or.inl ⟨by rfl, ?_⟩) (by assumption) ?_
  rotate_left
  · (intro wq hSw; (try dsimp only at hSw); go_simp; try with_reducible rfl)
  try simp only [Act.put, List.getElem_toArray, List.getElem_cons_succ, List.getElem_cons_zero, List.setIfInBounds_toArray, List.set_cons_zero, List.set_cons_succ]
  refine wpAnyH_ready (rs := [2]) (by kernel_rfl) (by simp) ?_
  refine AllReadyH.cons rfl (fun K hK => ?_) AllReadyH.nil
  go_simp
  refine hCl.out.mono ?_; rintro e w1 ⟨a1, c1, rfl, ho1, hj1⟩
  try go_wp2_with fail
  refine hK.out _ _ ?_ (fun hHeld => ?_)
  · (try dsimp only); (first | exact heldL hHeld hk2 (by simp) | exact heldL hHeld hj1 (by simp) | exact (hb0.out.kept (Kept.refl [] W0).drew (by simp)).at)
  clear hK K
  try simp only [Act.put, List.getElem_toArray, List.getElem_cons_succ, List.getElem_cons_zero, List.setIfInBounds_toArray, List.set_cons_zero, List.set_cons_succ]
  refine wpAnyH_take (i := 5) (v := ?_) rfl (by kernel_rfl) (by kernel_rfl) (by kernel_rfl) (fun _ _ _ h => h) (Or.inl ⟨by rfl, ?_⟩) (by assumption) ?_
  rotate_left
  · (intro wq hSw; (try dsimp only at hSw); go_simp; try with_reducible rfl)
  try simp only [Act.put, List.getElem_toArray, List.getElem_cons_succ, List.getElem_cons_zero, List.setIfInBounds_toArray, List.set_cons_zero, List.set_cons_succ]
  refine wpAnyH_ready (rs := [6]) (by kernel_rfl) (by simp) ?_
  refine AllReadyH.cons rfl (fun K hK => ?_) AllReadyH.nil
  rw [if_pos (by rfl)]
  refine wp_store_lin rfl rfl (w.heap.size + 1) rfl (hz0.out.kept ((Kept.refl [] W0).drew.trans hj1 (by simp)) (by simp)) a1 n c1 s rfl ?_; intro w2 hb2 hk2
  refine hK.out _ _ ?_ (fun hHeld => ?_)
  · (try dsimp only); (first | exact heldL hHeld hk2 (by simp) | exact heldL hHeld hj1 (by simp) | exact (hb0.out.kept (Kept.refl [] W0).drew (by simp)).at)
  clear hK K
  try simp only [Act.put, List.getElem_toArray, List.getElem_cons_succ, List.getElem_cons_zero, List.setIfInBounds_toArray, List.set_cons_zero, List.set_cons_succ]
  refine wpAnyH_done (by kernel_rfl) ?_ _
  go_wp2_with fail
  have hk1 : Kept [] W0 w1 := (Kept.refl [] W0).drew.trans hj1 (by simp)
  have hge : ∀ g ∈ blk a1, W0.heap.size ≤ g := fun g hg => (ho1.ge g hg).1
  refine bodyPost_ret (results_lin rfl rfl hb2) rfl ?_
  have ho2 := Own.kept (xs := cellsV l) (ho1.base (show w.heap.size ≤ W0.heap.size by omega)) hk2 (fun g hg hm => by simp at hm; subst hm; have := hge _ hg; omega)
  exact ⟨a1, n, c1, rfl, ho2, ho2.caps.1, ho2.caps.2, (hk0.trans hk1 (by simp)).trans hk2 (by simp)⟩

set_option maxHeartbeats 2000000 in
theorem New6_any : LNewIs := by
  intro k w
  obtain ⟨W0, hW0⟩ : ∃ z : World, z = w.alloc (.cells #[.slice none 0 0, .bool false] 27) := ⟨_, rfl⟩
  have hk0 : Kept [] w W0 := by rw [hW0]; exact (Kept.refl [] w).alloc _
  have hz0 : Hid (LinIn W0 w.heap.size none 0 0 false) := hide (by rw [hW0]; exact LinIn.new w none 0 0 false)
  have hs0 : w.heap.size < W0.heap.size := by rw [hW0]; simp
  have hC := hide (fun w1 => validColumns_any k w1)
  by_cases h : 0 ≤ k ∧ k ≤ 1000
  · obtain ⟨N, rfl⟩ : ∃ N : Nat, k = N := ⟨k.toNat, by omega⟩
    rw [newR_ok N (by omega)]
    rw [decide_eq_true h] at hC
    have hE := hide (emptyCells_any N (by omega) W0)
    clear h
    go_enter Tryd.func40, Tryd.ntmps40
    go_upto_region 1 with fail
    rw [← hW0]
    clear hW0
    go_wp2_with fail
    refine (hC.out _).mono ?_
    rintro e w1 ⟨rfl, rfl⟩
    go_wp2_with fail
    refine hE.out.mono ?_
    rintro e w2 ⟨a2, c2, rfl, ho2, hj2⟩
    go_wp2_with (refine wpList_store_lin rfl rfl rfl w.heap.size rfl (hz0.out.kept hj2 (by simp)) a2 N c2 false rfl ?_; intro w7 hb7 hk7)
    refine bodyPost_ret (results_lin2 rfl rfl hb7 rfl) rfl ?_
    have hge : ∀ g ∈ blk a2, w1.heap.size ≤ g := fun g hg => (ho2.ge g hg).1
    have ho7 := (ho2.base (show w.heap.size ≤ w1.heap.size by omega)).kept hk7 (fun g hg hm => by simp at hm; subst hm; have := hge _ hg; omega)
    exact ⟨a2, N, c2, rfl, ho7, ho7.caps.1, ho7.caps.2, (hk0.trans hj2 (by simp)).trans hk7 (by simp)⟩
  · rw [newR_no k h]
    rw [decide_eq_false h] at hC
    clear h
    go_enter Tryd.func40, Tryd.ntmps40
    go_upto_region 1 with fail
    rw [← hW0]
    clear hW0
    go_wp2_with fail
    refine (hC.out _).mono ?_
    rintro e w1 ⟨rfl, rfl⟩
    go_wp2_with (refine wpList_store_lin rfl rfl rfl w.heap.size rfl hz0.out none 0 0 false rfl ?_; intro w7 hb7 hk7)
    refine bodyPost_ret (results_lin2 rfl rfl hb7 rfl) rfl ?_
    exact ⟨none, 0, 0, rfl, Own.nil _ _ _ _, Nat.le_refl _, Nat.zero_le _, hk0.trans hk7 (by simp)⟩

set_option maxHeartbeats 2000000 in
theorem Of6_any : LOfIs := by
  intro a n c l s w ht hr hn hnc hcm
  have hl := hr.clen
  obtain ⟨W0, hW0⟩ : ∃ z : World, z = w.alloc (.cells #[.slice none 0 0, .bool false] 27) := ⟨_, rfl⟩
  have hk0 : Kept [] w W0 := by rw [hW0]; exact (Kept.refl [] w).alloc _
  have hz0 : Hid (LinIn W0 w.heap.size none 0 0 false) := hide (by rw [hW0]; exact LinIn.new w none 0 0 false)
  have hs0 : w.heap.size < W0.heap.size := by rw [hW0]; simp
  have hV := hide (fun w1 (hk : Kept [] W0 w1) => Valid6_any a n c l s w1 (ht.kept (hk0.trans hk (by simp))) (hr.kept (hk0.trans hk (by simp)) (by simp)) hn)
  cases hv : validL l with
  | true =>
    have hn1 : n ≤ 1000 := by unfold validL at hv; simp at hv; omega
    have hC := hide (fun w1 (hk : Kept [] W0 w1) => Copy6_any a n c l s w1 (hr.kept (hk0.trans hk (by simp)) (by simp)) hn1)
    rw [ofL_ok hv]
    rw [hv] at hV
    clear hr ht hv
    go_enter Tryd.func16, Tryd.ntmps16
    go_upto_region 1 with fail
    rw [← hW0]
    clear hW0
    go_wp2_with (refine wpList_store_lin rfl rfl rfl W0.heap.size rfl (LinIn.new W0 none 0 0 false) a n c s rfl ?_; intro w3 hb3 hj3; have hk3 : Kept [] W0 w3 := ((Kept.refl [] W0).alloc (.cells #[.slice none 0 0, .bool false] 27)).trans hj3 (by simp); obtain ⟨q0, q1⟩ := hb3.at)
    refine (hV.out _ hk3).mono ?_
    rintro e w4 ⟨rfl, hj4⟩
    have hk4 := hk3.trans hj4 (by simp)
    clear q0 q1
    obtain ⟨q0, q1⟩ := (hb3.kept hj4 (by simp)).at
    go_wp2_with fail
    refine (hC.out _ hk4).mono ?_
    rintro e w5 ⟨a5, n5, c5, rfl, ho5, _, _, hj5⟩
    have hk5 := hk4.trans hj5 (by simp)
    go_wp2_with (refine wpList_store_lin rfl rfl rfl w.heap.size rfl (hz0.out.kept hk5 (by simp)) a5 n5 c5 s rfl ?_; intro w7 hb7 hk7)
    refine bodyPost_ret (results_lin2 rfl rfl hb7 rfl) rfl ?_
    have hge : ∀ g ∈ blk a5, W0.heap.size ≤ g := fun g hg => by have := (ho5.ge g hg).1; have := hk4.size; omega
    have ho7 := (ho5.base (show w.heap.size ≤ w4.heap.size by have := hk4.size; omega)).kept hk7 (fun g hg hm => by simp at hm; subst hm; have := hge _ hg; omega)
    exact ⟨a5, n5, c5, rfl, ho7, ho7.caps.1, ho7.caps.2, (hk0.trans hk5 (by simp)).trans hk7 (by simp)⟩
  | false =>
    rw [ofL_no hv]
    rw [hv] at hV
    clear hr ht hv
    go_enter Tryd.func16, Tryd.ntmps16
    go_upto_region 1 with fail
    rw [← hW0]
    clear hW0
    go_wp2_with (refine wpList_store_lin rfl rfl rfl W0.heap.size rfl (LinIn.new W0 none 0 0 false) a n c s rfl ?_; intro w3 hb3 hj3; have hk3 : Kept [] W0 w3 := ((Kept.refl [] W0).alloc (.cells #[.slice none 0 0, .bool false] 27)).trans hj3 (by simp); obtain ⟨q0, q1⟩ := hb3.at)
    refine (hV.out _ hk3).mono ?_
    rintro e w4 ⟨rfl, hj4⟩
    have hk4 := hk3.trans hj4 (by simp)
    go_wp2_with (refine wpList_store_lin rfl rfl rfl w.heap.size rfl (hz0.out.kept hk4 (by simp)) none 0 0 false rfl ?_; intro w7 hb7 hk7)
    refine bodyPost_ret (results_lin2 rfl rfl hb7 rfl) rfl ?_
    exact ⟨none, 0, 0, rfl, Own.nil _ _ _ _, Nat.le_refl _, Nat.zero_le _, (hk0.trans hk4 (by simp)).trans hk7 (by simp)⟩
end Go.Proofs.YtkhdnaopdhnkaaaDoor
