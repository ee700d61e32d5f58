/- The reference's functions of layer 6: Columns, Valid, Used, Same, Copy, Trim, Text. The reference's functions of layer 6 that make lines: Copy, Trim, New; Text. -/
import Derived.Test.YtnkddhmhjnhgcaaGreatDoorLinMem
import Derived.Test.YtnkddhmhjnhgcaaGreatDoorCelRr
import Derived.Test.YtnkddhmhjnhgcaaGreatDoorCelTexts
namespace Go.Proofs.YtnkddhmhjnhgcaaGreatDoor
open Go.RowKit
set_option linter.unusedVariables false
set_option maxRecDepth 100000

theorem rColumns_any (n : Int) (w : World) : Calls Tryz.prog 68 #[.int .i64 n] w fun e w' => e = .returned (.bool (decide (0 ≤ n ∧ n ≤ 1000))) ∧ w' = w := by
  by_cases h0 : 0 ≤ n
  · go_enter Tryz.func68, Tryz.ntmps68
    go_wp2_with fail
    go_ret
    exact ⟨ret_bool (by simp [h0]), rfl⟩
  · have h1 : n < 0 := by omega
    go_enter Tryz.func68, Tryz.ntmps68
    go_wp2_with fail
    go_ret
    exact ⟨ret_bool (by simp; omega), rfl⟩

set_option maxHeartbeats 1000000 in
theorem rValid6_any (a : Option Addr) (n c : Nat) (s : Bool) (l : List Cl) (w : World) (hr : Rd w a n 16 (cellsV l)) :
    Calls Tryz.prog 49 #[.agg #[.slice a n c, .bool s]] w fun e w' => e = .returned (.bool (validL l)) ∧ Kept [] w w' := by
  have hl := hr.clen
  have hk0 : Kept [] w (w.alloc (.cells #[.slice a n c, .bool s] 36)) := (Kept.refl [] w).alloc _
  have hC := hide (fun w1 => rColumns_any (n : Int) w1)
  by_cases hn : n ≤ 1000
  · have hR := hide (rRow_any a n c l _ (hr.kept hk0 (by simp)) hn)
    have hV : validL l = rowI l := by unfold validL; rw [decide_eq_true (by omega), Bool.true_and]
    rw [hV]
    rw [decide_eq_true (by omega)] at hC
    clear hr
    go_enter Tryz.func49, Tryz.ntmps49
    go_wp2_with fail
    refine (hC.out _).mono ?_
    rintro e w1 ⟨rfl, rfl⟩
    go_wp2_with fail
    refine hR.out.mono ?_
    rintro e w1 ⟨rfl, hk1⟩
    go_wp2_with fail
    go_ret
    exact ⟨rfl, hk0.trans hk1 (by simp)⟩
  · have hV : validL l = false := by unfold validL; rw [decide_eq_false (by omega), Bool.false_and]
    rw [hV]
    rw [decide_eq_false (by omega)] at hC
    clear hr
    go_enter Tryz.func49, Tryz.ntmps49
    go_wp2_with fail
    refine (hC.out _).mono ?_
    rintro e w1 ⟨rfl, rfl⟩
    go_wp2_with fail
    go_ret
    exact ⟨rfl, hk0⟩

set_option maxHeartbeats 1000000 in
theorem rSame6_any (a : Option Addr) (n c : Nat) (s : Bool) (l : List Cl) (a2 : Option Addr) (n2 c2 : Nat) (s2 : Bool) (m : List Cl) (w : World) (hr : Rd w a n 16 (cellsV l)) (hr2 : Rd w a2 n2 16 (cellsV m)) (hn : n ≤ 1000000) :
    Calls Tryz.prog 40 #[.agg #[.slice a n c, .bool s], .agg #[.slice a2 n2 c2, .bool s2]] w fun e w' => e = .returned (.bool (decide (s = s2 ∧ l = m))) ∧ Kept [] w w' := by
  have hk0 : Kept [] w ((w.alloc (.cells #[.slice a n c, .bool s] 36)).alloc (.cells #[.slice a2 n2 c2, .bool s2] 36)) := ((Kept.refl [] w).alloc _).alloc _
  have hS := hide (Same_big a n c l a2 n2 c2 m _ (hr.kept hk0 (by simp)) (hr2.kept hk0 (by simp)) hn)
  clear hr hr2
  by_cases hs : s = s2
  · subst hs
    have e : decide (s = s ∧ l = m) = decide (l = m) := by simp
    rw [e]
    have hb : (s == s) = true := by simp
    go_enter Tryz.func40, Tryz.ntmps40
    go_wp2_with fail
    refine hS.out.mono ?_
    rintro e w1 ⟨rfl, hk1⟩
    go_wp2_with fail
    go_ret
    exact ⟨rfl, hk0.trans hk1 (by simp)⟩
  · have e : decide (s = s2 ∧ l = m) = false := by simp [hs]
    rw [e]
    have hb : (s == s2) = false := by simpa using hs
    clear hs
    go_enter Tryz.func40, Tryz.ntmps40
    go_wp2_with fail
    go_ret
    exact ⟨rfl, hk0⟩
end Go.Proofs.YtnkddhmhjnhgcaaGreatDoor
namespace Go.Proofs.YtnkddhmhjnhgcaaGreatDoor
open Go.RowKit
set_option linter.unusedVariables false
set_option maxRecDepth 100000

theorem heldL {S : List Nat} {w w' : World} {b : Nat} {a : Option Addr} {n c : Nat} {s : Bool} (h : w.cell? ⟨b, 0, none⟩ = some (.slice a n c) ∧ w.cell? ⟨b, 1, none⟩ = some (.bool s)) (hk : Kept S w w') (hb : b ∉ S) : w'.cell? ⟨b, 0, none⟩ = some (.slice a n c) ∧ w'.cell? ⟨b, 1, none⟩ = some (.bool s) :=
  ⟨hk.cell h.1 hb, hk.cell h.2 hb⟩

set_option maxHeartbeats 2000000 in
theorem rCopy_any (a : Option Addr) (n c : Nat) (s : Bool) (l : List Cl) (w : World) (hr : Rd w a n 16 (cellsV l)) (hn : n ≤ 1000000) :
    Calls Tryz.prog 25 #[.agg #[.slice a n c, .bool s]] w (LinRet w l s) := by
  obtain ⟨W0, hW0⟩ : ∃ z : World, z = (w.alloc (.cells #[.slice a n c, .bool s] 36)).alloc (.cells #[.slice none 0 0, .bool false] 36) := ⟨_, rfl⟩
  have hk0 : Kept [] w W0 := by rw [hW0]; exact ((Kept.refl [] w).alloc _).alloc _
  have hb0 : Hid (LinIn W0 w.heap.size a n c s) := hide (by rw [hW0]; exact (LinIn.new w a n c s).kept ((Kept.refl [] _).alloc _) (by simp))
  have hz0 : Hid (LinIn W0 (w.heap.size + 1) none 0 0 false) := hide (by rw [hW0]; exact heap_new_at (by simp))
  have hH := hide (hr.kept hk0 (by simp))
  have hs0 : w.heap.size + 1 < W0.heap.size := by rw [hW0]; simp
  clear hr
  go_enter Tryz.func25, Tryz.ntmps25
  go_upto_region 1 with fail
  rw [← hW0]
  clear hW0
  refine wp_region_held_drew (S := (fun w' => w'.cell? ⟨w.heap.size, 0, none⟩ = some (.slice a n c) ∧ w'.cell? ⟨w.heap.size, 1, none⟩ = some (.bool s))) (by kernel_rfl) ?_ (fun hHeld => ?_)
  · (try dsimp only); (first | exact heldL hHeld hk2 (by simp) | exact heldL hHeld hj1 (by simp [blk]) | exact (hb0.out.kept (Kept.refl [] W0).drew (by simp)).at)
  refine wpAnyH_take (i := 0) (v := ?_) rfl (by kernel_rfl) (by kernel_rfl) (by kernel_rfl) (fun _ _ _ h => h) (Or.inl ⟨by rfl, ?_⟩) (by assumption) ?_
  rotate_left
  · (intro wq hSw; (try dsimp only at hSw); go_simp; try with_reducible rfl)
  try simp only [Act.put, List.getElem_toArray, List.getElem_cons_zero, List.setIfInBounds_toArray, List.set_cons_zero, List.set_cons_succ]
  refine wpAnyH_take (i := 1) (v := ?_) rfl (by kernel_rfl) (by kernel_rfl) (by kernel_rfl) (fun _ _ _ h => h) (Or.inl ⟨by rfl, ?_⟩) (by assumption) ?_
  rotate_left
  · (intro wq hSw; (try dsimp only at hSw); go_simp; try with_reducible rfl)
  try simp only [Act.put, List.getElem_toArray, List.getElem_cons_succ, List.getElem_cons_zero, List.setIfInBounds_toArray, List.set_cons_zero, List.set_cons_succ]
  refine wpAnyH_take (i := 3) (v := ?_) rfl (by kernel_rfl) (by kernel_rfl) (by kernel_rfl) (fun _ _ _ h => h) (Or.inl ⟨by rfl, ?_⟩) (by assumption) ?_
  rotate_left
  · (intro wq hSw; (try dsimp only at hSw); go_simp; try with_reducible rfl)
  try simp only [Act.put, List.getElem_toArray, List.getElem_cons_succ, List.getElem_cons_zero, List.setIfInBounds_toArray, List.set_cons_zero, List.set_cons_succ]
  refine wpAnyH_take (i := 4) (v := ?_) rfl (by kernel_rfl) (by kernel_rfl) (by kernel_rfl) (fun _ _ _ h => h) (Or.inl ⟨by rfl, ?_⟩) (by assumption) ?_
  rotate_left
  · (intro wq hSw; (try dsimp only at hSw); go_simp; try with_reducible rfl)
  try simp only [Act.put, List.getElem_toArray, List.getElem_cons_succ, List.getElem_cons_zero, List.setIfInBounds_toArray, List.set_cons_zero, List.set_cons_succ]
  refine wpAnyH_ready (rs := [2]) (by kernel_rfl) (by simp) ?_
  refine AllReadyH.cons rfl (fun K hK => ?_) AllReadyH.nil
  rw [if_pos (by rfl)]
  refine wp_app ?_ elCell rfl rfl (Own.nil W0.drew w.heap.size 86 16) rfl (hH.out.kept (Kept.refl [] W0).drew (by simp)) (cellsV_one l) (by omega) hk0.size; intro a1 c1 w1 ho1 hj1 hat1; rw [Nat.zero_add, List.nil_append] at ho1
  refine hK.out _ _ ?_ (fun hHeld => ?_)
  · (try dsimp only); (first | exact heldL hHeld hk2 (by simp) | exact heldL hHeld hj1 (by simp [blk]) | exact (hb0.out.kept (Kept.refl [] W0).drew (by simp)).at)
  clear hK K
  try simp only [Act.put, List.getElem_toArray, List.getElem_cons_succ, List.getElem_cons_zero, List.setIfInBounds_toArray, List.set_cons_zero, List.set_cons_succ]
  refine wpAnyH_take (i := 5) (v := ?_) rfl (by kernel_rfl) (by kernel_rfl) (by kernel_rfl) (fun _ _ _ h => h) (Or.inl ⟨by rfl, ?_⟩) (by assumption) ?_
  rotate_left
  · (intro wq hSw; (try dsimp only at hSw); go_simp; try with_reducible rfl)
  try simp only [Act.put, List.getElem_toArray, List.getElem_cons_succ, List.getElem_cons_zero, List.setIfInBounds_toArray, List.set_cons_zero, List.set_cons_succ]
  refine wpAnyH_ready (rs := [6]) (by kernel_rfl) (by simp) ?_
  refine AllReadyH.cons rfl (fun K hK => ?_) AllReadyH.nil
  rw [if_pos (by rfl)]
  refine wp_store_lin rfl rfl (w.heap.size + 1) rfl (hz0.out.kept ((Kept.refl [] W0).drew.trans hj1 (by simp [blk])) (by simp)) a1 n c1 s rfl ?_; intro w2 hb2 hk2
  refine hK.out _ _ ?_ (fun hHeld => ?_)
  · (try dsimp only); (first | exact heldL hHeld hk2 (by simp) | exact heldL hHeld hj1 (by simp [blk]) | exact (hb0.out.kept (Kept.refl [] W0).drew (by simp)).at)
  clear hK K
  try simp only [Act.put, List.getElem_toArray, List.getElem_cons_succ, List.getElem_cons_zero, List.setIfInBounds_toArray, List.set_cons_zero, List.set_cons_succ]
  refine wpAnyH_done (by kernel_rfl) ?_ _
  go_wp2_with fail
  have hk1 : Kept [] W0 w1 := (Kept.refl [] W0).drew.trans hj1 (by simp [blk])
  have hne : w.heap.size + 1 ∉ blk a1 := fun hm => by
    rcases hat1 _ hm with h | h
    · cases h
    · have h2 : W0.heap.size ≤ w.heap.size + 1 := h
      omega
  refine bodyPost_ret (results_lin rfl rfl hb2) rfl ?_
  have ho2 := Own.kept (xs := cellsV l) ho1 hk2 (fun g hg hm => by simp at hm; subst hm; exact hne hg)
  exact ⟨a1, n, c1, rfl, ho2, ho2.caps.1, ho2.caps.2, (hk0.trans hk1 (by simp)).trans hk2 (by simp)⟩

end Go.Proofs.YtnkddhmhjnhgcaaGreatDoor
