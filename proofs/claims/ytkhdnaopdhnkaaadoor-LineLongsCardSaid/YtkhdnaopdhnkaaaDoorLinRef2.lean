/- The reference's functions of layer 6 that make lines: Copy, Trim, New; Text. -/
import Derived.Test.YtkhdnaopdhnkaaaDoorLinRef
import Derived.Test.YtkhdnaopdhnkaaaDoorCelTs
namespace Go.Proofs.YtkhdnaopdhnkaaaDoor
open Go.RowKit
set_option linter.unusedVariables false
set_option maxRecDepth 100000

theorem heldL {S : List Nat} {w w' : World} {b : Nat} {a : Option Addr} {n c : Nat} {s : Bool} (h : w.cell? ⟨b, 0, none⟩ = some (.slice a n c) ∧ w.cell? ⟨b, 1, none⟩ = some (.bool s)) (hk : Kept S w w') (hb : b ∉ S) : w'.cell? ⟨b, 0, none⟩ = some (.slice a n c) ∧ w'.cell? ⟨b, 1, none⟩ = some (.bool s) :=
  ⟨hk.cell h.1 hb, hk.cell h.2 hb⟩

set_option maxHeartbeats 2000000 in
theorem rCopy_any (a : Option Addr) (n c : Nat) (s : Bool) (l : List Cl) (w : World) (hr : Rd w a n 16 (cellsV l)) (hn : n ≤ 1000000) :
    Calls Tryd.prog 26 #[.agg #[.slice a n c, .bool s]] w (LinRet w l s) := by
  obtain ⟨W0, hW0⟩ : ∃ z : World, z = (w.alloc (.cells #[.slice a n c, .bool s] 27)).alloc (.cells #[.slice none 0 0, .bool false] 27) := ⟨_, rfl⟩
  have hk0 : Kept [] w W0 := by rw [hW0]; exact ((Kept.refl [] w).alloc _).alloc _
  have hb0 : Hid (LinIn W0 w.heap.size a n c s) := hide (by rw [hW0]; exact (LinIn.new w a n c s).kept ((Kept.refl [] _).alloc _) (by simp))
  have hz0 : Hid (LinIn W0 (w.heap.size + 1) none 0 0 false) := hide (by rw [hW0]; exact heap_new_at (by simp))
  have hH := hide (hr.kept hk0 (by simp))
  have hs0 : w.heap.size + 1 < W0.heap.size := by rw [hW0]; simp
  clear hr
  go_enter Tryd.func26, Tryd.ntmps26
  go_upto_region 1 with fail
  rw [← hW0]
  clear hW0
  refine wp_region_held_drew (S := (fun w' => w'.cell? ⟨w.heap.size, 0, none⟩ = some (.slice a n c) ∧ w'.cell? ⟨w.heap.size, 1, none⟩ = some (.bool s))) (by kernel_rfl) ?_ (fun hHeld => ?_)
  · (try dsimp only); (first | exact heldL hHeld hk2 (by simp) | exact heldL hHeld hj1 (by simp [blk]) | exact (hb0.out.kept (Kept.refl [] W0).drew (by simp)).at)
  refine wpAnyH_take (i := 0) (v := ?_) rfl (by kernel_rfl) (by kernel_rfl) (by kernel_rfl) (fun _ _ _ h => h) (Or.inl ⟨by rfl, ?_⟩) (by assumption) ?_
  rotate_left
  · (intro wq hSw; (try dsimp only at hSw); go_simp; try with_reducible rfl)
  try simp only [Act.put, List.getElem_toArray, List.getElem_cons_zero, List.setIfInBounds_toArray, List.set_cons_zero, List.set_cons_succ]
  refine wpAnyH_take (i := 1) (v := ?_) rfl (by kernel_rfl) (by kernel_rfl) (by kernel_rfl) (fun _ _ _ h => h) (Or.inl ⟨by rfl, ?_⟩) (by assumption) ?_
  rotate_left
  · (intro wq hSw; (try dsimp only at hSw); go_simp; try with_reducible rfl)
  try simp only [Act.put, List.getElem_toArray, List.getElem_cons_succ, List.getElem_cons_zero, List.setIfInBounds_toArray, List.set_cons_zero, List.set_cons_succ]
  refine wpAnyH_take (i := 3) (v := ?_) rfl (by kernel_rfl) (by kernel_rfl) (by kernel_rfl) (fun _ _ _ h => h) (Or.inl ⟨by rfl, ?_⟩) (by assumption) ?_
  rotate_left
  · (intro wq hSw; (try dsimp only at hSw); go_simp; try with_reducible rfl)
  try simp only [Act.put, List.getElem_toArray, List.getElem_cons_succ, List.getElem_cons_zero, List.setIfInBounds_toArray, List.set_cons_zero, List.set_cons_succ]
  refine wpAnyH_take (i := 4) (v := ?_) rfl (by kernel_rfl) (by kernel_rfl) (by kernel_rfl) (fun _ _ _ h => h) (Or.inl ⟨by rfl, ?_⟩) (by assumption) ?_
  rotate_left
  · (intro wq hSw; (try dsimp only at hSw); go_simp; try with_reducible rfl)
  try simp only [Act.put, List.getElem_toArray, List.getElem_cons_succ, List.getElem_cons_zero, List.setIfInBounds_toArray, List.set_cons_zero, List.set_cons_succ]
  refine wpAnyH_ready (rs := [2]) (by kernel_rfl) (by simp) ?_
  refine AllReadyH.cons rfl (fun K hK => ?_) AllReadyH.nil
  rw [if_pos (by rfl)]
  refine wp_app ?_ elCell rfl rfl (Own.nil W0.drew w.heap.size 60 16) rfl (hH.out.kept (Kept.refl [] W0).drew (by simp)) (cellsV_one l) (by omega) hk0.size; intro a1 c1 w1 ho1 hj1 hat1; rw [Nat.zero_add, List.nil_append] at ho1
  refine hK.out _ _ ?_ (fun hHeld => ?_)
  · (try dsimp only); (first | exact heldL hHeld hk2 (by simp) | exact heldL hHeld hj1 (by simp [blk]) | exact (hb0.out.kept (Kept.refl [] W0).drew (by simp)).at)
  clear hK K
  try simp only [Act.put, List.getElem_toArray, List.getElem_cons_succ, List.getElem_cons_zero, List.setIfInBounds_toArray, List.set_cons_zero, List.set_cons_succ]
  refine wpAnyH_take (i := 5) (v := ?_) rfl (by kernel_rfl) (by kernel_rfl) (by kernel_rfl) (fun _ _ _ h => h) (Or.inl ⟨by rfl, ?_⟩) (by assumption) ?_
  rotate_left
  · (intro wq hSw; (try dsimp only at hSw); go_simp; try with_reducible rfl)
  try simp only [Act.put, List.getElem_toArray, List.getElem_cons_succ, List.getElem_cons_zero, List.setIfInBounds_toArray, List.set_cons_zero, List.set_cons_succ]
  refine wpAnyH_ready (rs := [6]) (by kernel_rfl) (by simp) ?_
  refine AllReadyH.cons rfl (fun K hK => ?_) AllReadyH.nil
  rw [if_pos (by rfl)]
  refine wp_store_lin rfl rfl (w.heap.size + 1) rfl (hz0.out.kept ((Kept.refl [] W0).drew.trans hj1 (by simp [blk])) (by simp)) a1 n c1 s rfl ?_; intro w2 hb2 hk2
  refine hK.out _ _ ?_ (fun hHeld => ?_)
  · (try dsimp only); (first | exact heldL hHeld hk2 (by simp) | exact heldL hHeld hj1 (by simp [blk]) | exact (hb0.out.kept (Kept.refl [] W0).drew (by simp)).at)
  clear hK K
  try simp only [Act.put, List.getElem_toArray, List.getElem_cons_succ, List.getElem_cons_zero, List.setIfInBounds_toArray, List.set_cons_zero, List.set_cons_succ]
  refine wpAnyH_done (by kernel_rfl) ?_ _
  go_wp2_with fail
  have hk1 : Kept [] W0 w1 := (Kept.refl [] W0).drew.trans hj1 (by simp [blk])
  have hne : w.heap.size + 1 ∉ blk a1 := fun hm => by
    rcases hat1 _ hm with h | h
    · cases h
    · have h2 : W0.heap.size ≤ w.heap.size + 1 := h
      omega
  refine bodyPost_ret (results_lin rfl rfl hb2) rfl ?_
  have ho2 := Own.kept (xs := cellsV l) ho1 hk2 (fun g hg hm => by simp at hm; subst hm; exact hne hg)
  exact ⟨a1, n, c1, rfl, ho2, ho2.caps.1, ho2.caps.2, (hk0.trans hk1 (by simp)).trans hk2 (by simp)⟩

set_option maxHeartbeats 2000000 in
theorem rTrim_any (a : Option Addr) (n c : Nat) (s : Bool) (l : List Cl) (w : World) (hr : Rd w a n 16 (cellsV l)) (hn : n ≤ 1000000) (hnc : n ≤ c) (hcm : c ≤ maxLen) :
    Calls Tryd.prog 31 #[.agg #[.slice a n c, .bool s]] w (LinRet w (trimL l) s) := by
  obtain ⟨W0, hW0⟩ : ∃ z : World, z = (w.alloc (.cells #[.slice a n c, .bool s] 27)).alloc (.cells #[.slice none 0 0, .bool false] 27) := ⟨_, rfl⟩
  have hk0 : Kept [] w W0 := by rw [hW0]; exact ((Kept.refl [] w).alloc _).alloc _
  have hb0 : Hid (LinIn W0 w.heap.size a n c s) := hide (by rw [hW0]; exact (LinIn.new w a n c s).kept ((Kept.refl [] _).alloc _) (by simp))
  have hz0 : Hid (LinIn W0 (w.heap.size + 1) none 0 0 false) := hide (by rw [hW0]; exact heap_new_at (by simp))
  have hH := hide (hr.kept hk0 (by simp))
  have hs0 : w.heap.size + 1 < W0.heap.size := by rw [hW0]; simp
  have hU := hide (rUsed_any a n c s l W0.drew (hH.out.kept (Kept.refl [] W0).drew (by simp)) hn)
  have hul : usedI l ≤ n := by have := used_le l; have := hr.clen; omega
  obtain ⟨at', ct, _, _, hcut, hcr⟩ := cut_h a n c (usedI l) hul hnc hcm
  have hcr := hide (fun w1 (hk : Kept [] W0 w1) => hcr w1 l (hH.out.kept hk (by simp)))
  have hT : Hid (trimL l = l.take (usedI l)) := hide rfl
  have hone := cellsV_one (l.take (usedI l))
  generalize trimL l = T at *
  generalize l.take (usedI l) = tk at *
  generalize usedI l = u at *
  clear hr
  go_enter Tryd.func31, Tryd.ntmps31
  go_upto_region 1 with fail
  rw [← hW0]
  clear hW0
  refine wp_region_held_drew (S := (fun w' => w'.cell? ⟨w.heap.size, 0, none⟩ = some (.slice a n c) ∧ w'.cell? ⟨w.heap.size, 1, none⟩ = some (.bool s))) (by kernel_rfl) ?_ (fun hHeld => ?_)
  · (try dsimp only); (first | exact heldL hHeld hk3 (by simp) | exact heldL hHeld hj2 (by simp [blk]) | exact heldL hHeld hj1 (by simp) | exact (hb0.out.kept (Kept.refl [] W0).drew (by simp)).at)
  refine wpAnyH_take (i := 0) (v := ?_) rfl (by kernel_rfl) (by kernel_rfl) (by kernel_rfl) (fun _ _ _ h => h) (Or.inl ⟨by rfl, ?_⟩) (by assumption) ?_
  rotate_left
  · (intro wq hSw; (try dsimp only at hSw); go_simp; try with_reducible rfl)
  try simp only [Act.put, List.getElem_toArray, List.getElem_cons_zero, List.setIfInBounds_toArray, List.set_cons_zero, List.set_cons_succ]
  refine wpAnyH_take (i := 1) (v := ?_) rfl (by kernel_rfl) (by kernel_rfl) (by kernel_rfl) (fun _ _ _ h => h) (Or.inl ⟨by rfl, ?_⟩) (by assumption) ?_
  rotate_left
  · (intro wq hSw; (try dsimp only at hSw); go_simp; try with_reducible rfl)
  try simp only [Act.put, List.getElem_toArray, List.getElem_cons_succ, List.getElem_cons_zero, List.setIfInBounds_toArray, List.set_cons_zero, List.set_cons_succ]
  refine wpAnyH_take (i := 2) (v := ?_) rfl (by kernel_rfl) (by kernel_rfl) (by kernel_rfl) (fun _ _ _ h => h) (Or.inl ⟨by rfl, ?_⟩) (by assumption) ?_
  rotate_left
  · (intro wq hSw; (try dsimp only at hSw); go_simp; try with_reducible rfl)
  try simp only [Act.put, List.getElem_toArray, List.getElem_cons_succ, List.getElem_cons_zero, List.setIfInBounds_toArray, List.set_cons_zero, List.set_cons_succ]
  refine wpAnyH_take (i := 6) (v := ?_) rfl (by kernel_rfl) (by kernel_rfl) (by kernel_rfl) (fun _ _ _ h => h) (Or.inl ⟨by rfl, ?_⟩) (by assumption) ?_
  rotate_left
  · (intro wq hSw; (try dsimp only at hSw); go_simp; try with_reducible rfl)
  try simp only [Act.put, List.getElem_toArray, List.getElem_cons_succ, List.getElem_cons_zero, List.setIfInBounds_toArray, List.set_cons_zero, List.set_cons_succ]
  refine wpAnyH_take (i := 7) (v := ?_) rfl (by kernel_rfl) (by kernel_rfl) (by kernel_rfl) (fun _ _ _ h => h) (Or.inl ⟨by rfl, ?_⟩) (by assumption) ?_
  rotate_left
  · (intro wq hSw; (try dsimp only at hSw); go_simp; try with_reducible rfl)
  try simp only [Act.put, List.getElem_toArray, List.getElem_cons_succ, List.getElem_cons_zero, List.setIfInBounds_toArray, List.set_cons_zero, List.set_cons_succ]
  refine wpAnyH_ready (rs := [3]) (by kernel_rfl) (by simp) ?_
  refine AllReadyH.cons rfl (fun K hK => ?_) AllReadyH.nil
  go_simp
  refine hU.out.mono ?_; rintro e w1 ⟨rfl, hj1⟩; have hk1 : Kept [] W0 w1 := (Kept.refl [] W0).drew.trans hj1 (by simp)
  try go_wp2_with fail
  refine hK.out _ _ ?_ (fun hHeld => ?_)
  · (try dsimp only); (first | exact heldL hHeld hk3 (by simp) | exact heldL hHeld hj2 (by simp [blk]) | exact heldL hHeld hj1 (by simp) | exact (hb0.out.kept (Kept.refl [] W0).drew (by simp)).at)
  clear hK K
  try simp only [Act.put, List.getElem_toArray, List.getElem_cons_succ, List.getElem_cons_zero, List.setIfInBounds_toArray, List.set_cons_zero, List.set_cons_succ]
  refine wpAnyH_take (i := 4) (v := ?_) rfl (by kernel_rfl) (by kernel_rfl) (by kernel_rfl) (fun _ _ _ h => h) (Or.inl ⟨by rfl, ?_⟩) (by assumption) ?_
  rotate_left
  · (intro wq hSw; (try dsimp only at hSw); go_simp; try with_reducible rfl)
  try simp only [Act.put, List.getElem_toArray, List.getElem_cons_succ, List.getElem_cons_zero, List.setIfInBounds_toArray, List.set_cons_zero, List.set_cons_succ]
  refine wpAnyH_ready (rs := [5]) (by kernel_rfl) (by simp) ?_
  refine AllReadyH.cons rfl (fun K hK => ?_) AllReadyH.nil
  rw [if_pos (by rfl)]
  refine wp_app ?_ elCell rfl rfl (Own.nil w1 w.heap.size 60 16) rfl (hcr.out w1 hk1) hone (by omega) (hk0.trans hk1 (by simp)).size; intro a2 c2 w2 ho2 hj2 hat2; rw [Nat.zero_add, List.nil_append] at ho2
  refine hK.out _ _ ?_ (fun hHeld => ?_)
  · (try dsimp only); (first | exact heldL hHeld hk3 (by simp) | exact heldL hHeld hj2 (by simp [blk]) | exact heldL hHeld hj1 (by simp) | exact (hb0.out.kept (Kept.refl [] W0).drew (by simp)).at)
  clear hK K
  try simp only [Act.put, List.getElem_toArray, List.getElem_cons_succ, List.getElem_cons_zero, List.setIfInBounds_toArray, List.set_cons_zero, List.set_cons_succ]
  refine wpAnyH_take (i := 8) (v := ?_) rfl (by kernel_rfl) (by kernel_rfl) (by kernel_rfl) (fun _ _ _ h => h) (Or.inl ⟨by rfl, ?_⟩) (by assumption) ?_
  rotate_left
  · (intro wq hSw; (try dsimp only at hSw); go_simp; try with_reducible rfl)
  try simp only [Act.put, List.getElem_toArray, List.getElem_cons_succ, List.getElem_cons_zero, List.setIfInBounds_toArray, List.set_cons_zero, List.set_cons_succ]
  refine wpAnyH_ready (rs := [9]) (by kernel_rfl) (by simp) ?_
  refine AllReadyH.cons rfl (fun K hK => ?_) AllReadyH.nil
  rw [if_pos (by rfl)]
  refine wp_store_lin rfl rfl (w.heap.size + 1) rfl (hz0.out.kept (hk1.trans hj2 (by simp [blk])) (by simp)) a2 u c2 s rfl ?_; intro w3 hb3 hk3
  refine hK.out _ _ ?_ (fun hHeld => ?_)
  · (try dsimp only); (first | exact heldL hHeld hk3 (by simp) | exact heldL hHeld hj2 (by simp [blk]) | exact heldL hHeld hj1 (by simp) | exact (hb0.out.kept (Kept.refl [] W0).drew (by simp)).at)
  clear hK K
  try simp only [Act.put, List.getElem_toArray, List.getElem_cons_succ, List.getElem_cons_zero, List.setIfInBounds_toArray, List.set_cons_zero, List.set_cons_succ]
  refine wpAnyH_done (by kernel_rfl) ?_ _
  go_wp2_with fail
  have hk2 : Kept [] W0 w2 := hk1.trans hj2 (by simp [blk])
  have hne : w.heap.size + 1 ∉ blk a2 := fun hm => by
    rcases hat2 _ hm with h | h
    · cases h
    · have h1 := hk1.size
      omega
  refine bodyPost_ret (results_lin rfl rfl hb3) rfl ?_
  have ho3 := Own.kept (xs := cellsV tk) ho2 hk3 (fun g hg hm => by simp at hm; subst hm; exact hne hg)
  exact ⟨a2, u, c2, rfl, by rw [hT.out]; exact ho3, ho3.caps.1, ho3.caps.2, (hk0.trans hk2 (by simp)).trans hk3 (by simp)⟩

set_option maxHeartbeats 2000000 in
theorem rText6_any (a : Option Addr) (n c : Nat) (s : Bool) (l : List Cl) (w : World) (hr : Rd w a n 16 (cellsV l)) (hn : n ≤ 1000) (hnc : n ≤ c) (hcm : c ≤ maxLen) :
    Calls Tryd.prog 23 #[.agg #[.slice a n c, .bool s]] w fun e w' => e = .returned (.string (textsB (trimL l))) ∧ Kept [] w w' := by
  obtain ⟨W0, hW0⟩ : ∃ z : World, z = w.alloc (.cells #[.slice a n c, .bool s] 27) := ⟨_, rfl⟩
  have hk0 : Kept [] w W0 := by rw [hW0]; exact (Kept.refl [] w).alloc _
  have hb0 : Hid (LinIn W0 w.heap.size a n c s) := hide (by rw [hW0]; exact LinIn.new w a n c s)
  have hH := hide (hr.kept hk0 (by simp))
  have hU := hide (rUsed_any a n c s l W0.drew (hH.out.kept (Kept.refl [] W0).drew (by simp)) (by omega))
  have hul : usedI l ≤ n := by have := used_le l; have := hr.clen; omega
  obtain ⟨at', ct, _, _, hcut, hcr⟩ := cut_h a n c (usedI l) hul hnc hcm
  have hTx := hide (fun w1 (hk : Kept [] W0 w1) => rTexts_any at' (usedI l) ct (l.take (usedI l)) w1 (hcr w1 l (hH.out.kept hk (by simp))) (by omega))
  have hT : trimL l = l.take (usedI l) := rfl
  rw [hT]
  generalize l.take (usedI l) = tk at *
  generalize usedI l = u at *
  clear hr hT
  go_enter Tryd.func23, Tryd.ntmps23
  go_upto_region 1 with fail
  rw [← hW0]
  clear hW0
  refine wp_region_held_drew (S := (fun w' => w'.cell? ⟨w.heap.size, 0, none⟩ = some (.slice a n c) ∧ w'.cell? ⟨w.heap.size, 1, none⟩ = some (.bool s))) (by kernel_rfl) ?_ (fun hHeld => ?_)
  · (try dsimp only); (first | exact heldL hHeld hj2 (by simp) | exact heldL hHeld hj1 (by simp) | exact (hb0.out.kept (Kept.refl [] W0).drew (by simp)).at)
  refine wpAnyH_take (i := 0) (v := ?_) rfl (by kernel_rfl) (by kernel_rfl) (by kernel_rfl) (fun _ _ _ h => h) (Or.inl ⟨by rfl, ?_⟩) (by assumption) ?_
  rotate_left
  · (intro wq hSw; (try dsimp only at hSw); go_simp; try with_reducible rfl)
  try simp only [Act.put, List.getElem_toArray, List.getElem_cons_zero, List.setIfInBounds_toArray, List.set_cons_zero, List.set_cons_succ]
  refine wpAnyH_take (i := 1) (v := ?_) rfl (by kernel_rfl) (by kernel_rfl) (by kernel_rfl) (fun _ _ _ h => h) (Or.inl ⟨by rfl, ?_⟩) (by assumption) ?_
  rotate_left
  · (intro wq hSw; (try dsimp only at hSw); go_simp; try with_reducible rfl)
  try simp only [Act.put, List.getElem_toArray, List.getElem_cons_succ, List.getElem_cons_zero, List.setIfInBounds_toArray, List.set_cons_zero, List.set_cons_succ]
  refine wpAnyH_take (i := 2) (v := ?_) rfl (by kernel_rfl) (by kernel_rfl) (by kernel_rfl) (fun _ _ _ h => h) (Or.inl ⟨by rfl, ?_⟩) (by assumption) ?_
  rotate_left
  · (intro wq hSw; (try dsimp only at hSw); go_simp; try with_reducible rfl)
  try simp only [Act.put, List.getElem_toArray, List.getElem_cons_succ, List.getElem_cons_zero, List.setIfInBounds_toArray, List.set_cons_zero, List.set_cons_succ]
  refine wpAnyH_ready (rs := [3]) (by kernel_rfl) (by simp) ?_
  refine AllReadyH.cons rfl (fun K hK => ?_) AllReadyH.nil
  go_simp
  refine hU.out.mono ?_; rintro e w1 ⟨rfl, hj1⟩; have hk1 : Kept [] W0 w1 := (Kept.refl [] W0).drew.trans hj1 (by simp)
  try go_wp2_with fail
  refine hK.out _ _ ?_ (fun hHeld => ?_)
  · (try dsimp only); (first | exact heldL hHeld hj2 (by simp) | exact heldL hHeld hj1 (by simp) | exact (hb0.out.kept (Kept.refl [] W0).drew (by simp)).at)
  clear hK K
  try simp only [Act.put, List.getElem_toArray, List.getElem_cons_succ, List.getElem_cons_zero, List.setIfInBounds_toArray, List.set_cons_zero, List.set_cons_succ]
  refine wpAnyH_take (i := 4) (v := ?_) rfl (by kernel_rfl) (by kernel_rfl) (by kernel_rfl) (fun _ _ _ h => h) (Or.inl ⟨by rfl, ?_⟩) (by assumption) ?_
  rotate_left
  · (intro wq hSw; (try dsimp only at hSw); go_simp; try with_reducible rfl)
  try simp only [Act.put, List.getElem_toArray, List.getElem_cons_succ, List.getElem_cons_zero, List.setIfInBounds_toArray, List.set_cons_zero, List.set_cons_succ]
  refine wpAnyH_ready (rs := [5]) (by kernel_rfl) (by simp) ?_
  refine AllReadyH.cons rfl (fun K hK => ?_) AllReadyH.nil
  go_simp
  refine (hTx.out w1 hk1).mono ?_; rintro e w2 ⟨rfl, hj2⟩
  try go_wp2_with fail
  refine hK.out _ _ ?_ (fun hHeld => ?_)
  · (try dsimp only); (first | exact heldL hHeld hj2 (by simp) | exact heldL hHeld hj1 (by simp) | exact (hb0.out.kept (Kept.refl [] W0).drew (by simp)).at)
  clear hK K
  try simp only [Act.put, List.getElem_toArray, List.getElem_cons_succ, List.getElem_cons_zero, List.setIfInBounds_toArray, List.set_cons_zero, List.set_cons_succ]
  refine wpAnyH_take (i := 6) (v := ?_) rfl (by kernel_rfl) (by kernel_rfl) (by kernel_rfl) (fun _ _ _ h => h) (Or.inl ⟨by rfl, ?_⟩) (by assumption) ?_
  rotate_left
  · (intro wq hSw; (try dsimp only at hSw); go_simp; try with_reducible rfl)
  try simp only [Act.put, List.getElem_toArray, List.getElem_cons_succ, List.getElem_cons_zero, List.setIfInBounds_toArray, List.set_cons_zero, List.set_cons_succ]
  refine wpAnyH_done (by kernel_rfl) ?_ _
  go_wp2_with fail
  go_ret
  exact ⟨rfl, (hk0.trans hk1 (by simp)).trans hj2 (by simp)⟩
end Go.Proofs.YtkhdnaopdhnkaaaDoor
