/- The reference's functions of layer 6 that make lines: Copy, Trim, New; Text. -/
import Derived.Test.YtpeedjknjjbabaaDoorLinRef
import Derived.Test.YtpeedjknjjbabaaDoorCelTs
namespace Go.Proofs.YtpeedjknjjbabaaDoor
open Go.RowKit
set_option linter.unusedVariables false
set_option maxRecDepth 100000

theorem heldL {S : List Nat} {w w' : World} {b : Nat} {a : Option Addr} {n c : Nat} {s : Bool} (h : w.cell? ⟨b, 0, none⟩ = some (.slice a n c) ∧ w.cell? ⟨b, 1, none⟩ = some (.bool s)) (hk : Kept S w w') (hb : b ∉ S) : w'.cell? ⟨b, 0, none⟩ = some (.slice a n c) ∧ w'.cell? ⟨b, 1, none⟩ = some (.bool s) :=
  ⟨hk.cell h.1 hb, hk.cell h.2 hb⟩

set_option maxHeartbeats 2000000 in
theorem rCopy_any (a : Option Addr) (n c : Nat) (s : Bool) (l : List Cl) (w : World) (hr : Rd w a n 16 (cellsV l)) (hn : n ≤ 1000000) :
    Calls Tryd.prog 28 #[.agg #[.slice a n c, .bool s]] w (LinRet w l s) := by
  obtain ⟨W0, hW0⟩ : ∃ z : World, z = (w.alloc (.cells #[.slice a n c, .bool s] 35)).alloc (.cells #[.slice none 0 0, .bool false] 35) := ⟨_, rfl⟩
  have hk0 : Kept [] w W0 := by rw [hW0]; exact ((Kept.refl [] w).alloc _).alloc _
  have hb0 : Hid (LinIn W0 w.heap.size a n c s) := hide (by rw [hW0]; exact (LinIn.new w a n c s).kept ((Kept.refl [] _).alloc _) (by simp))
  have hz0 : Hid (LinIn W0 (w.heap.size + 1) none 0 0 false) := hide (by rw [hW0]; exact heap_new_at (by simp))
  have hH := hide (hr.kept hk0 (by simp))
  have hs0 : w.heap.size + 1 < W0.heap.size := by rw [hW0]; simp
  clear hr
  go_enter Tryd.func28, Tryd.ntmps28
  go_upto_region 1 with fail
  rw [← hW0]
  clear hW0
  refine wp_region_held_drew (S := (fun w' => w'.cell? ⟨w.heap.size, 0, none⟩ = some (.slice a n c) ∧ w'.cell? ⟨w.heap.size, 1, none⟩ = some (.bool s))) (by kernel_rfl) ?_ (fun hHeld => ?_)
  · (try dsimp only); (first | exact heldL hHeld hk2 (by simp) | exact heldL hHeld hj1 (by simp [blk]) | exact (hb0.out.kept (Kept.refl [] W0).drew (by simp)).at)
  refine wpAnyH_take (i := 0) (v := ?_) rfl (by kernel_rfl) (by kernel_rfl) (by kernel_rfl) (fun _ _ _ h => h) (Or.inl ⟨by rfl, ?_⟩) (by assumption) ?_
  rotate_left
  · (intro wq hSw; (try dsimp only at hSw); go_simp; try with_reducible rfl)
  try simp only [Act.put, List.getElem_toArray, List.getElem_cons_zero, List.setIfInBounds_toArray, List.set_cons_zero, List.set_cons_succ]
  refine wpAnyH_take (i := 1) (v := ?_) rfl (by kernel_rfl) (by kernel_rfl) (by kernel_rfl) (fun _ _ _ h => h) (Or.inl ⟨by rfl, ?_⟩) (by assumption) ?_
  rotate_left
  · (intro wq hSw; (try dsimp only at hSw); go_simp; try with_reducible rfl)
  try simp only [Act.put, List.getElem_toArray, List.getElem_cons_succ, List.getElem_cons_zero, List.setIfInBounds_toArray, List.set_cons_zero, List.set_cons_succ]
  refine wpAnyH_take (i := 3) (v := ?_) rfl (by kernel_rfl) (by kernel_rfl) (by kernel_rfl) (fun _ _ _ h => h) (Or.inl ⟨by rfl, ?_⟩) (by assumption) ?_
  rotate_left
  · (intro wq hSw; (try dsimp only at hSw); go_simp; try with_reducible rfl)
  try simp only [Act.put, List.getElem_toArray, List.getElem_cons_succ, List.getElem_cons_zero, List.setIfInBounds_toArray, List.set_cons_zero, List.set_cons_succ]
  refine wpAnyH_take (i := 4) (v := ?_) rfl (by kernel_rfl) (by kernel_rfl) (by kernel_rfl) (fun _ _ _ h => h) (Or.inl ⟨by rfl, ?_⟩) (by assumption) ?_
  rotate_left
  · (intro wq hSw; (try dsimp only at hSw); go_simp; try with_reducible rfl)
  try simp only [Act.put, List.getElem_toArray, List.getElem_cons_succ, List.getElem_cons_zero, List.setIfInBounds_toArray, List.set_cons_zero, List.set_cons_succ]
  refine wpAnyH_ready (rs := [2]) (by kernel_rfl) (by simp) ?_
  refine AllReadyH.cons rfl (fun K hK => ?_) AllReadyH.nil
  rw [if_pos (by rfl)]
  refine wp_app ?_ elCell rfl rfl (Own.nil W0.drew w.heap.size 71 16) rfl (hH.out.kept (Kept.refl [] W0).drew (by simp)) (cellsV_one l) (by omega) hk0.size; intro a1 c1 w1 ho1 hj1 hat1; rw [Nat.zero_add, List.nil_append] at ho1
  refine hK.out _ _ ?_ (fun hHeld => ?_)
  · (try dsimp only); (first | exact heldL hHeld hk2 (by simp) | exact heldL hHeld hj1 (by simp [blk]) | exact (hb0.out.kept (Kept.refl [] W0).drew (by simp)).at)
  clear hK K
  try simp only [Act.put, List.getElem_toArray, List.getElem_cons_succ, List.getElem_cons_zero, List.setIfInBounds_toArray, List.set_cons_zero, List.set_cons_succ]
  refine wpAnyH_take (i := 5) (v := ?_) rfl (by kernel_rfl) (by kernel_rfl) (by kernel_rfl) (fun _ _ _ h => h) (Or.inl ⟨by rfl, ?_⟩) (by assumption) ?_
  rotate_left
  · (intro wq hSw; (try dsimp only at hSw); go_simp; try with_reducible rfl)
  try simp only [Act.put, List.getElem_toArray, List.getElem_cons_succ, List.getElem_cons_zero, List.setIfInBounds_toArray, List.set_cons_zero, List.set_cons_succ]
  refine wpAnyH_ready (rs := [6]) (by kernel_rfl) (by simp) ?_
  refine AllReadyH.cons rfl (fun K hK => ?_) AllReadyH.nil
  rw [if_pos (by rfl)]
  refine wp_store_lin rfl rfl (w.heap.size + 1) rfl (hz0.out.kept ((Kept.refl [] W0).drew.trans hj1 (by simp [blk])) (by simp)) a1 n c1 s rfl ?_; intro w2 hb2 hk2
  refine hK.out _ _ ?_ (fun hHeld => ?_)
  · (try dsimp only); (first | exact heldL hHeld hk2 (by simp) | exact heldL hHeld hj1 (by simp [blk]) | exact (hb0.out.kept (Kept.refl [] W0).drew (by simp)).at)
  clear hK K
  try simp only [Act.put, List.getElem_toArray, List.getElem_cons_succ, List.getElem_cons_zero, List.setIfInBounds_toArray, List.set_cons_zero, List.set_cons_succ]
  refine wpAnyH_done (by kernel_rfl) ?_ _
  go_wp2_with fail
  have hk1 : Kept [] W0 w1 := (Kept.refl [] W0).drew.trans hj1 (by simp [blk])
  have hne : w.heap.size + 1 ∉ blk a1 := fun hm => by
    rcases hat1 _ hm with h | h
    · cases h
    · have h2 : W0.heap.size ≤ w.heap.size + 1 := h
      omega
  refine bodyPost_ret (results_lin rfl rfl hb2) rfl ?_
  have ho2 := Own.kept (xs := cellsV l) ho1 hk2 (fun g hg hm => by simp at hm; subst hm; exact hne hg)
  exact ⟨a1, n, c1, rfl, ho2, ho2.caps.1, ho2.caps.2, (hk0.trans hk1 (by simp)).trans hk2 (by simp)⟩

end Go.Proofs.YtpeedjknjjbabaaDoor
