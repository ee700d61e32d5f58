/- The reference's functions of layer 7: Drop, Pop, Set. The reference's functions of layer 7: Pop, Set. The reference's function Set of layer 7. -/
import Derived.Test.YtpeedjknjjbabaaDoorShRef
namespace Go.Proofs.YtpeedjknjjbabaaDoor
open Go.RowKit
set_option linter.unusedVariables false
set_option maxRecDepth 100000

theorem szLn : ∀ w, (sizeOf (Tryd.prog.elem 30)).run Tryd.prog w = .ok 2 w := fun w => by kernel_rfl
theorem cutn_l (a : Option Addr) (n c lo : Nat) (h1 : lo ≤ n) (h3 : n ≤ c) (hc : c ≤ maxLen) :
    ∃ a2 c2, n - lo ≤ c2 ∧ c2 ≤ maxLen ∧ (∀ w, (Instr.slice 30 (.slice a n c) (some (.int .i64 lo)) none none).run Tryd.prog w = .ok (.slice a2 (n - lo) c2) w) ∧
      ∀ w (l : List LnA), Rd w a n 2 (rowsV lnV l) → Rd w a2 (n - lo) 2 (rowsV lnV (l.drop lo)) := rows_slice_l rowLn Tryd.underlying30 szLn a n c lo h1 h3 hc
theorem cutn_h (a : Option Addr) (n c hi : Nat) (h2 : hi ≤ n) (h3 : n ≤ c) (hc : c ≤ maxLen) :
    ∃ a2 c2, hi ≤ c2 ∧ c2 ≤ maxLen ∧ (∀ w, (Instr.slice 30 (.slice a n c) none (some (.int .i64 hi)) none).run Tryd.prog w = .ok (.slice a2 hi c2) w) ∧
      ∀ w (l : List LnA), Rd w a n 2 (rowsV lnV l) → Rd w a2 hi 2 (rowsV lnV (l.take hi)) := rows_slice_h rowLn Tryd.underlying30 szLn a n c hi h2 h3 hc
theorem blks_sub {vs us : List LnA} (h : ∀ v ∈ us, v ∈ vs) : ∀ y ∈ blks us, y ∈ blks vs := fun y hy => by
  obtain ⟨v, hv, hy⟩ := List.mem_flatMap.1 hy
  exact List.mem_flatMap.2 ⟨v, h v hv, hy⟩
theorem blkN_new {a : Option Addr} {n : Nat} {k : Nat} (h : ∀ y ∈ blk a, k ≤ y) : ∀ y ∈ blkN a n, k ≤ y := fun y hy => by
  unfold blkN at hy
  split at hy
  · cases hy
  · exact h y hy

set_option maxHeartbeats 4000000 in
theorem rDrop_neg (p g : Nat) (a : Option Addr) (n c : Nat) (vs : List LnA) (ls : List Ln) (k : Int) (w : World) (hr : LnsR w a n vs ls) (hnc : n ≤ c) (hcm : c ≤ maxLen) (h : k < 0) :
    Calls Tryd.prog 32 #[.agg #[.int .i64 (p : Int), .int .i64 (g : Int), .slice a n c], .int .i64 k] w (ShGive w a n vs (⟨p, g, ls⟩, 3)) := by
  obtain ⟨W0, hW0⟩ : ∃ z : World, z = (w.alloc (.cells #[.int .i64 (p : Int), .int .i64 (g : Int), .slice a n c] 32)).alloc (.cells #[.int .i64 0, .int .i64 0, .slice none 0 0] 32) := ⟨_, rfl⟩
  have hk0 : Kept [] w W0 := by rw [hW0]; exact ((Kept.refl [] w).alloc _).alloc _
  have hb0 : Hid (ShIn W0 w.heap.size p g a n c) := hide (by rw [hW0]; exact (ShIn.new w p g a n c).kept ((Kept.refl [] _).alloc _) (by simp))
  have hz0 : Hid (ShIn W0 (w.heap.size + 1) 0 0 none 0 0) := hide (by rw [hW0]; exact heap_new_at (by simp))
  have hR := hide hr
  clear hr
  go_enter Tryd.func32, Tryd.ntmps32
  go_upto_region 1 with fail
  rw [← hW0]
  clear hW0
  obtain ⟨q0, q1, q2⟩ := hb0.out.at
  go_wp2_with (refine wpList_store_sh rfl rfl rfl (w.heap.size + 1) rfl hz0.out p g a n c rfl ?_; intro w7 hb7 hk7)
  refine bodyPost_ret (results_sh2 rfl rfl hb7 rfl) rfl ?_
  have hk := hk0.trans hk7 (by simp)
  exact ⟨a, n, c, vs, rfl, hR.out.kept hk (by simp) (by simp), hnc, hcm, hk, fun y hy => .inl hy, fun y hy => .inl hy⟩

set_option maxHeartbeats 4000000 in
theorem rDrop_past (p g : Nat) (a : Option Addr) (n c : Nat) (vs : List LnA) (ls : List Ln) (k : Int) (w : World) (hr : LnsR w a n vs ls) (hnc : n ≤ c) (hcm : c ≤ maxLen) (h : (n : Int) < k) :
    Calls Tryd.prog 32 #[.agg #[.int .i64 (p : Int), .int .i64 (g : Int), .slice a n c], .int .i64 k] w (ShGive w a n vs (⟨p, g, ls⟩, 3)) := by
  have hng : ¬ k < 0 := by omega
  obtain ⟨W0, hW0⟩ : ∃ z : World, z = (w.alloc (.cells #[.int .i64 (p : Int), .int .i64 (g : Int), .slice a n c] 32)).alloc (.cells #[.int .i64 0, .int .i64 0, .slice none 0 0] 32) := ⟨_, rfl⟩
  have hk0 : Kept [] w W0 := by rw [hW0]; exact ((Kept.refl [] w).alloc _).alloc _
  have hb0 : Hid (ShIn W0 w.heap.size p g a n c) := hide (by rw [hW0]; exact (ShIn.new w p g a n c).kept ((Kept.refl [] _).alloc _) (by simp))
  have hz0 : Hid (ShIn W0 (w.heap.size + 1) 0 0 none 0 0) := hide (by rw [hW0]; exact heap_new_at (by simp))
  have hR := hide hr
  clear hr
  go_enter Tryd.func32, Tryd.ntmps32
  go_upto_region 1 with fail
  rw [← hW0]
  clear hW0
  obtain ⟨q0, q1, q2⟩ := hb0.out.at
  go_wp2_with (refine wpList_store_sh rfl rfl rfl (w.heap.size + 1) rfl hz0.out p g a n c rfl ?_; intro w7 hb7 hk7)
  refine bodyPost_ret (results_sh2 rfl rfl hb7 rfl) rfl ?_
  have hk := hk0.trans hk7 (by simp)
  exact ⟨a, n, c, vs, rfl, hR.out.kept hk (by simp) (by simp), hnc, hcm, hk, fun y hy => .inl hy, fun y hy => .inl hy⟩

set_option maxHeartbeats 4000000 in
theorem rDrop_good (p g : Nat) (a : Option Addr) (n c : Nat) (vs : List LnA) (ls : List Ln) (d : Nat) (w : World) (hr : LnsR w a n vs ls) (hnc : n ≤ c) (hcm : c ≤ maxLen) (hd : d ≤ n) (hp : p ≤ 100000) (hle : g + n ≤ p) :
    Calls Tryd.prog 32 #[.agg #[.int .i64 (p : Int), .int .i64 (g : Int), .slice a n c], .int .i64 (d : Int)] w (ShGive w a n vs (⟨p, g + d, ls.drop d⟩, 0)) := by
  have hng : ¬ (d : Int) < 0 := by omega
  have hps : ¬ (n : Int) < (d : Int) := by omega
  have hw : IntKind.i64.wrap ((g : Int) + (d : Int)) = (g : Int) + (d : Int) := by rw [IntKind.wrap_i64]; omega
  obtain ⟨ax, cx, hx1, hx2, hcut, hcr⟩ := cutn_l a n c d hd hnc hcm
  obtain ⟨W0, hW0⟩ : ∃ z : World, z = (w.alloc (.cells #[.int .i64 (p : Int), .int .i64 (g : Int), .slice a n c] 32)).alloc (.cells #[.int .i64 0, .int .i64 0, .slice none 0 0] 32) := ⟨_, rfl⟩
  have hk0 : Kept [] w W0 := by rw [hW0]; exact ((Kept.refl [] w).alloc _).alloc _
  have hb0 : Hid (ShIn W0 w.heap.size p g a n c) := hide (by rw [hW0]; exact (ShIn.new w p g a n c).kept ((Kept.refl [] _).alloc _) (by simp))
  have hz0 : Hid (ShIn W0 (w.heap.size + 1) 0 0 none 0 0) := hide (by rw [hW0]; exact heap_new_at (by simp))
  have hR := hide hr
  have hcr := hide (fun w1 (hk : Kept [] W0 w1) => hcr w1 vs (hr.rd.kept (hk0.trans hk (by simp)) (by simp)))
  have hone := rowsV_oneCell rowLn (vs.drop d)
  have hs0 : w.heap.size + 1 < W0.heap.size := hz0.out.lt
  generalize hus : vs.drop d = us at *
  replace hus := hide hus
  have hnd : n - d ≤ 100000 := by omega
  generalize n - d = nd at *
  clear hr
  go_enter Tryd.func32, Tryd.ntmps32
  go_upto_region 1 with fail
  rw [← hW0]
  clear hW0
  obtain ⟨q0, q1, q2⟩ := hb0.out.at
  go_upto_region 3 with fail
  refine wp_region_held_drew (S := (fun w' => w'.cell? ⟨w.heap.size, 0, none⟩ = some (.int .i64 p) ∧ w'.cell? ⟨w.heap.size, 1, none⟩ = some (.int .i64 g) ∧ w'.cell? ⟨w.heap.size, 2, none⟩ = some (.slice a n c))) (by kernel_rfl) ?_ (fun hHeld => ?_)
  · (try dsimp only); (first | exact ⟨hk4.cell (hb0.out.kept k3 (by simp)).at.1 (by simp), hk4.cell (hb0.out.kept k3 (by simp)).at.2.1 (by simp), hk4.cell (hb0.out.kept k3 (by simp)).at.2.2 (by simp)⟩ | exact (hb0.out.kept k3 (by simp)).at | exact (hb0.out.kept (Kept.refl [] W0).drew (by simp)).at)
  refine wpAnyH_take (i := 0) (v := ?_) rfl (by kernel_rfl) (by kernel_rfl) (by kernel_rfl) (fun _ _ _ h => h) (Or.inl ⟨by rfl, ?_⟩) (by assumption) ?_
  rotate_left
  · (intro wq hSw; (try dsimp only at hSw); go_simp; try with_reducible rfl)
  try simp only [Act.put, List.getElem_toArray, List.getElem_cons_zero, List.setIfInBounds_toArray, List.set_cons_zero, List.set_cons_succ]
  refine wpAnyH_take (i := 1) (v := ?_) rfl (by kernel_rfl) (by kernel_rfl) (by kernel_rfl) (fun _ _ _ h => h) (Or.inl ⟨by rfl, ?_⟩) (by assumption) ?_
  rotate_left
  · (intro wq hSw; (try dsimp only at hSw); go_simp; try with_reducible rfl)
  try simp only [Act.put, List.getElem_toArray, List.getElem_cons_succ, List.getElem_cons_zero, List.setIfInBounds_toArray, List.set_cons_zero, List.set_cons_succ]
  refine wpAnyH_take (i := 2) (v := ?_) rfl (by kernel_rfl) (by kernel_rfl) (by kernel_rfl) (fun _ _ _ h => h) (Or.inl ⟨by rfl, ?_⟩) (by assumption) ?_
  rotate_left
  · (intro wq hSw; (try dsimp only at hSw); go_simp; try with_reducible rfl)
  try simp only [Act.put, List.getElem_toArray, List.getElem_cons_succ, List.getElem_cons_zero, List.setIfInBounds_toArray, List.set_cons_zero, List.set_cons_succ]
  refine wpAnyH_take (i := 3) (v := ?_) rfl (by kernel_rfl) (by kernel_rfl) (by kernel_rfl) (fun _ _ _ h => h) (Or.inl ⟨by rfl, ?_⟩) (by assumption) ?_
  rotate_left
  · (intro wq hSw; (try dsimp only at hSw); go_simp; try with_reducible rfl)
  try simp only [Act.put, List.getElem_toArray, List.getElem_cons_succ, List.getElem_cons_zero, List.setIfInBounds_toArray, List.set_cons_zero, List.set_cons_succ]
  refine wpAnyH_take (i := 4) (v := ?_) rfl (by kernel_rfl) (by kernel_rfl) (by kernel_rfl) (fun _ _ _ h => h) (Or.inl ⟨by rfl, ?_⟩) (by assumption) ?_
  rotate_left
  · (intro wq hSw; (try dsimp only at hSw); go_simp; try with_reducible rfl)
  try simp only [Act.put, List.getElem_toArray, List.getElem_cons_succ, List.getElem_cons_zero, List.setIfInBounds_toArray, List.set_cons_zero, List.set_cons_succ]
  refine wpAnyH_take (i := 5) (v := ?_) rfl (by kernel_rfl) (by kernel_rfl) (by kernel_rfl) (fun _ _ _ h => h) (Or.inl ⟨by rfl, ?_⟩) (by assumption) ?_
  rotate_left
  · (intro wq hSw; (try dsimp only at hSw); go_simp; try with_reducible rfl)
  try simp only [Act.put, List.getElem_toArray, List.getElem_cons_succ, List.getElem_cons_zero, List.setIfInBounds_toArray, List.set_cons_zero, List.set_cons_succ]
  refine wpAnyH_take (i := 6) (v := ?_) rfl (by kernel_rfl) (by kernel_rfl) (by kernel_rfl) (fun _ _ _ h => h) (Or.inl ⟨by rfl, ?_⟩) (by assumption) ?_
  rotate_left
  · (intro wq hSw; (try dsimp only at hSw); go_simp; try with_reducible rfl)
  try simp only [Act.put, List.getElem_toArray, List.getElem_cons_succ, List.getElem_cons_zero, List.setIfInBounds_toArray, List.set_cons_zero, List.set_cons_succ]
  refine wpAnyH_take (i := 7) (v := ?_) rfl (by kernel_rfl) (by kernel_rfl) (by kernel_rfl) (fun _ _ _ h => h) (Or.inl ⟨by rfl, ?_⟩) (by assumption) ?_
  rotate_left
  · (intro wq hSw; (try dsimp only at hSw); go_simp; try with_reducible rfl)
  try simp only [Act.put, List.getElem_toArray, List.getElem_cons_succ, List.getElem_cons_zero, List.setIfInBounds_toArray, List.set_cons_zero, List.set_cons_succ]
  refine wpAnyH_take (i := 8) (v := ?_) rfl (by kernel_rfl) (by kernel_rfl) (by kernel_rfl) (fun _ _ _ h => h) (Or.inl ⟨by rfl, ?_⟩) (by assumption) ?_
  rotate_left
  · (intro wq hSw; (try dsimp only at hSw); go_simp; try with_reducible rfl)
  try simp only [Act.put, List.getElem_toArray, List.getElem_cons_succ, List.getElem_cons_zero, List.setIfInBounds_toArray, List.set_cons_zero, List.set_cons_succ]
  refine wpAnyH_take (i := 9) (v := ?_) rfl (by kernel_rfl) (by kernel_rfl) (by kernel_rfl) (fun _ _ _ h => h) (Or.inl ⟨by rfl, ?_⟩) (by assumption) ?_
  rotate_left
  · (intro wq hSw; (try dsimp only at hSw); go_simp; try with_reducible rfl)
  try simp only [Act.put, List.getElem_toArray, List.getElem_cons_succ, List.getElem_cons_zero, List.setIfInBounds_toArray, List.set_cons_zero, List.set_cons_succ]
  refine wpAnyH_ready (rs := [10]) (by kernel_rfl) (by simp) ?_
  refine AllReadyH.cons rfl (fun K hK => ?_) AllReadyH.nil
  rw [if_pos (by rfl)]
  refine wp_app ?_ elLine rfl rfl (Own.nil W0.drew w.heap.size 35 2) rfl (hcr.out _ (Kept.refl [] W0).drew) hone (by omega) (by have := hk0.size; exact this); intro a3 c3 w3 ho3 hj3 hat3; rw [Nat.zero_add, List.nil_append] at ho3; have k3 : Kept [] W0 w3 := (Kept.refl [] W0).drew.trans hj3 (by simp [blk]); have hge3 : ∀ y ∈ blk a3, W0.heap.size ≤ y := fun y hy => by rcases hat3 y hy with h | h; exact absurd h (by simp [blk]); exact h
  refine hK.out _ _ ?_ (fun hHeld => ?_)
  · (try dsimp only); (first | exact ⟨hk4.cell (hb0.out.kept k3 (by simp)).at.1 (by simp), hk4.cell (hb0.out.kept k3 (by simp)).at.2.1 (by simp), hk4.cell (hb0.out.kept k3 (by simp)).at.2.2 (by simp)⟩ | exact (hb0.out.kept k3 (by simp)).at | exact (hb0.out.kept (Kept.refl [] W0).drew (by simp)).at)
  clear hK K
  try simp only [Act.put, List.getElem_toArray, List.getElem_cons_succ, List.getElem_cons_zero, List.setIfInBounds_toArray, List.set_cons_zero, List.set_cons_succ]
  refine wpAnyH_take (i := 11) (v := ?_) rfl (by kernel_rfl) (by kernel_rfl) (by kernel_rfl) (fun _ _ _ h => h) (Or.inl ⟨by rfl, ?_⟩) (by assumption) ?_
  rotate_left
  · (intro wq hSw; (try dsimp only at hSw); go_simp; try with_reducible rfl)
  try simp only [Act.put, List.getElem_toArray, List.getElem_cons_succ, List.getElem_cons_zero, List.setIfInBounds_toArray, List.set_cons_zero, List.set_cons_succ]
  refine wpAnyH_ready (rs := [12]) (by kernel_rfl) (by simp) ?_
  refine AllReadyH.cons rfl (fun K hK => ?_) AllReadyH.nil
  rw [if_pos (by rfl)]
  refine wp_store_sh rfl rfl (w.heap.size + 1) rfl (hz0.out.kept k3 (by simp)) p ((g : Int) + (d : Int)) a3 nd c3 rfl ?_; intro w4 hb4 hk4
  refine hK.out _ _ ?_ (fun hHeld => ?_)
  · (try dsimp only); (first | exact ⟨hk4.cell (hb0.out.kept k3 (by simp)).at.1 (by simp), hk4.cell (hb0.out.kept k3 (by simp)).at.2.1 (by simp), hk4.cell (hb0.out.kept k3 (by simp)).at.2.2 (by simp)⟩ | exact (hb0.out.kept k3 (by simp)).at | exact (hb0.out.kept (Kept.refl [] W0).drew (by simp)).at)
  clear hK K
  try simp only [Act.put, List.getElem_toArray, List.getElem_cons_succ, List.getElem_cons_zero, List.setIfInBounds_toArray, List.set_cons_zero, List.set_cons_succ]
  refine wpAnyH_take (i := 13) (v := ?_) rfl (by kernel_rfl) (by kernel_rfl) (by kernel_rfl) (fun _ _ _ h => h) (Or.inl ⟨by rfl, ?_⟩) (by assumption) ?_
  rotate_left
  · (intro wq hSw; (try dsimp only at hSw); go_simp; try with_reducible rfl)
  try simp only [Act.put, List.getElem_toArray, List.getElem_cons_succ, List.getElem_cons_zero, List.setIfInBounds_toArray, List.set_cons_zero, List.set_cons_succ]
  refine wpAnyH_done (by kernel_rfl) ?_ _
  go_wp2_with fail
  refine bodyPost_ret (results_sh2 rfl rfl hb4 rfl) rfl ?_
  have hk := (hk0.trans k3 (by simp)).trans hk4 (by simp)
  have ho4 := ho3.kept hk4 (fun y hy hm => by simp at hm; have := hge3 y hy; omega)
  refine ⟨a3, nd, c3, us, by push_cast; rfl, ⟨ho4.rd, ?_⟩, ho4.caps.1, ho4.caps.2, hk, fun y hy => .inr ?_, fun y hy => .inl ?_⟩
  · rw [← hus.out]
    exact (hR.out.at'.kept hk (by simp)).drop d
  · have := blkN_new hge3 y hy
    omega
  · rw [← hus.out] at hy
    exact blks_sub (fun v hv => List.mem_of_mem_drop hv) y hy

theorem rDrop_any (p g : Nat) (a : Option Addr) (n c : Nat) (vs : List LnA) (ls : List Ln) (k : Int) (w : World) (hr : LnsR w a n vs ls) (hnc : n ≤ c) (hcm : c ≤ maxLen) (hp : p ≤ 100000) (hle : g + n ≤ p) :
    Calls Tryd.prog 32 #[.agg #[.int .i64 (p : Int), .int .i64 (g : Int), .slice a n c], .int .i64 k] w (ShGive w a n vs (dropS ⟨p, g, ls⟩ k)) := by
  have hl := hr.len
  unfold dropS
  simp only
  by_cases h0 : k < 0
  · rw [if_pos (.inl h0)]
    exact rDrop_neg p g a n c vs ls k w hr hnc hcm h0
  · by_cases h1 : (n : Int) < k
    · rw [if_pos (.inr (by rw [hl]; exact h1))]
      exact rDrop_past p g a n c vs ls k w hr hnc hcm h1
    · rw [if_neg (by rw [hl]; omega)]
      obtain ⟨d, rfl⟩ : ∃ d : Nat, k = d := ⟨k.toNat, by omega⟩
      exact rDrop_good p g a n c vs ls d w hr hnc hcm (by omega) hp hle
theorem rPush_any (p g : Nat) (a : Option Addr) (n c : Nat) (vs : List LnA) (ls : List Ln) (a1 : Option Addr) (n1 c1 : Nat) (x : Ln) (w : World) (hr : LnsR w a n vs ls) (hnc : n ≤ c) (hcm : c ≤ maxLen) (hr1 : Rd w a1 n1 16 (cellsV x.l)) (hp : p ≤ 100000) (hle : g + n ≤ p) :
    Calls Tryd.prog 29 #[.agg #[.int .i64 (p : Int), .int .i64 (g : Int), .slice a n c], .agg #[.slice a1 n1 c1, .bool x.s]] w (ShGive w a n vs (pushS ⟨p, g, ls⟩ x)) := by
  have hl := hr.len
  unfold pushS
  cases hv : validL x.l with
  | false => simpa using rPush_bad p g a n c vs ls a1 n1 c1 x w hr hnc hcm hr1 hv
  | true =>
    rw [if_neg (by simp)]
    have hroom : (Sh.room ⟨p, g, ls⟩) = p - g - n := by unfold Sh.room; rw [hl]
    rw [hroom]
    by_cases h : p - g - n = 0
    · rw [if_pos h]
      exact rPush_full p g a n c vs ls a1 n1 c1 x w hr hnc hcm hr1 hv hp hle h
    · rw [if_neg h]
      exact rPush_good p g a n c vs ls a1 n1 c1 x w hr hr1 hv hp hle h
end Go.Proofs.YtpeedjknjjbabaaDoor
namespace Go.Proofs.YtpeedjknjjbabaaDoor
open Go.RowKit
set_option linter.unusedVariables false
set_option maxRecDepth 100000

theorem results_sh3 {fn : Func} {q u t : Tmp} {tmps : Array Value} {W : World} {b b2 : Nat} {p g : Int} {a : Option Addr} {n c : Nat} {a2 : Option Addr} {n2 c2 : Nat} {s2 : Bool} (h : fn.results = #[.cell q 32, .cell u 35, .tmp t]) (hp : tmps.getD q undef = .pointer (some ⟨b, 0, none⟩)) (hu : tmps.getD u undef = .pointer (some ⟨b2, 0, none⟩)) (hc : ShIn W b p g a n c) (hc2 : LinIn W b2 a2 n2 c2 s2) {v : Value} (ht : tmps.getD t undef = v) :
    (results fn tmps).run Tryd.prog W = .ok (.tuple #[.agg #[.int .i64 p, .int .i64 g, .slice a n c], .agg #[.slice a2 n2 c2, .bool s2], v]) W := by
  have hl := run_loadVar_mid (P := Tryd.prog) W b 0 32 (shL p g a n c) _ hc.range Tryd.underlying32 rfl (by kernel_rfl)
  have hl2 := run_loadVar_mid (P := Tryd.prog) W b2 0 35 (linL a2 n2 c2 s2) _ hc2.range Tryd.underlying35 rfl (by kernel_rfl)
  rw [Array.getD_eq_getD_getElem?] at hp hu ht
  simp [results, h, hp, hu, ht, asAddr, hl, hl2, shL, linL]
/-- What Pop returns: the page, the line, the number. -/
def ShGive3 (w : World) (a : Option Addr) (n : Nat) (vs : List LnA) (r : Sh × Ln × Int) (e : Ending) (w' : World) : Prop :=
  ∃ a' n' c' vs' v', e = .returned (.tuple #[.agg #[.int .i64 (r.1.places : Int), .int .i64 (r.1.gone : Int), .slice a' n' c'], .agg #[.slice v'.a v'.n v'.c, .bool v'.s], .int .i64 r.2.2]) ∧ LnsR w' a' n' vs' r.1.ls ∧ n' ≤ c' ∧ c' ≤ maxLen ∧ LnAt w' v' r.2.1 ∧ Kept [] w w' ∧ (∀ x ∈ blkN a' n', x ∈ blkN a n ∨ w.heap.size ≤ x) ∧ (∀ x ∈ blks vs', x ∈ blks vs ∨ w.heap.size ≤ x) ∧ ∀ x ∈ blkN v'.a v'.n, x ∈ blks vs

set_option maxHeartbeats 4000000 in
theorem rPop_none (p g : Nat) (a : Option Addr) (n c : Nat) (vs : List LnA) (ls : List Ln) (w : World) (hr : LnsR w a n vs ls) (hnc : n ≤ c) (hcm : c ≤ maxLen) (h : n = 0) :
    Calls Tryd.prog 33 #[.agg #[.int .i64 (p : Int), .int .i64 (g : Int), .slice a n c]] w (ShGive3 w a n vs (⟨p, g, ls⟩, noLn, 9)) := by
  subst h
  obtain ⟨W0, hW0⟩ : ∃ z : World, z = ((w.alloc (.cells #[.int .i64 (p : Int), .int .i64 (g : Int), .slice a 0 c] 32)).alloc (.cells #[.int .i64 0, .int .i64 0, .slice none 0 0] 32)).alloc (.cells #[.slice none 0 0, .bool false] 35) := ⟨_, rfl⟩
  have hk0 : Kept [] w W0 := by rw [hW0]; exact (((Kept.refl [] w).alloc _).alloc _).alloc _
  have hb0 : Hid (ShIn W0 w.heap.size p g a 0 c) := hide (by rw [hW0]; exact (ShIn.new w p g a 0 c).kept (((Kept.refl [] _).alloc _).alloc _) (by simp))
  have hz0 : Hid (ShIn W0 (w.heap.size + 1) 0 0 none 0 0) := hide (by rw [hW0]; exact ShIn.kept (heap_new_at (by simp)) ((Kept.refl [] _).alloc _) (by simp))
  have hy0 : Hid (LinIn W0 (w.heap.size + 1 + 1) none 0 0 false) := hide (by rw [hW0]; exact heap_new_at (by simp))
  have hR := hide hr
  clear hr
  go_enter Tryd.func33, Tryd.ntmps33
  go_upto_region 1 with fail
  rw [← hW0]
  clear hW0
  obtain ⟨q0, q1, q2⟩ := hb0.out.at
  go_wp2_with (first | refine wpList_store_lin rfl rfl rfl (w.heap.size + 1 + 1) rfl (hy0.out.kept hk7 (by simp)) none 0 0 false rfl ?_; intro w8 hb8 hk8 | refine wpList_store_sh rfl rfl rfl (w.heap.size + 1) rfl hz0.out p g a 0 c rfl ?_; intro w7 hb7 hk7)
  refine bodyPost_ret (results_sh3 rfl rfl rfl (hb7.kept hk8 (by simp)) hb8 rfl) rfl ?_
  have hk := (hk0.trans hk7 (by simp)).trans hk8 (by intro y hy; simp at hy; omega)
  exact ⟨a, 0, c, vs, noA, rfl, hR.out.kept hk (by simp) (by simp), hnc, hcm, noA_at _, hk, fun y hy => .inl hy, fun y hy => .inl hy, fun y hy => by simp [blkN, noA] at hy⟩

set_option maxHeartbeats 4000000 in
theorem rPop_good (p g : Nat) (b o J c : Nat) (vs : List LnA) (ls : List Ln) (w : World) (hr : LnsR w (some ⟨b, o, none⟩) (J + 1) vs ls) (hnc : J + 1 ≤ c) (hcm : c ≤ maxLen) (hJ : J + 1 ≤ 100000) :
    Calls Tryd.prog 33 #[.agg #[.int .i64 (p : Int), .int .i64 (g : Int), .slice (some ⟨b, o, none⟩) (J + 1) c]] w (ShGive3 w (some ⟨b, o, none⟩) (J + 1) vs (⟨p, g, ls.dropLast⟩, ls.getLastD noLn, 0)) := by
  obtain ⟨W0, hW0⟩ : ∃ z : World, z = ((w.alloc (.cells #[.int .i64 (p : Int), .int .i64 (g : Int), .slice (some ⟨b, o, none⟩) (J + 1) c] 32)).alloc (.cells #[.int .i64 0, .int .i64 0, .slice none 0 0] 32)).alloc (.cells #[.slice none 0 0, .bool false] 35) := ⟨_, rfl⟩
  have hk0 : Kept [] w W0 := by rw [hW0]; exact (((Kept.refl [] w).alloc _).alloc _).alloc _
  have hb0 : Hid (ShIn W0 w.heap.size p g (some ⟨b, o, none⟩) (J + 1) c) := hide (by rw [hW0]; exact (ShIn.new w p g (some ⟨b, o, none⟩) (J + 1) c).kept (((Kept.refl [] _).alloc _).alloc _) (by simp))
  have hz0 : Hid (ShIn W0 (w.heap.size + 1) 0 0 none 0 0) := hide (by rw [hW0]; exact ShIn.kept (heap_new_at (by simp)) ((Kept.refl [] _).alloc _) (by simp))
  have hy0 : Hid (LinIn W0 (w.heap.size + 1 + 1) none 0 0 false) := hide (by rw [hW0]; exact heap_new_at (by simp))
  have hblt : b < w.heap.size := hr.rd.lt (by intro h0; have := hr.rd.1; rw [h0] at this; simp at this) b (by simp [blk])
  have hvl := hr.vlen
  have hll := hr.len
  have hJv : J < vs.length := by omega
  have hJl : J < ls.length := by omega
  have hlast : Hid (ls.getLastD noLn = ls[J]) := hide (by rw [List.getLastD_eq_getLast?, List.getLast?_eq_getElem?, hll]; simp [hJl])
  have hinit : Hid (ls.dropLast = ls.take J) := hide (by rw [List.dropLast_eq_take, hll]; rfl)
  have hrow := hide (fun w1 (hk : Kept [] W0 w1) => (hr.rd.kept (hk0.trans hk (by simp)) (by simp)).row rowLn J hJv)
  have hat := hide (hr.at'.get J hJv hJl)
  have hmem := hide (show vs[J] ∈ vs from List.getElem_mem hJv)
  obtain ⟨ax, cx, hx1, hx2, hcut, hcr⟩ := cutn_h (some ⟨b, o, none⟩) (J + 1) c J (by omega) hnc hcm
  have hcr := hide (fun w1 (hk : Kept [] W0 w1) => hcr w1 vs (hr.rd.kept (hk0.trans hk (by simp)) (by simp)))
  have hone := rowsV_oneCell rowLn (vs.take J)
  have hs0 : w.heap.size + 1 + 1 < W0.heap.size := hy0.out.lt
  have hR := hide hr
  generalize vs[J] = v at *
  generalize ls[J] = y at *
  generalize hus : vs.take J = us at *
  replace hus := hide hus
  have e1 : IntKind.i64.wrap (J : Int) = (J : Int) := by rw [IntKind.wrap_i64]; omega
  have e2 : (((J : Int) + 1) == 0) = false := by simp; omega
  have e3 : (J : Int) < (J : Int) + 1 := by omega
  clear hr hvl hll hJv hJl
  go_enter Tryd.func33, Tryd.ntmps33
  go_upto_region 1 with fail
  rw [← hW0]
  clear hW0
  obtain ⟨q0, q1, q2⟩ := hb0.out.at
  go_upto_region 4 with fail
  clear q0 q1 q2
  have hF : ∀ {w' : World}, Kept [] W0 w' → (w'.cell? ⟨w.heap.size, 0, none⟩ = some (.int .i64 p) ∧ w'.cell? ⟨w.heap.size, 1, none⟩ = some (.int .i64 g) ∧ w'.cell? ⟨w.heap.size, 2, none⟩ = some (.slice (some ⟨b, o, none⟩) (J + 1) c)) ∧ w'.rangeAt b (o + J * 2) (lnV v) := fun hk => ⟨(hb0.out.kept hk (by simp)).at, hrow.out _ hk⟩
  have hG : ∀ {w' w2 : World} {z : Nat}, ((w'.cell? ⟨w.heap.size, 0, none⟩ = some (.int .i64 p) ∧ w'.cell? ⟨w.heap.size, 1, none⟩ = some (.int .i64 g) ∧ w'.cell? ⟨w.heap.size, 2, none⟩ = some (.slice (some ⟨b, o, none⟩) (J + 1) c)) ∧ w'.rangeAt b (o + J * 2) (lnV v)) → Kept [z] w' w2 → w.heap.size ≠ z → b ≠ z → ((w2.cell? ⟨w.heap.size, 0, none⟩ = some (.int .i64 p) ∧ w2.cell? ⟨w.heap.size, 1, none⟩ = some (.int .i64 g) ∧ w2.cell? ⟨w.heap.size, 2, none⟩ = some (.slice (some ⟨b, o, none⟩) (J + 1) c)) ∧ w2.rangeAt b (o + J * 2) (lnV v)) := fun h hk h1 h2 => ⟨⟨hk.cell h.1.1 (by simpa using h1), hk.cell h.1.2.1 (by simpa using h1), hk.cell h.1.2.2 (by simpa using h1)⟩, fun j q hq => hk.cell (h.2 j q hq) (by simpa using h2)⟩
  refine wp_region_held_drew (S := (fun w' => (w'.cell? ⟨w.heap.size, 0, none⟩ = some (.int .i64 p) ∧ w'.cell? ⟨w.heap.size, 1, none⟩ = some (.int .i64 g) ∧ w'.cell? ⟨w.heap.size, 2, none⟩ = some (.slice (some ⟨b, o, none⟩) (J + 1) c)) ∧ w'.rangeAt b (o + J * 2) (lnV v))) (by kernel_rfl) ?_ (fun hHeld => ?_)
  · (try dsimp only); (first | exact hF6 | exact hF5 | exact hF k4 | exact hF k3 | exact hF (Kept.refl [] W0).drew)
  refine wpAnyH_take (i := 0) (v := ?_) rfl (by kernel_rfl) (by kernel_rfl) (by kernel_rfl) (fun _ _ _ h => h) (Or.inl ⟨by rfl, ?_⟩) (by assumption) ?_
  rotate_left
  · (intro wq hSw; (try dsimp only at hSw); go_simp; try with_reducible rfl)
  try simp only [Act.put, List.getElem_toArray, List.getElem_cons_zero, List.setIfInBounds_toArray, List.set_cons_zero, List.set_cons_succ]
  refine wpAnyH_take (i := 1) (v := ?_) rfl (by kernel_rfl) (by kernel_rfl) (by kernel_rfl) (fun _ _ _ h => h) (Or.inl ⟨by rfl, ?_⟩) (by assumption) ?_
  rotate_left
  · (intro wq hSw; (try dsimp only at hSw); go_simp; try with_reducible rfl)
  try simp only [Act.put, List.getElem_toArray, List.getElem_cons_succ, List.getElem_cons_zero, List.setIfInBounds_toArray, List.set_cons_zero, List.set_cons_succ]
  refine wpAnyH_take (i := 2) (v := ?_) rfl (by kernel_rfl) (by kernel_rfl) (by kernel_rfl) (fun _ _ _ h => h) (Or.inl ⟨by rfl, ?_⟩) (by assumption) ?_
  rotate_left
  · (intro wq hSw; (try dsimp only at hSw); go_simp; try with_reducible rfl)
  try simp only [Act.put, List.getElem_toArray, List.getElem_cons_succ, List.getElem_cons_zero, List.setIfInBounds_toArray, List.set_cons_zero, List.set_cons_succ]
  refine wpAnyH_take (i := 3) (v := ?_) rfl (by kernel_rfl) (by kernel_rfl) (by kernel_rfl) (fun _ _ _ h => h) (Or.inl ⟨by rfl, ?_⟩) (by assumption) ?_
  rotate_left
  · (intro wq hSw; (try dsimp only at hSw); go_simp; try with_reducible rfl)
  try simp only [Act.put, List.getElem_toArray, List.getElem_cons_succ, List.getElem_cons_zero, List.setIfInBounds_toArray, List.set_cons_zero, List.set_cons_succ]
  refine wpAnyH_take (i := 4) (v := ?_) rfl (by kernel_rfl) (by kernel_rfl) (by kernel_rfl) (fun _ _ _ h => h) (Or.inl ⟨by rfl, ?_⟩) (by assumption) ?_
  rotate_left
  · (intro wq hSw; (try dsimp only at hSw); go_simp; try with_reducible rfl)
  try simp only [Act.put, List.getElem_toArray, List.getElem_cons_succ, List.getElem_cons_zero, List.setIfInBounds_toArray, List.set_cons_zero, List.set_cons_succ]
  refine wpAnyH_take (i := 5) (v := ?_) rfl (by kernel_rfl) (by kernel_rfl) (by kernel_rfl) (fun _ _ _ h => h) (Or.inl ⟨by rfl, ?_⟩) (by assumption) ?_
  rotate_left
  · (intro wq hSw; (try dsimp only at hSw); go_simp; try with_reducible rfl)
  try simp only [Act.put, List.getElem_toArray, List.getElem_cons_succ, List.getElem_cons_zero, List.setIfInBounds_toArray, List.set_cons_zero, List.set_cons_succ]
  refine wpAnyH_take (i := 8) (v := ?_) rfl (by kernel_rfl) (by kernel_rfl) (by kernel_rfl) (fun _ _ _ h => h) (Or.inl ⟨by rfl, ?_⟩) (by assumption) ?_
  rotate_left
  · (intro wq hSw; (try dsimp only at hSw); go_simp; try with_reducible rfl)
  try simp only [Act.put, List.getElem_toArray, List.getElem_cons_succ, List.getElem_cons_zero, List.setIfInBounds_toArray, List.set_cons_zero, List.set_cons_succ]
  refine wpAnyH_take (i := 9) (v := ?_) rfl (by kernel_rfl) (by kernel_rfl) (by kernel_rfl) (fun _ _ _ h => h) (Or.inl ⟨by rfl, ?_⟩) (by assumption) ?_
  rotate_left
  · (intro wq hSw; (try dsimp only at hSw); go_simp; try with_reducible rfl)
  try simp only [Act.put, List.getElem_toArray, List.getElem_cons_succ, List.getElem_cons_zero, List.setIfInBounds_toArray, List.set_cons_zero, List.set_cons_succ]
  refine wpAnyH_take (i := 10) (v := ?_) rfl (by kernel_rfl) (by kernel_rfl) (by kernel_rfl) (fun _ _ _ h => h) (Or.inl ⟨by rfl, ?_⟩) (by assumption) ?_
  rotate_left
  · (intro wq hSw; (try dsimp only at hSw); go_simp; try with_reducible rfl)
  try simp only [Act.put, List.getElem_toArray, List.getElem_cons_succ, List.getElem_cons_zero, List.setIfInBounds_toArray, List.set_cons_zero, List.set_cons_succ]
  refine wpAnyH_take (i := 11) (v := ?_) rfl (by kernel_rfl) (by kernel_rfl) (by kernel_rfl) (fun _ _ _ h => h) (Or.inl ⟨by rfl, ?_⟩) (by assumption) ?_
  rotate_left
  · (intro wq hSw; (try dsimp only at hSw); go_simp; try with_reducible rfl)
  try simp only [Act.put, List.getElem_toArray, List.getElem_cons_succ, List.getElem_cons_zero, List.setIfInBounds_toArray, List.set_cons_zero, List.set_cons_succ]
  refine wpAnyH_take (i := 12) (v := ?_) rfl (by kernel_rfl) (by kernel_rfl) (by kernel_rfl) (fun _ _ _ h => h) (Or.inl ⟨by rfl, ?_⟩) (by assumption) ?_
  rotate_left
  · (intro wq hSw; (try dsimp only at hSw); go_simp; try with_reducible rfl)
  try simp only [Act.put, List.getElem_toArray, List.getElem_cons_succ, List.getElem_cons_zero, List.setIfInBounds_toArray, List.set_cons_zero, List.set_cons_succ]
  refine wpAnyH_take (i := 13) (v := (.agg #[.slice v.a v.n v.c, .bool v.s])) rfl (by kernel_rfl) (by kernel_rfl) (by kernel_rfl) (fun _ _ _ h => h) (yieldsIf_load_mid (by rfl) 35 _ rfl b (o + J * 2) rfl (lnV v) _ (fun _ h => h.2) Tryd.underlying35 rfl (by kernel_rfl)) (by assumption) ?_
  try simp only [Act.put, List.getElem_toArray, List.getElem_cons_succ, List.getElem_cons_zero, List.setIfInBounds_toArray, List.set_cons_zero, List.set_cons_succ]
  refine wpAnyH_ready (rs := [6]) (by kernel_rfl) (by simp) ?_
  refine AllReadyH.cons rfl (fun K hK => ?_) AllReadyH.nil
  rw [if_pos (by rfl)]
  refine wp_app ?_ elLine rfl rfl (Own.nil W0.drew w.heap.size 35 2) rfl (hcr.out _ (Kept.refl [] W0).drew) hone (by omega) (by have := hk0.size; exact this); intro a3 c3 w3 ho3 hj3 hat3; rw [Nat.zero_add, List.nil_append] at ho3; have k3 : Kept [] W0 w3 := (Kept.refl [] W0).drew.trans hj3 (by simp [blk]); have hge3 : ∀ y ∈ blk a3, W0.heap.size ≤ y := fun y hy => by rcases hat3 y hy with h | h; exact absurd h (by simp [blk]); exact h
  refine hK.out _ _ ?_ (fun hHeld => ?_)
  · (try dsimp only); (first | exact hF6 | exact hF5 | exact hF k4 | exact hF k3 | exact hF (Kept.refl [] W0).drew)
  clear hK K
  try simp only [Act.put, List.getElem_toArray, List.getElem_cons_succ, List.getElem_cons_zero, List.setIfInBounds_toArray, List.set_cons_zero, List.set_cons_succ]
  refine wpAnyH_ready (rs := [7]) (by kernel_rfl) (by simp) ?_
  refine AllReadyH.cons rfl (fun K hK => ?_) AllReadyH.nil
  go_simp
  refine (rWith_any p g (some ⟨b, o, none⟩) (J + 1) c a3 J c3 w3).mono ?_; rintro e w4 ⟨rfl, hj4⟩; have k4 : Kept [] W0 w4 := k3.trans hj4 (by simp)
  try go_wp2_with fail
  refine hK.out _ _ ?_ (fun hHeld => ?_)
  · (try dsimp only); (first | exact hF6 | exact hF5 | exact hF k4 | exact hF k3 | exact hF (Kept.refl [] W0).drew)
  clear hK K
  try simp only [Act.put, List.getElem_toArray, List.getElem_cons_succ, List.getElem_cons_zero, List.setIfInBounds_toArray, List.set_cons_zero, List.set_cons_succ]
  refine wpAnyH_ready (rs := [14]) (by kernel_rfl) (by simp) ?_
  refine AllReadyH.cons rfl (fun K hK => ?_) AllReadyH.nil
  rw [if_pos (by rfl)]
  refine wp_store_sh rfl rfl (w.heap.size + 1) rfl (hz0.out.kept k4 (by simp)) p g a3 J c3 rfl ?_; intro w5 hb5 hk5; have hF5 := hG (hF k4) hk5 (by omega) (by omega)
  refine hK.out _ _ ?_ (fun hHeld => ?_)
  · (try dsimp only); (first | exact hF6 | exact hF5 | exact hF k4 | exact hF k3 | exact hF (Kept.refl [] W0).drew)
  clear hK K
  try simp only [Act.put, List.getElem_toArray, List.getElem_cons_succ, List.getElem_cons_zero, List.setIfInBounds_toArray, List.set_cons_zero, List.set_cons_succ]
  refine wpAnyH_ready (rs := [15]) (by kernel_rfl) (by simp) ?_
  refine AllReadyH.cons rfl (fun K hK => ?_) AllReadyH.nil
  rw [if_pos (by rfl)]
  refine wp_store_lin rfl rfl (w.heap.size + 1 + 1) rfl ((hy0.out.kept k4 (by simp)).kept hk5 (by simp)) v.a v.n v.c v.s rfl ?_; intro w6 hb6 hk6; have hF6 := hG hF5 hk6 (by omega) (by omega)
  refine hK.out _ _ ?_ (fun hHeld => ?_)
  · (try dsimp only); (first | exact hF6 | exact hF5 | exact hF k4 | exact hF k3 | exact hF (Kept.refl [] W0).drew)
  clear hK K
  try simp only [Act.put, List.getElem_toArray, List.getElem_cons_succ, List.getElem_cons_zero, List.setIfInBounds_toArray, List.set_cons_zero, List.set_cons_succ]
  refine wpAnyH_take (i := 16) (v := ?_) rfl (by kernel_rfl) (by kernel_rfl) (by kernel_rfl) (fun _ _ _ h => h) (Or.inl ⟨by rfl, ?_⟩) (by assumption) ?_
  rotate_left
  · (intro wq hSw; (try dsimp only at hSw); go_simp; try with_reducible rfl)
  try simp only [Act.put, List.getElem_toArray, List.getElem_cons_succ, List.getElem_cons_zero, List.setIfInBounds_toArray, List.set_cons_zero, List.set_cons_succ]
  refine wpAnyH_done (by kernel_rfl) ?_ _
  go_wp2_with fail
  refine bodyPost_ret (results_sh3 rfl rfl rfl (hb5.kept hk6 (by simp)) hb6 rfl) rfl ?_
  have hk45 := (hk0.trans k4 (by simp)).trans hk5 (by simp)
  have hk := hk45.trans hk6 (by intro z hz; simp at hz; omega)
  have ho6 := ((ho3.kept hj4 (by simp)).kept hk5 (fun z hz hm => by simp at hm; have := hge3 z hz; omega)).kept hk6 (fun z hz hm => by simp at hm; have := hge3 z hz; omega)
  refine ⟨a3, J, c3, us, v, rfl, ⟨ho6.rd, ?_⟩, ho6.caps.1, ho6.caps.2, ?_, hk, fun z hz => .inr ?_, fun z hz => .inl ?_, fun z hz => blks_mem hmem.out z hz⟩
  · show LnsAt w6 us ls.dropLast
    rw [← hus.out, hinit.out]
    exact (hR.out.at'.kept hk (by simp)).take J
  · show LnAt w6 v (ls.getLastD noLn)
    rw [hlast.out]
    exact hat.out.kept hk (by simp)
  · have := blkN_new hge3 z hz
    omega
  · rw [← hus.out] at hz
    exact blks_sub (fun x hx => List.mem_of_mem_take hx) z hz

theorem rPop_any (p g : Nat) (a : Option Addr) (n c : Nat) (vs : List LnA) (ls : List Ln) (w : World) (hr : LnsR w a n vs ls) (hnc : n ≤ c) (hcm : c ≤ maxLen) (hp : n ≤ 100000) :
    Calls Tryd.prog 33 #[.agg #[.int .i64 (p : Int), .int .i64 (g : Int), .slice a n c]] w (ShGive3 w a n vs (popS ⟨p, g, ls⟩)) := by
  have hl := hr.len
  unfold popS
  simp only
  by_cases h : n = 0
  · have : ls = [] := List.eq_nil_of_length_eq_zero (by omega)
    rw [if_pos this]
    exact rPop_none p g a n c vs ls w hr hnc hcm h
  · have : ls ≠ [] := fun h0 => h (by rw [← hl, h0]; rfl)
    rw [if_neg this]
    obtain ⟨J, rfl⟩ : ∃ J, n = J + 1 := ⟨n - 1, by omega⟩
    obtain ⟨b, o, rfl⟩ := hr.rd.rowAddr rowLn (by rw [hr.vlen]; omega)
    exact rPop_good p g b o J c vs ls w hr hnc hcm hp
end Go.Proofs.YtpeedjknjjbabaaDoor
namespace Go.Proofs.YtpeedjknjjbabaaDoor
open Go.RowKit
set_option linter.unusedVariables false
set_option maxRecDepth 100000

set_option maxHeartbeats 4000000 in
theorem rSet_bad (p g : Nat) (a : Option Addr) (n c : Nat) (vs : List LnA) (ls : List Ln) (k : Int) (a1 : Option Addr) (n1 c1 : Nat) (x : Ln) (w : World) (hr : LnsR w a n vs ls) (hnc : n ≤ c) (hcm : c ≤ maxLen) (hr1 : Rd w a1 n1 16 (cellsV x.l)) (hv : validL x.l = false) :
    Calls Tryd.prog 31 #[.agg #[.int .i64 (p : Int), .int .i64 (g : Int), .slice a n c], .int .i64 k, .agg #[.slice a1 n1 c1, .bool x.s]] w (ShGive w a n vs (⟨p, g, ls⟩, 2)) := by
  obtain ⟨W0, hW0⟩ : ∃ z : World, z = ((w.alloc (.cells #[.int .i64 (p : Int), .int .i64 (g : Int), .slice a n c] 32)).alloc (.cells #[.slice a1 n1 c1, .bool x.s] 35)).alloc (.cells #[.int .i64 0, .int .i64 0, .slice none 0 0] 32) := ⟨_, rfl⟩
  have hk0 : Kept [] w W0 := by rw [hW0]; exact (((Kept.refl [] w).alloc _).alloc _).alloc _
  have hb0 : Hid (ShIn W0 w.heap.size p g a n c) := hide (by rw [hW0]; exact (ShIn.new w p g a n c).kept (((Kept.refl [] _).alloc _).alloc _) (by simp))
  have hl0 : Hid (LinIn W0 (w.heap.size + 1) a1 n1 c1 x.s) := hide (by rw [hW0]; exact LinIn.kept (heap_new_at (by simp)) ((Kept.refl [] _).alloc _) (by simp))
  have hz0 : Hid (ShIn W0 (w.heap.size + 1 + 1) 0 0 none 0 0) := hide (by rw [hW0]; exact heap_new_at (by simp))
  have hV := hide (rValid6_any a1 n1 c1 x.s x.l W0 (hr1.kept hk0 (by simp)))
  rw [hv] at hV
  have hR := hide hr
  clear hr hr1 hv
  go_enter Tryd.func31, Tryd.ntmps31
  go_upto_region 1 with fail
  rw [← hW0]
  clear hW0
  obtain ⟨q0, q1⟩ := hl0.out.at
  go_wp2_with fail
  refine hV.out.mono ?_
  rintro e w1 ⟨rfl, hk1⟩
  clear q0 q1
  obtain ⟨q0, q1, q2⟩ := (hb0.out.kept hk1 (by simp)).at
  go_wp2_with (refine wpList_store_sh rfl rfl rfl (w.heap.size + 1 + 1) rfl (hz0.out.kept hk1 (by simp)) p g a n c rfl ?_; intro w7 hb7 hk7)
  refine bodyPost_ret (results_sh2 rfl rfl hb7 rfl) rfl ?_
  have hk := (hk0.trans hk1 (by simp)).trans hk7 (by intro y hy; simp at hy; omega)
  exact ⟨a, n, c, vs, rfl, hR.out.kept hk (by simp) (by simp), hnc, hcm, hk, fun y hy => .inl hy, fun y hy => .inl hy⟩

set_option maxHeartbeats 4000000 in
theorem rSet_neg (p g : Nat) (a : Option Addr) (n c : Nat) (vs : List LnA) (ls : List Ln) (k : Int) (a1 : Option Addr) (n1 c1 : Nat) (x : Ln) (w : World) (hr : LnsR w a n vs ls) (hnc : n ≤ c) (hcm : c ≤ maxLen) (hr1 : Rd w a1 n1 16 (cellsV x.l)) (hv : validL x.l = true) (h : k < 0) :
    Calls Tryd.prog 31 #[.agg #[.int .i64 (p : Int), .int .i64 (g : Int), .slice a n c], .int .i64 k, .agg #[.slice a1 n1 c1, .bool x.s]] w (ShGive w a n vs (⟨p, g, ls⟩, 3)) := by
  obtain ⟨W0, hW0⟩ : ∃ z : World, z = ((w.alloc (.cells #[.int .i64 (p : Int), .int .i64 (g : Int), .slice a n c] 32)).alloc (.cells #[.slice a1 n1 c1, .bool x.s] 35)).alloc (.cells #[.int .i64 0, .int .i64 0, .slice none 0 0] 32) := ⟨_, rfl⟩
  have hk0 : Kept [] w W0 := by rw [hW0]; exact (((Kept.refl [] w).alloc _).alloc _).alloc _
  have hb0 : Hid (ShIn W0 w.heap.size p g a n c) := hide (by rw [hW0]; exact (ShIn.new w p g a n c).kept (((Kept.refl [] _).alloc _).alloc _) (by simp))
  have hl0 : Hid (LinIn W0 (w.heap.size + 1) a1 n1 c1 x.s) := hide (by rw [hW0]; exact LinIn.kept (heap_new_at (by simp)) ((Kept.refl [] _).alloc _) (by simp))
  have hz0 : Hid (ShIn W0 (w.heap.size + 1 + 1) 0 0 none 0 0) := hide (by rw [hW0]; exact heap_new_at (by simp))
  have hV := hide (rValid6_any a1 n1 c1 x.s x.l W0 (hr1.kept hk0 (by simp)))
  rw [hv] at hV
  have hR := hide hr
  clear hr hr1 hv
  go_enter Tryd.func31, Tryd.ntmps31
  go_upto_region 1 with fail
  rw [← hW0]
  clear hW0
  obtain ⟨q0, q1⟩ := hl0.out.at
  go_wp2_with fail
  refine hV.out.mono ?_
  rintro e w1 ⟨rfl, hk1⟩
  clear q0 q1
  obtain ⟨q0, q1, q2⟩ := (hb0.out.kept hk1 (by simp)).at
  go_wp2_with (refine wpList_store_sh rfl rfl rfl (w.heap.size + 1 + 1) rfl (hz0.out.kept hk1 (by simp)) p g a n c rfl ?_; intro w7 hb7 hk7)
  refine bodyPost_ret (results_sh2 rfl rfl hb7 rfl) rfl ?_
  have hk := (hk0.trans hk1 (by simp)).trans hk7 (by intro y hy; simp at hy; omega)
  exact ⟨a, n, c, vs, rfl, hR.out.kept hk (by simp) (by simp), hnc, hcm, hk, fun y hy => .inl hy, fun y hy => .inl hy⟩

set_option maxHeartbeats 4000000 in
theorem rSet_past (p g : Nat) (a : Option Addr) (n c : Nat) (vs : List LnA) (ls : List Ln) (k : Int) (a1 : Option Addr) (n1 c1 : Nat) (x : Ln) (w : World) (hr : LnsR w a n vs ls) (hnc : n ≤ c) (hcm : c ≤ maxLen) (hr1 : Rd w a1 n1 16 (cellsV x.l)) (hv : validL x.l = true) (h0 : ¬ k < 0) (h : (n : Int) ≤ k) :
    Calls Tryd.prog 31 #[.agg #[.int .i64 (p : Int), .int .i64 (g : Int), .slice a n c], .int .i64 k, .agg #[.slice a1 n1 c1, .bool x.s]] w (ShGive w a n vs (⟨p, g, ls⟩, 3)) := by
  obtain ⟨W0, hW0⟩ : ∃ z : World, z = ((w.alloc (.cells #[.int .i64 (p : Int), .int .i64 (g : Int), .slice a n c] 32)).alloc (.cells #[.slice a1 n1 c1, .bool x.s] 35)).alloc (.cells #[.int .i64 0, .int .i64 0, .slice none 0 0] 32) := ⟨_, rfl⟩
  have hk0 : Kept [] w W0 := by rw [hW0]; exact (((Kept.refl [] w).alloc _).alloc _).alloc _
  have hb0 : Hid (ShIn W0 w.heap.size p g a n c) := hide (by rw [hW0]; exact (ShIn.new w p g a n c).kept (((Kept.refl [] _).alloc _).alloc _) (by simp))
  have hl0 : Hid (LinIn W0 (w.heap.size + 1) a1 n1 c1 x.s) := hide (by rw [hW0]; exact LinIn.kept (heap_new_at (by simp)) ((Kept.refl [] _).alloc _) (by simp))
  have hz0 : Hid (ShIn W0 (w.heap.size + 1 + 1) 0 0 none 0 0) := hide (by rw [hW0]; exact heap_new_at (by simp))
  have hV := hide (rValid6_any a1 n1 c1 x.s x.l W0 (hr1.kept hk0 (by simp)))
  rw [hv] at hV
  have hR := hide hr
  clear hr hr1 hv
  go_enter Tryd.func31, Tryd.ntmps31
  go_upto_region 1 with fail
  rw [← hW0]
  clear hW0
  obtain ⟨q0, q1⟩ := hl0.out.at
  go_wp2_with fail
  refine hV.out.mono ?_
  rintro e w1 ⟨rfl, hk1⟩
  clear q0 q1
  obtain ⟨q0, q1, q2⟩ := (hb0.out.kept hk1 (by simp)).at
  go_wp2_with (refine wpList_store_sh rfl rfl rfl (w.heap.size + 1 + 1) rfl (hz0.out.kept hk1 (by simp)) p g a n c rfl ?_; intro w7 hb7 hk7)
  refine bodyPost_ret (results_sh2 rfl rfl hb7 rfl) rfl ?_
  have hk := (hk0.trans hk1 (by simp)).trans hk7 (by intro y hy; simp at hy; omega)
  exact ⟨a, n, c, vs, rfl, hR.out.kept hk (by simp) (by simp), hnc, hcm, hk, fun y hy => .inl hy, fun y hy => .inl hy⟩

set_option maxHeartbeats 4000000 in
theorem rSet_good (p g : Nat) (a : Option Addr) (n c : Nat) (vs : List LnA) (ls : List Ln) (d : Nat) (a1 : Option Addr) (n1 c1 : Nat) (x : Ln) (w : World) (hr : LnsR w a n vs ls) (hnc : n ≤ c) (hcm : c ≤ maxLen) (hr1 : Rd w a1 n1 16 (cellsV x.l)) (hv : validL x.l = true) (hd : d < n) (hn : n ≤ 100000) :
    Calls Tryd.prog 31 #[.agg #[.int .i64 (p : Int), .int .i64 (g : Int), .slice a n c], .int .i64 (d : Int), .agg #[.slice a1 n1 c1, .bool x.s]] w (ShGive w a n vs (⟨p, g, ls.set d x⟩, 0)) := by
  have h0 : ¬ (d : Int) < 0 := by omega
  have h1 : ¬ (n : Int) ≤ (d : Int) := by omega
  have h2 : (d : Int) < (n : Int) := by omega
  obtain ⟨W0, hW0⟩ : ∃ z : World, z = ((w.alloc (.cells #[.int .i64 (p : Int), .int .i64 (g : Int), .slice a n c] 32)).alloc (.cells #[.slice a1 n1 c1, .bool x.s] 35)).alloc (.cells #[.int .i64 0, .int .i64 0, .slice none 0 0] 32) := ⟨_, rfl⟩
  have hk0 : Kept [] w W0 := by rw [hW0]; exact (((Kept.refl [] w).alloc _).alloc _).alloc _
  have hb0 : Hid (ShIn W0 w.heap.size p g a n c) := hide (by rw [hW0]; exact (ShIn.new w p g a n c).kept (((Kept.refl [] _).alloc _).alloc _) (by simp))
  have hl0 : Hid (LinIn W0 (w.heap.size + 1) a1 n1 c1 x.s) := hide (by rw [hW0]; exact LinIn.kept (heap_new_at (by simp)) ((Kept.refl [] _).alloc _) (by simp))
  have hz0 : Hid (ShIn W0 (w.heap.size + 1 + 1) 0 0 none 0 0) := hide (by rw [hW0]; exact heap_new_at (by simp))
  have hV := hide (rValid6_any a1 n1 c1 x.s x.l W0 (hr1.kept hk0 (by simp)))
  rw [hv] at hV
  have hR := hide hr
  have hR1 := hide hr1
  have hn1 := hide (show n1 ≤ 1000000 by have h1 := hr1.clen; unfold validL at hv; simp at hv; omega)
  have hone := rowsV_oneCell rowLn vs
  have hvl := hide hr.vlen
  have hs0 := hide (show w.heap.size + 1 + 1 < W0.heap.size from hz0.out.lt)
  clear hr hr1 hv
  go_enter Tryd.func31, Tryd.ntmps31
  go_upto_region 1 with fail
  rw [← hW0]
  clear hW0
  obtain ⟨q0, q1⟩ := hl0.out.at
  go_wp2_with fail
  refine hV.out.mono ?_
  rintro e w1 ⟨rfl, hk1⟩
  clear q0 q1
  obtain ⟨q0, q1, q2⟩ := (hb0.out.kept hk1 (by simp)).at
  have hw1 := hk0.trans hk1 (by simp)
  have hrd := hide (hR.out.rd.kept hw1 (by simp))
  have hs1 := hw1.size
  go_wp2_with (at_builtin; refine wpList_app ?_ rfl elLine rfl rfl (Own.nil w1 w.heap.size 35 2) rfl hrd.out hone ?o1 ?o2; intro a3 c3 w3 ho3 hj3 hat3; have k3 : Kept [] w1 w3 := hj3.mono (by simp [blk]); obtain ⟨p0, p1⟩ := (hl0.out.kept (hk1.trans k3 (by simp)) (by simp)).at)
  case o1 => omega
  case o2 => exact hs1
  rw [Nat.zero_add, List.nil_append] at ho3
  have hge3 : ∀ y ∈ blk a3, w1.heap.size ≤ y := fun y hy => by
    rcases hat3 y hy with h | h
    · exact absurd h (by simp [blk])
    · exact h
  obtain ⟨gg, rfl, _⟩ := ho3.form (by omega)
  have hgg : w1.heap.size ≤ gg := hge3 gg (by simp [blk])
  clear q0 q1 q2 hat3
  refine (rCopy_any a1 n1 c1 x.s x.l w3 (hR1.out.kept (hw1.trans k3 (by simp)) (by simp)) hn1.out).mono ?_
  rintro e w4 ⟨a4, n4, c4, rfl, ho4, h4a, h4b, hj4⟩
  have k4 := k3.trans hj4 (by simp)
  have ho34 := ho3.kept hj4 (by simp)
  have hdv : d < vs.length := by rw [hvl.out]; exact hd
  obtain ⟨u0, f0⟩ := Own.cellAt rowLn ho34 (j := 0) hdv (v := .slice vs[d].a vs[d].n vs[d].c) rfl
  obtain ⟨u1, f1⟩ := Own.cellAt rowLn ho34 (j := 1) hdv (v := .bool vs[d].s) rfl
  rw [Nat.add_zero] at u0 f0
  have hset1 := Own.setAt rowLn ho34 (j := 0) hdv (by decide) (v := .slice a4 n4 c4) (d := ⟨a4, n4, c4, vs[d].s⟩) rfl
  have hset2 := Own.setAt rowLn hset1 (i := d) (j := 1) (by rw [List.length_set]; exact hdv) (by decide) (v := .bool x.s) (d := ⟨a4, n4, c4, x.s⟩) (by simp [lnV])
  rw [Nat.add_zero, List.set_set] at hset2
  have hs5 : Kept [gg] w4 ((w4.setCell ⟨gg, d * 2, none⟩ (.slice a4 n4 c4)).setCell ⟨gg, d * 2 + 1, none⟩ (.bool x.s)) := ((Kept.refl [gg] w4).setCell (.inl (by simp)) _).setCell (.inl (by simp)) _
  have hs0' := hs0.out
  have hs01 := hk1.size
  have hb5 := (hb0.out.kept (hk1.trans k4 (by simp)) (by simp)).kept hs5 (by simp; omega)
  have hz5 := hide ((hz0.out.kept (hk1.trans k4 (by simp)) (by simp)).kept hs5 (by simp; omega))
  have k5 : Kept [] w1 ((w4.setCell ⟨gg, d * 2, none⟩ (.slice a4 n4 c4)).setCell ⟨gg, d * 2 + 1, none⟩ (.bool x.s)) := k4.trans hs5 (fun y hy => by simp at hy; subst hy; exact .inr hgg)
  have ho45 := hide (ho4.kept hs5 (fun y hy hm => by simp at hm; subst hm; have e1 := (ho4.ge y hy).1; have e2 := (ho3.ge y (by simp [blk])).2; omega))
  obtain ⟨s0, s1, s2⟩ := hb5.at
  have hset2 := hide hset2
  have hvs := hide (rfl : vs[d] = vs[d])
  have hgd := hide (ho4.ge)
  clear hset1 ho34 ho3 ho4
  go_wp2_with fail
  refine (rWith_any p g a n c (some ⟨gg, 0, none⟩) n c3 _).mono ?_
  rintro e w6 ⟨rfl, hj6⟩
  have k6 := k5.trans hj6 (by simp)
  have hz6 := hide (hz5.out.kept hj6 (by simp))
  go_wp2_with (refine wpList_store_sh rfl rfl rfl (w.heap.size + 1 + 1) rfl hz6.out p g (some ⟨gg, 0, none⟩) n c3 rfl ?_; intro w7 hb7 hk7)
  refine bodyPost_ret (results_sh2 rfl rfl hb7 rfl) rfl ?_
  have hk := (hw1.trans k6 (by simp)).trans hk7 (by intro y hy; simp at hy; omega)
  have hgz : gg ≠ w.heap.size + 1 + 1 := by omega
  have ho7 := (hset2.out.kept hj6 (by simp)).kept hk7 (fun y hy hm => by simp [blk] at hy hm; omega)
  have k1s := k3.size
  have hge4 : ∀ y ∈ blk a4, w1.heap.size ≤ y := fun y hy => by have := (hgd.out y hy).1; omega
  have ho47 := ((ho45.out.kept hj6 (by simp)).kept hk7 (fun y hy hm => by simp at hm; have := hge4 y hy; omega)).rd
  refine ⟨some ⟨gg, 0, none⟩, n, c3, vs.set d ⟨a4, n4, c4, x.s⟩, rfl, ⟨ho7.rd, (hR.out.at'.kept hk (by simp)).set (show LnAt w7 ⟨a4, n4, c4, x.s⟩ x from ⟨ho47, rfl, h4a, h4b⟩) d⟩, ho7.caps.1, ho7.caps.2, hk, fun y hy => .inr ?_, fun y hy => ?_⟩
  · have := blkN_new (k := w1.heap.size) (fun z hz => by simp [blk] at hz; omega) y hy
    omega
  · obtain ⟨v, hv, hy⟩ := List.mem_flatMap.1 hy
    rcases List.mem_or_eq_of_mem_set hv with hv | rfl
    · exact .inl (List.mem_flatMap.2 ⟨v, hv, hy⟩)
    · right
      have := blkN_new hge4 y hy
      omega

theorem rSet_any (p g : Nat) (a : Option Addr) (n c : Nat) (vs : List LnA) (ls : List Ln) (k : Int) (a1 : Option Addr) (n1 c1 : Nat) (x : Ln) (w : World) (hr : LnsR w a n vs ls) (hnc : n ≤ c) (hcm : c ≤ maxLen) (hr1 : Rd w a1 n1 16 (cellsV x.l)) (hn : n ≤ 100000) :
    Calls Tryd.prog 31 #[.agg #[.int .i64 (p : Int), .int .i64 (g : Int), .slice a n c], .int .i64 k, .agg #[.slice a1 n1 c1, .bool x.s]] w (ShGive w a n vs (setS ⟨p, g, ls⟩ k x)) := by
  have hl := hr.len
  unfold setS
  cases hv : validL x.l with
  | false => simpa using rSet_bad p g a n c vs ls k a1 n1 c1 x w hr hnc hcm hr1 hv
  | true =>
    rw [if_neg (by simp)]
    simp only
    by_cases h0 : k < 0
    · rw [if_pos (.inl h0)]
      exact rSet_neg p g a n c vs ls k a1 n1 c1 x w hr hnc hcm hr1 hv h0
    · by_cases h1 : (n : Int) ≤ k
      · rw [if_pos (.inr (by rw [hl]; exact h1))]
        exact rSet_past p g a n c vs ls k a1 n1 c1 x w hr hnc hcm hr1 hv h0 h1
      · rw [if_neg (by rw [hl]; omega)]
        obtain ⟨d, rfl⟩ : ∃ d : Nat, k = d := ⟨k.toNat, by omega⟩
        exact rSet_good p g a n c vs ls d a1 n1 c1 x w hr hnc hcm hr1 hv (by omega) hn
end Go.Proofs.YtpeedjknjjbabaaDoor
