/- The walks of PackedCells, PackedWords, PackedPacks. -/
import Derived.Test.YtpdjlollijbdeaaDoorPakAsk
namespace Go.Proofs.YtpdjlollijbdeaaDoor
open Go.RowKit
set_option linter.unusedVariables false
set_option maxRecDepth 10000

/-- What the examples' check is known to do. -/
def KnownIs5 : Prop := ∀ w, Tabs w → Calls Tryd.prog 11 #[] w fun e w' => e = .returned (.bool true) ∧ Kept [] w w'

set_option maxHeartbeats 4000000 in
theorem PackedCells_walk (KN : KnownIs5) (c : Cl) (hb : PnB c.p) (w : World) (ht : Tabs w) : Calls Tryd.prog 3 #[.agg #[.int .i32 c.r, .int .i32 c.m0, .int .i32 c.m1, .int .i32 c.m2, .int .i64 c.w, .int .i64 c.p.f.k, .int .u8 c.p.f.i, .int .u8 c.p.f.r, .int .u8 c.p.f.g, .int .u8 c.p.f.b, .int .i64 c.p.b.k, .int .u8 c.p.b.i, .int .u8 c.p.b.r, .int .u8 c.p.b.g, .int .u8 c.p.b.b, .int .u8 c.p.fl]] w fun e w' => e = .returned (.bool true) ∧ Kept [] w w' := by
  obtain ⟨W0, hW0⟩ : ∃ z : World, z = w.alloc (.cells #[.int .i32 c.r, .int .i32 c.m0, .int .i32 c.m1, .int .i32 c.m2, .int .i64 c.w, .int .i64 c.p.f.k, .int .u8 c.p.f.i, .int .u8 c.p.f.r, .int .u8 c.p.f.g, .int .u8 c.p.f.b, .int .i64 c.p.b.k, .int .u8 c.p.b.i, .int .u8 c.p.b.r, .int .u8 c.p.b.g, .int .u8 c.p.b.b, .int .u8 c.p.fl] 30) := ⟨_, rfl⟩
  have hk0 : Kept [] w W0 := by rw [hW0]; exact (Kept.refl [] w).alloc _
  have hc0 : Hid (CelIn W0 w.heap.size c) := hide (by rw [hW0]; exact CelIn.new w c)
  have hT := hide (fun w1 (hk : Kept [] W0 w1) => (ht.kept hk0).kept hk)
  have hKN := hide KN
  have hV := hide (fun w1 => rcvalid_any c w1)
  clear ht KN
  have r0 := hc0.out.range
  cases hv : validC c
  · have hE : wordsE c = (zeroW, 2) := by unfold wordsE; rw [hv]; rfl
    have hX := hide (fun w1 hk => words_ask c hb zeroW 2 true (by rw [hE]; rfl) w1 (hT.out w1 hk))
    rw [hv] at hV
    go_enter Tryd.func3, Tryd.ntmps3
    go_upto_region 1 with fail
    rw [← hW0]
    clear hW0
    go_wp2_with (refine wpList_load_cel rfl rfl w.heap.size 0 rfl r0 ?_)
    refine (hV.out _).mono ?_
    rintro e w1 ⟨rfl, hk1⟩
    clear r0
    have r1 := (hc0.out.kept hk1 (by simp)).range
    go_wp2_with (refine wpList_load_cel rfl rfl w.heap.size 0 rfl r1 ?_)
    refine (hX.out w1 hk1).mono ?_
    rintro e w2 ⟨rfl, hj2⟩
    have hk2 := hk1.trans hj2 (by simp)
    go_wp2_with fail
    refine (hKN.out w2 (hT.out w2 hk2)).mono ?_
    rintro e w3 ⟨rfl, hj3⟩
    go_wp2_with fail
    go_ret
    exact ⟨rfl, hk0.trans (hk2.trans hj3 (by simp)) (by simp)⟩
  · have hE : wordsE c = (wordsC c, 0) := if_pos hv
    have hE2 : cellE (wordsC c) = (c, 0) := by unfold cellE; rw [words_ok hv hb, words_cell hv hb]; rfl
    have hW := hide (fun w1 => rWords_any c hv hb w1)
    have hX := hide (fun w1 hk => words_ask c hb (wordsC c) 0 true (by rw [hE]; simp) w1 (hT.out w1 hk))
    have hY := hide (fun w1 hk => cell_ask (wordsC c) (words_bound hv hb) c 0 true (by rw [hE2]; simp) w1 (hT.out w1 hk))
    rw [hv] at hV
    clear hE hE2 hv hb
    generalize wordsC c = y at *
    go_enter Tryd.func3, Tryd.ntmps3
    go_upto_region 1 with fail
    rw [← hW0]
    clear hW0
    go_wp2_with (refine wpList_load_cel rfl rfl w.heap.size 0 rfl r0 ?_)
    refine (hV.out _).mono ?_
    rintro e w1 ⟨rfl, hk1⟩
    clear r0
    have hc1 := hide (hc0.out.kept hk1 (by simp))
    go_upto_region 3 with fail
    refine wp_region_held_drew (S := (fun w' => CelR w' w.heap.size 0 c)) (by kernel_rfl) ?_ (fun hHeld => ?_)
    · (try dsimp only); (first | exact (hc1.out.kept k6 (by simp)).range | exact (hc1.out.kept k5 (by simp)).range | exact (hc1.out.kept k4 (by simp)).range | exact (hc1.out.kept k3 (by simp)).range | exact (hc1.out.kept k2 (by simp)).range | exact (hc1.out.kept (Kept.refl [] w1).drew (by simp)).range)
    refine wpAnyH_take (i := 0) (v := (.agg #[.int .i32 c.r, .int .i32 c.m0, .int .i32 c.m1, .int .i32 c.m2, .int .i64 c.w, .int .i64 c.p.f.k, .int .u8 c.p.f.i, .int .u8 c.p.f.r, .int .u8 c.p.f.g, .int .u8 c.p.f.b, .int .i64 c.p.b.k, .int .u8 c.p.b.i, .int .u8 c.p.b.r, .int .u8 c.p.b.g, .int .u8 c.p.b.b, .int .u8 c.p.fl])) rfl (by kernel_rfl) (by kernel_rfl) (by kernel_rfl) (fun _ _ _ h => h) (yieldsIf_load_mid (by rfl) 30 _ rfl w.heap.size 0 rfl (kcL c) _ (fun _ h => h) Tryd.underlying30 rfl (by kernel_rfl)) (by assumption) ?_
    try simp only [Act.put, List.getElem_toArray, List.getElem_cons_zero, List.setIfInBounds_toArray, List.set_cons_zero, List.set_cons_succ]
    refine wpAnyH_take (i := 1) (v := (.agg #[.int .i32 c.r, .int .i32 c.m0, .int .i32 c.m1, .int .i32 c.m2, .int .i64 c.w, .int .i64 c.p.f.k, .int .u8 c.p.f.i, .int .u8 c.p.f.r, .int .u8 c.p.f.g, .int .u8 c.p.f.b, .int .i64 c.p.b.k, .int .u8 c.p.b.i, .int .u8 c.p.b.r, .int .u8 c.p.b.g, .int .u8 c.p.b.b, .int .u8 c.p.fl])) rfl (by kernel_rfl) (by kernel_rfl) (by kernel_rfl) (fun _ _ _ h => h) (yieldsIf_load_mid (by rfl) 30 _ rfl w.heap.size 0 rfl (kcL c) _ (fun _ h => h) Tryd.underlying30 rfl (by kernel_rfl)) (by assumption) ?_
    try simp only [Act.put, List.getElem_toArray, List.getElem_cons_succ, List.getElem_cons_zero, List.setIfInBounds_toArray, List.set_cons_zero, List.set_cons_succ]
    refine wpAnyH_ready (rs := [2]) (by kernel_rfl) (by simp) ?_
    refine AllReadyH.cons rfl (fun K hK => ?_) AllReadyH.nil
    go_simp
    refine (hW.out w1.drew).mono ?_; rintro e w2 ⟨rfl, j2⟩; have k2 : Kept [] w1 w2 := (Kept.refl [] w1).drew.trans j2 (by simp)
    try go_wp2_with fail
    refine hK.out _ _ ?_ (fun hHeld => ?_)
    · (try dsimp only); (first | exact (hc1.out.kept k6 (by simp)).range | exact (hc1.out.kept k5 (by simp)).range | exact (hc1.out.kept k4 (by simp)).range | exact (hc1.out.kept k3 (by simp)).range | exact (hc1.out.kept k2 (by simp)).range | exact (hc1.out.kept (Kept.refl [] w1).drew (by simp)).range)
    clear hK K
    try simp only [Act.put, List.getElem_toArray, List.getElem_cons_succ, List.getElem_cons_zero, List.setIfInBounds_toArray, List.set_cons_zero, List.set_cons_succ]
    refine wpAnyH_ready (rs := [3]) (by kernel_rfl) (by simp) ?_
    refine AllReadyH.cons rfl (fun K hK => ?_) AllReadyH.nil
    go_simp
    refine (hX.out w2 (hk1.trans k2 (by simp))).mono ?_; rintro e w3 ⟨rfl, j3⟩; have k3 : Kept [] w1 w3 := k2.trans j3 (by simp)
    try go_wp2_with fail
    refine hK.out _ _ ?_ (fun hHeld => ?_)
    · (try dsimp only); (first | exact (hc1.out.kept k6 (by simp)).range | exact (hc1.out.kept k5 (by simp)).range | exact (hc1.out.kept k4 (by simp)).range | exact (hc1.out.kept k3 (by simp)).range | exact (hc1.out.kept k2 (by simp)).range | exact (hc1.out.kept (Kept.refl [] w1).drew (by simp)).range)
    clear hK K
    try simp only [Act.put, List.getElem_toArray, List.getElem_cons_succ, List.getElem_cons_zero, List.setIfInBounds_toArray, List.set_cons_zero, List.set_cons_succ]
    refine wpAnyH_take (i := 4) (v := ?_) rfl (by kernel_rfl) (by kernel_rfl) (by kernel_rfl) (fun _ _ _ h => h) (Or.inl ⟨by rfl, ?_⟩) (by assumption) ?_
    rotate_left
    · (intro wq hSw; (try dsimp only at hSw); go_simp; try with_reducible rfl)
    try simp only [Act.put, List.getElem_toArray, List.getElem_cons_succ, List.getElem_cons_zero, List.setIfInBounds_toArray, List.set_cons_zero, List.set_cons_succ]
    refine wpAnyH_take (i := 5) (v := (.agg #[.int .i32 c.r, .int .i32 c.m0, .int .i32 c.m1, .int .i32 c.m2, .int .i64 c.w, .int .i64 c.p.f.k, .int .u8 c.p.f.i, .int .u8 c.p.f.r, .int .u8 c.p.f.g, .int .u8 c.p.f.b, .int .i64 c.p.b.k, .int .u8 c.p.b.i, .int .u8 c.p.b.r, .int .u8 c.p.b.g, .int .u8 c.p.b.b, .int .u8 c.p.fl])) rfl (by kernel_rfl) (by kernel_rfl) (by kernel_rfl) (fun _ _ _ h => h) (yieldsIf_load_mid (by rfl) 30 _ rfl w.heap.size 0 rfl (kcL c) _ (fun _ h => h) Tryd.underlying30 rfl (by kernel_rfl)) (by assumption) ?_
    try simp only [Act.put, List.getElem_toArray, List.getElem_cons_succ, List.getElem_cons_zero, List.setIfInBounds_toArray, List.set_cons_zero, List.set_cons_succ]
    refine wpAnyH_take (i := 7) (v := (.agg #[.int .i32 c.r, .int .i32 c.m0, .int .i32 c.m1, .int .i32 c.m2, .int .i64 c.w, .int .i64 c.p.f.k, .int .u8 c.p.f.i, .int .u8 c.p.f.r, .int .u8 c.p.f.g, .int .u8 c.p.f.b, .int .i64 c.p.b.k, .int .u8 c.p.b.i, .int .u8 c.p.b.r, .int .u8 c.p.b.g, .int .u8 c.p.b.b, .int .u8 c.p.fl])) rfl (by kernel_rfl) (by kernel_rfl) (by kernel_rfl) (fun _ _ _ h => h) (yieldsIf_load_mid (by rfl) 30 _ rfl w.heap.size 0 rfl (kcL c) _ (fun _ h => h) Tryd.underlying30 rfl (by kernel_rfl)) (by assumption) ?_
    try simp only [Act.put, List.getElem_toArray, List.getElem_cons_succ, List.getElem_cons_zero, List.setIfInBounds_toArray, List.set_cons_zero, List.set_cons_succ]
    refine wpAnyH_ready (rs := [6]) (by kernel_rfl) (by simp) ?_
    refine AllReadyH.cons rfl (fun K hK => ?_) AllReadyH.nil
    go_simp
    refine (hW.out w3).mono ?_; rintro e w4 ⟨rfl, j4⟩; have k4 : Kept [] w1 w4 := k3.trans j4 (by simp)
    try go_wp2_with fail
    refine hK.out _ _ ?_ (fun hHeld => ?_)
    · (try dsimp only); (first | exact (hc1.out.kept k6 (by simp)).range | exact (hc1.out.kept k5 (by simp)).range | exact (hc1.out.kept k4 (by simp)).range | exact (hc1.out.kept k3 (by simp)).range | exact (hc1.out.kept k2 (by simp)).range | exact (hc1.out.kept (Kept.refl [] w1).drew (by simp)).range)
    clear hK K
    try simp only [Act.put, List.getElem_toArray, List.getElem_cons_succ, List.getElem_cons_zero, List.setIfInBounds_toArray, List.set_cons_zero, List.set_cons_succ]
    refine wpAnyH_ready (rs := [8]) (by kernel_rfl) (by simp) ?_
    refine AllReadyH.cons rfl (fun K hK => ?_) AllReadyH.nil
    go_simp
    refine (hY.out w4 (hk1.trans k4 (by simp))).mono ?_; rintro e w5 ⟨rfl, j5⟩; have k5 : Kept [] w1 w5 := k4.trans j5 (by simp)
    try go_wp2_with fail
    refine hK.out _ _ ?_ (fun hHeld => ?_)
    · (try dsimp only); (first | exact (hc1.out.kept k6 (by simp)).range | exact (hc1.out.kept k5 (by simp)).range | exact (hc1.out.kept k4 (by simp)).range | exact (hc1.out.kept k3 (by simp)).range | exact (hc1.out.kept k2 (by simp)).range | exact (hc1.out.kept (Kept.refl [] w1).drew (by simp)).range)
    clear hK K
    try simp only [Act.put, List.getElem_toArray, List.getElem_cons_succ, List.getElem_cons_zero, List.setIfInBounds_toArray, List.set_cons_zero, List.set_cons_succ]
    refine wpAnyH_take (i := 9) (v := ?_) rfl (by kernel_rfl) (by kernel_rfl) (by kernel_rfl) (fun _ _ _ h => h) (Or.inl ⟨by rfl, ?_⟩) (by assumption) ?_
    rotate_left
    · (intro wq hSw; (try dsimp only at hSw); go_simp; try with_reducible rfl)
    try simp only [Act.put, List.getElem_toArray, List.getElem_cons_succ, List.getElem_cons_zero, List.setIfInBounds_toArray, List.set_cons_zero, List.set_cons_succ]
    refine wpAnyH_take (i := 10) (v := ?_) rfl (by kernel_rfl) (by kernel_rfl) (by kernel_rfl) (fun _ _ _ h => h) (Or.inl ⟨by rfl, ?_⟩) (by assumption) ?_
    rotate_left
    · (intro wq hSw; (try dsimp only at hSw); go_simp; try with_reducible rfl)
    try simp only [Act.put, List.getElem_toArray, List.getElem_cons_succ, List.getElem_cons_zero, List.setIfInBounds_toArray, List.set_cons_zero, List.set_cons_succ]
    refine wpAnyH_ready (rs := [11]) (by kernel_rfl) (by simp) ?_
    refine AllReadyH.cons rfl (fun K hK => ?_) AllReadyH.nil
    go_simp
    refine (hKN.out w5 (hT.out w5 (hk1.trans k5 (by simp)))).mono ?_; rintro e w6 ⟨rfl, j6⟩; have k6 : Kept [] w1 w6 := k5.trans j6 (by simp)
    try go_wp2_with fail
    refine hK.out _ _ ?_ (fun hHeld => ?_)
    · (try dsimp only); (first | exact (hc1.out.kept k6 (by simp)).range | exact (hc1.out.kept k5 (by simp)).range | exact (hc1.out.kept k4 (by simp)).range | exact (hc1.out.kept k3 (by simp)).range | exact (hc1.out.kept k2 (by simp)).range | exact (hc1.out.kept (Kept.refl [] w1).drew (by simp)).range)
    clear hK K
    try simp only [Act.put, List.getElem_toArray, List.getElem_cons_succ, List.getElem_cons_zero, List.setIfInBounds_toArray, List.set_cons_zero, List.set_cons_succ]
    refine wpAnyH_take (i := 12) (v := ?_) rfl (by kernel_rfl) (by kernel_rfl) (by kernel_rfl) (fun _ _ _ h => h) (Or.inl ⟨by rfl, ?_⟩) (by assumption) ?_
    rotate_left
    · (intro wq hSw; (try dsimp only at hSw); go_simp; try with_reducible rfl)
    try simp only [Act.put, List.getElem_toArray, List.getElem_cons_succ, List.getElem_cons_zero, List.setIfInBounds_toArray, List.set_cons_zero, List.set_cons_succ]
    refine wpAnyH_take (i := 13) (v := ?_) rfl (by kernel_rfl) (by kernel_rfl) (by kernel_rfl) (fun _ _ _ h => h) (Or.inl ⟨by rfl, ?_⟩) (by assumption) ?_
    rotate_left
    · (intro wq hSw; (try dsimp only at hSw); go_simp; try with_reducible rfl)
    try simp only [Act.put, List.getElem_toArray, List.getElem_cons_succ, List.getElem_cons_zero, List.setIfInBounds_toArray, List.set_cons_zero, List.set_cons_succ]
    refine wpAnyH_done (by kernel_rfl) ?_ _
    go_wp2_with fail
    go_ret
    exact ⟨rfl, hk0.trans (hk1.trans k6 (by simp)) (by simp)⟩

set_option maxHeartbeats 4000000 in
theorem PackedWords_walk (KN : KnownIs5) (v : W3) (hb : W3B v) (w : World) (ht : Tabs w) : Calls Tryd.prog 4 #[.agg #[.int .u64 v.a, .int .u64 v.b, .int .u64 v.c]] w fun e w' => e = .returned (.bool true) ∧ Kept [] w w' := by
  obtain ⟨W0, hW0⟩ : ∃ z : World, z = w.alloc (.cells #[.int .u64 v.a, .int .u64 v.b, .int .u64 v.c] 34) := ⟨_, rfl⟩
  have hk0 : Kept [] w W0 := by rw [hW0]; exact (Kept.refl [] w).alloc _
  have hv0 : Hid (W3At W0 w.heap.size v) := hide (by rw [hW0]; exact W3At.new w v)
  have hT := hide (fun w1 (hk : Kept [] W0 w1) => (ht.kept hk0).kept hk)
  have hKN := hide KN
  have hC := hide (fun w1 => rCell_any v hb w1)
  clear ht KN
  obtain ⟨q0, q1, q2⟩ := hv0.out
  cases hv : okW v
  · have hE : cellE v = (zeroK, 12) := by unfold cellE; rw [hv]; rfl
    have hY := hide (fun w1 hk => cell_ask v hb zeroK 12 true (by rw [hE]; rfl) w1 (hT.out w1 hk))
    rw [hv] at hC
    go_enter Tryd.func4, Tryd.ntmps4
    go_upto_region 1 with fail
    rw [← hW0]
    clear hW0
    go_wp2_with fail
    refine (hC.out _).mono ?_
    rintro e w1 ⟨c, rfl, _, hk1⟩
    clear q0 q1 q2
    have hz1 := CelIn.new w1 zeroK
    go_upto_region 3 with (refine wpList_store_cel rfl rfl rfl w1.heap.size rfl hz1 c rfl ?_; intro w2 hc2 hj2)
    have hk2 : Kept [] W0 w2 := hk1.trans (((Kept.refl [] w1).alloc _).trans hj2 (by intro z hz; simp at hz; omega)) (by simp)
    obtain ⟨q0, q1, q2⟩ := hv0.out.kept hk2 (by simp)
    clear hz1 hc2 hj2
    go_wp2_with fail
    refine (hY.out w2 hk2).mono ?_
    rintro e w3 ⟨rfl, hj3⟩
    have hk3 := hk2.trans hj3 (by simp)
    go_wp2_with fail
    refine (hKN.out w3 (hT.out w3 hk3)).mono ?_
    rintro e w4 ⟨rfl, hj4⟩
    go_wp2_with fail
    go_ret
    exact ⟨rfl, hk0.trans (hk3.trans hj4 (by simp)) (by simp)⟩
  · obtain ⟨hv1, hv2⟩ := okW_valid hv
    have hE : cellE v = (cellU v, 0) := if_pos hv
    have hE2 : wordsE (cellU v) = (v, 0) := by unfold wordsE; rw [hv1, hv2]; rfl
    have hY := hide (fun w1 hk => cell_ask v hb (cellU v) 0 true (by rw [hE]; simp) w1 (hT.out w1 hk))
    have hX := hide (fun w1 hk => words_ask (cellU v) (cell_pn v) v 0 true (by rw [hE2]; simp) w1 (hT.out w1 hk))
    rw [hv] at hC
    clear hE hE2 hv hv1 hv2
    generalize cellU v = c at *
    go_enter Tryd.func4, Tryd.ntmps4
    go_upto_region 1 with fail
    rw [← hW0]
    clear hW0
    go_wp2_with fail
    refine (hC.out _).mono ?_
    rintro e w1 ⟨c', rfl, hcc, hk1⟩
    obtain rfl := hcc trivial
    clear q0 q1 q2
    have hz1 := CelIn.new w1 zeroK
    go_upto_region 4 with (refine wpList_store_cel rfl rfl rfl w1.heap.size rfl hz1 c' rfl ?_; intro w2 hc2 hj2)
    have hk2 : Kept [] W0 w2 := hk1.trans (((Kept.refl [] w1).alloc _).trans hj2 (by intro z hz; simp at hz; omega)) (by simp)
    obtain ⟨q0, q1, q2⟩ := hv0.out.kept hk2 (by simp)
    have hc2' := hide hc2
    have r2 := hc2.range
    clear hz1 hc2 hj2
    go_wp2_with (refine wpList_load_cel rfl rfl w1.heap.size 0 rfl r2 ?_)
    refine (hY.out w2 hk2).mono ?_
    rintro e w3 ⟨rfl, hj3⟩
    have hk3 := hk2.trans hj3 (by simp)
    clear q0 q1 q2 r2
    obtain ⟨q0, q1, q2⟩ := hv0.out.kept hk3 (by simp)
    have r3 := (hc2'.out.kept hj3 (by simp)).range
    go_wp2_with (refine wpList_load_celW rfl (by rfl) w1.heap.size 0 rfl r3 ?_)
    refine (hX.out w3 hk3).mono ?_
    rintro e w4 ⟨rfl, hj4⟩
    have hk4 := hk3.trans hj4 (by simp)
    go_wp2_with fail
    refine (hKN.out w4 (hT.out w4 hk4)).mono ?_
    rintro e w5 ⟨rfl, hj5⟩
    go_wp2_with fail
    go_ret
    exact ⟨rfl, hk0.trans (hk4.trans hj5 (by simp)) (by simp)⟩

set_option maxHeartbeats 4000000 in
theorem PackedPacks_long (KN : KnownIs5) (a : Option Addr) (n c : Nat) (hn : 60 < n) (w : World) (ht : Tabs w) : Calls Tryd.prog 5 #[.slice a n c] w fun e w' => e = .returned (.bool true) ∧ Kept [] w w' := by
  have hKN := hide (KN w ht)
  clear ht KN
  have hn2 : (60 : Int) < (n : Int) := by omega
  go_enter Tryd.func5, Tryd.ntmps5
  go_wp2_with fail
  refine hKN.out.mono ?_
  rintro e w1 ⟨rfl, hk1⟩
  go_wp2_with fail
  go_ret
  exact ⟨rfl, hk1⟩

set_option maxHeartbeats 4000000 in
theorem PackedPacks_walk (KN : KnownIs5) (a : Option Addr) (n c : Nat) (l : List Cl) (hn : n ≤ 60) (hB : ∀ x ∈ l, PnB x.p) (w : World) (ht : Tabs w) (hr : Rd w a n 16 (cellsV l)) : Calls Tryd.prog 5 #[.slice a n c] w fun e w' => e = .returned (.bool true) ∧ Kept [] w w' := by
  have hT := hide (fun w1 (hk : Kept [] w w1) => ht.kept hk)
  have hKN := hide KN
  have hH := hide hr
  have hB := hide hB
  clear ht KN hr
  have hn2 : (n : Int) ≤ 60 := by omega
  have hw0 := Own.nil w w.heap.size 30 16
  have hr0 := hH.out
  have hone := cellsV_one l
  go_enter Tryd.func5, Tryd.ntmps5
  go_upto_region 4 with (at_builtin; refine wpList_app ?_ rfl elCell rfl rfl hw0 rfl hr0 hone ?o2 ?o3; intro a1 c1 w1 ho1 hk1 hat1)
  case o2 => omega
  case o3 => exact Nat.le_refl _
  rw [Nat.zero_add, List.nil_append] at ho1
  clear hr0 hone hw0
  have hk1 : Kept [] w w1 := hk1
  have hP := hide (rPack5_any a n c l hB.out w1 (hH.out.kept hk1 (by simp)) (by omega))
  have hPA := hide (fun (m : List Ru × Int) a2 n2 c2 (hm : (packR l).1 = m.1 ∧ (packR l).2 = m.2) w2 hk2 ho hr2 => packs_ask a1 n c1 l hB.out m.2 a2 n2 c2 m.1 true (by rw [hm.1, hm.2]; simp) w2 (hT.out w2 hk2) ho (by omega) hr2)
  generalize packR l = E at *
  obtain ⟨y, x⟩ := E
  have ho1 := hide ho1
  go_wp2_with fail
  refine hP.out.mono ?_
  rintro e w2 ⟨a2, n2, c2, rfl, ho2, hj2⟩
  have hk2 := hk1.trans hj2 (by simp)
  have ho12 := ho1.out.kept hj2 (by simp)
  have hPB := hide (hPA.out (y, x) a2 n2 c2 ⟨rfl, rfl⟩ w2 hk2 ho12.rd ho2.rd)
  clear ho2
  go_wp2_with fail
  refine hPB.out.mono ?_
  rintro e w3 ⟨rfl, hj3⟩
  have hk3 := hk2.trans hj3 (by simp)
  have hS := hide (Same_big a1 n c1 l a n c l w3 (ho12.kept hj3 (by simp)).rd (hH.out.kept hk3 (by simp)) (by omega))
  rw [decide_eq_true rfl] at hS
  clear ho12
  go_wp2_with fail
  refine hS.out.mono ?_
  rintro e w4 ⟨rfl, hj4⟩
  have hk4 := hk3.trans hj4 (by simp)
  go_wp2_with fail
  refine (hKN.out w4 (hT.out w4 hk4)).mono ?_
  rintro e w5 ⟨rfl, hj5⟩
  go_wp2_with fail
  go_ret
  exact ⟨rfl, hk4.trans hj5 (by simp)⟩
end Go.Proofs.YtpdjlollijbdeaaDoor
