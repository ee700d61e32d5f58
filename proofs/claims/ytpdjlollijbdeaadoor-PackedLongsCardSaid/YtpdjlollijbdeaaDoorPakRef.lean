/- The words of a cell, the cell of words: the reference's. -/
import Derived.Test.YtpdjlollijbdeaaDoorPakCell
namespace Go.Proofs.YtpdjlollijbdeaaDoor
open Go.RowKit
set_option linter.unusedVariables false
set_option maxRecDepth 10000

set_option maxHeartbeats 1000000 in
theorem rWords_any (c : Cl) (hv : validC c = true) (hb : PnB c.p) (w : World) : Calls Tryd.prog 12 #[.agg #[.int .i32 c.r, .int .i32 c.m0, .int .i32 c.m1, .int .i32 c.m2, .int .i64 c.w, .int .i64 c.p.f.k, .int .u8 c.p.f.i, .int .u8 c.p.f.r, .int .u8 c.p.f.g, .int .u8 c.p.f.b, .int .i64 c.p.b.k, .int .u8 c.p.b.i, .int .u8 c.p.b.r, .int .u8 c.p.b.g, .int .u8 c.p.b.b, .int .u8 c.p.fl]] w fun e w' => e = .returned (.agg #[.int .u64 (wordsC c).a, .int .u64 (wordsC c).b, .int .u64 (wordsC c).c]) ∧ Kept [] w w' := by
  obtain ⟨W0, hW0⟩ : ∃ x : World, x = (w.alloc (.cells #[.int .i32 c.r, .int .i32 c.m0, .int .i32 c.m1, .int .i32 c.m2, .int .i64 c.w, .int .i64 c.p.f.k, .int .u8 c.p.f.i, .int .u8 c.p.f.r, .int .u8 c.p.f.g, .int .u8 c.p.f.b, .int .i64 c.p.b.k, .int .u8 c.p.b.i, .int .u8 c.p.b.r, .int .u8 c.p.b.g, .int .u8 c.p.b.b, .int .u8 c.p.fl] 30)).alloc (.cells #[.int .u64 0, .int .u64 0, .int .u64 0] 34) := ⟨_, rfl⟩
  have hk0 : Kept [] w W0 := by rw [hW0]; exact ((Kept.refl [] w).alloc _).alloc _
  have hc0 : Hid (CelIn W0 w.heap.size c) := hide (by rw [hW0]; exact (CelIn.new w c).kept ((Kept.refl [] _).alloc _) (by simp))
  have hz0 : Hid (W3In W0 (w.heap.size + 1) zeroW) := hide (by rw [hW0]; exact heap_new_at (by simp))
  have hP := hide (fun w1 => rPack_ok c.p (valid_pen hv) hb w1)
  obtain ⟨⟨a1, a2⟩, ⟨b1, b2⟩, ⟨c1, c2⟩, ⟨d1, d2⟩, e1, e2⟩ := valid_range hv
  have hX : Hid (wordsC c = ⟨packI c.p, c.r + 2097152 * c.w, c.m0 + 2097152 * (c.m1 + 2097152 * c.m2)⟩) := hide rfl
  generalize wordsC c = X at *
  clear hv hb
  go_enter Tryd.func12, Tryd.ntmps12
  go_upto_region 1 with fail
  rw [← hW0]
  clear hW0
  obtain ⟨q0, q1, q2, q3, q4, q5, q6, q7, q8, q9, q10, q11, q12, q13, q14, q15⟩ := hc0.out.at
  have r1 := hc0.out.range.pen
  go_wp2_with (refine wpList_load_pen rfl rfl w.heap.size 5 rfl r1 ?_)
  refine (hP.out _).mono ?_
  rintro e w2 ⟨rfl, hk2⟩
  have z2 := hz0.out.kept hk2 (by simp)
  go_wp2_with (refine wpList_store_w3 rfl rfl rfl (w.heap.size + 1) rfl z2 ⟨packI c.p, c.r + 2097152 * c.w, c.m0 + 2097152 * (c.m1 + 2097152 * c.m2)⟩ rfl ?_; intro w3 hz3 hk3)
  refine bodyPost_ret (results_w3 rfl rfl hz3) rfl ?_
  exact ⟨by rw [hX.out], (hk0.trans hk2 (by simp)).trans hk3 (by simp)⟩

theorem Kept.trans' {S : List Nat} {a b c : World} (h : Kept [] a b) (k : Kept S b c) : Kept S a c := (h.mono (by simp)).trans k (fun x hx => .inl hx)
theorem heldV {S : List Nat} {w w' : World} {b1 : Nat} {v : W3} (h : (w.cell? ⟨b1, 0, none⟩ = some (.int .u64 v.a) ∧ w.cell? ⟨b1, 1, none⟩ = some (.int .u64 v.b) ∧ w.cell? ⟨b1, 2, none⟩ = some (.int .u64 v.c))) (hk : Kept S w w') (h1 : b1 ∉ S) : (w'.cell? ⟨b1, 0, none⟩ = some (.int .u64 v.a) ∧ w'.cell? ⟨b1, 1, none⟩ = some (.int .u64 v.b) ∧ w'.cell? ⟨b1, 2, none⟩ = some (.int .u64 v.c)) := W3At.kept (c := v) h hk h1

set_option maxHeartbeats 2000000 in
theorem rCell_any (v : W3) (hb : W3B v) (w : World) : Calls Tryd.prog 14 #[.agg #[.int .u64 v.a, .int .u64 v.b, .int .u64 v.c]] w fun e w' => ∃ c : Cl, e = .returned (.tuple #[.agg #[.int .i32 c.r, .int .i32 c.m0, .int .i32 c.m1, .int .i32 c.m2, .int .i64 c.w, .int .i64 c.p.f.k, .int .u8 c.p.f.i, .int .u8 c.p.f.r, .int .u8 c.p.f.g, .int .u8 c.p.f.b, .int .i64 c.p.b.k, .int .u8 c.p.b.i, .int .u8 c.p.b.r, .int .u8 c.p.b.g, .int .u8 c.p.b.b, .int .u8 c.p.fl], .bool (okW v)]) ∧ (okW v = true → c = cellU v) ∧ Kept [] w w' := by
  obtain ⟨W0, hW0⟩ : ∃ x : World, x = (w.alloc (.cells #[.int .u64 v.a, .int .u64 v.b, .int .u64 v.c] 34)).alloc (.cells #[.int .i32 0, .int .i32 0, .int .i32 0, .int .i32 0, .int .i64 0, .int .i64 0, .int .u8 0, .int .u8 0, .int .u8 0, .int .u8 0, .int .i64 0, .int .u8 0, .int .u8 0, .int .u8 0, .int .u8 0, .int .u8 0] 30) := ⟨_, rfl⟩
  have hk0 : Kept [] w W0 := by rw [hW0]; exact ((Kept.refl [] w).alloc _).alloc _
  have hv0 : Hid (W3At W0 w.heap.size v) := hide (by rw [hW0]; exact (W3At.new w v).kept ((Kept.refl [] _).alloc _) (by simp))
  have hz0 : Hid (CelIn W0 (w.heap.size + 1) zeroK) := hide (by rw [hW0]; exact heap_new_at (by simp))
  have hs0 : w.heap.size + 1 < W0.heap.size := by rw [hW0]; simp
  have hU := hide (fun w1 => rUnpack_is v.a hb.a w1)
  have hbad := hide (fun h => okW_pen (w := v) h)
  have hbad2 := hide (fun h => okW_wide (w := v) h)
  have hO := hide (show okW v = (validC (cellU v) && decide (wordsC (cellU v) = v)) from rfl)
  have hV := hide (fun w1 => rcvalid_any (cellU v) w1)
  have hWd := hide (fun hv w1 => rWords_any (cellU v) hv (cell_pn v) w1)
  have hX := hide (show cellU v = ⟨v.b % 2097152, v.c % 2097152, v.c / 2097152 % 2097152, v.c / 4398046511104 % 2097152, v.b / 2097152, unpackI v.a⟩ from rfl)
  have b0 := hb.b.1
  have b1 := hb.b.2
  have c0 := hb.c.1
  have c1 := hb.c.2
  generalize cellU v = X at *
  generalize okW v = ok at *
  generalize hp' : unpackI v.a = p at *
  clear hp'
  generalize packI p = pa at *
  clear hb
  go_enter Tryd.func14, Tryd.ntmps14
  go_upto_region 1 with fail
  rw [← hW0]
  clear hW0
  obtain ⟨q0, q1, q2⟩ := hv0.out
  go_wp2_with fail
  refine (hU.out _).mono ?_
  rintro e w1 ⟨rfl, hk1⟩
  clear q0 q1 q2
  have hz1 : PenIn (w1.alloc (.cells #[.int .i64 zeroP.f.k, .int .u8 zeroP.f.i, .int .u8 zeroP.f.r, .int .u8 zeroP.f.g, .int .u8 zeroP.f.b, .int .i64 zeroP.b.k, .int .u8 zeroP.b.i, .int .u8 zeroP.b.r, .int .u8 zeroP.b.g, .int .u8 zeroP.b.b, .int .u8 zeroP.fl] 28)) w1.heap.size zeroP := heap_alloc_new w1 _
  go_upto_region 2 with (refine wpList_store_pen rfl rfl rfl w1.heap.size rfl hz1 p rfl ?_; intro w2 hp2 hk2)
  have hk2' : Kept [] w1 w2 := ((Kept.refl [] w1).alloc _).trans hk2 (by intro z hz; simp at hz; omega)
  have hK2 := hk1.trans hk2' (by simp)
  have hq1 : w.heap.size < w2.heap.size := by have := hK2.size; omega
  have hq2 : w1.heap.size < w2.heap.size := hp2.lt'
  clear hz1 hk2
  by_cases hu0 : pa = v.a
  · have hue : (pa == v.a) = true := by simpa using hu0
    obtain ⟨q0, q1, q2⟩ := hv0.out.kept hK2 (by simp)
    by_cases hl0 : 8388608 ≤ v.b
    · obtain rfl := hbad2.out hl0
      have z2 := hz0.out.kept hK2 (by simp)
      go_wp2_with (refine wpList_store_cel rfl rfl rfl (w.heap.size + 1) rfl z2 zeroK rfl ?_; intro w3 hc3 hk3)
      refine bodyPost_ret (results_cel2 rfl rfl hc3 (v := .bool false) rfl) rfl ?_
      exact ⟨⟨zeroK, rfl⟩, (hk0.trans hK2 (by simp)).trans hk3 (by simp)⟩
    · have hl := Int.not_le.1 hl0
      clear hl0
      go_upto_region 5 with fail
      refine wp_region_held_drew (S := (fun w' => (w'.cell? ⟨w.heap.size, 0, none⟩ = some (.int .u64 v.a) ∧ w'.cell? ⟨w.heap.size, 1, none⟩ = some (.int .u64 v.b) ∧ w'.cell? ⟨w.heap.size, 2, none⟩ = some (.int .u64 v.c)) ∧ w'.cell? ⟨w1.heap.size, 0, none⟩ = some (.int .i64 p.f.k) ∧ w'.cell? ⟨w1.heap.size, 1, none⟩ = some (.int .u8 p.f.i) ∧ w'.cell? ⟨w1.heap.size, 2, none⟩ = some (.int .u8 p.f.r) ∧ w'.cell? ⟨w1.heap.size, 3, none⟩ = some (.int .u8 p.f.g) ∧ w'.cell? ⟨w1.heap.size, 4, none⟩ = some (.int .u8 p.f.b) ∧ w'.cell? ⟨w1.heap.size, 5, none⟩ = some (.int .i64 p.b.k) ∧ w'.cell? ⟨w1.heap.size, 6, none⟩ = some (.int .u8 p.b.i) ∧ w'.cell? ⟨w1.heap.size, 7, none⟩ = some (.int .u8 p.b.r) ∧ w'.cell? ⟨w1.heap.size, 8, none⟩ = some (.int .u8 p.b.g) ∧ w'.cell? ⟨w1.heap.size, 9, none⟩ = some (.int .u8 p.b.b) ∧ w'.cell? ⟨w1.heap.size, 10, none⟩ = some (.int .u8 p.fl))) (by kernel_rfl) ?_ (fun hHeld => ?_)
      · (try dsimp only); (first | exact heldWP hHeld hj3 (by simp; omega) (by simp; omega) | exact heldWP hHeld ((Kept.refl [] _).alloc _) (by simp) (by simp) | exact ⟨hv0.out.kept hK2.drew (by simp), hp2.at.kept (Kept.refl [] w2).drew (by simp)⟩)
      refine wpAnyH_take (i := 0) (v := ?_) rfl (by kernel_rfl) (by kernel_rfl) (by kernel_rfl) (fun _ _ _ h => h) (Or.inl ⟨by rfl, ?_⟩) (by assumption) ?_
      rotate_left
      · (intro wq hSw; (try dsimp only at hSw); go_simp; try with_reducible rfl)
      try simp only [Act.put, List.getElem_toArray, List.getElem_cons_zero, List.setIfInBounds_toArray, List.set_cons_zero, List.set_cons_succ]
      refine wpAnyH_take (i := 1) (v := ?_) rfl (by kernel_rfl) (by kernel_rfl) (by kernel_rfl) (fun _ _ _ h => h) (Or.inl ⟨by rfl, ?_⟩) (by assumption) ?_
      rotate_left
      · (intro wq hSw; (try dsimp only at hSw); go_simp; try with_reducible rfl)
      try simp only [Act.put, List.getElem_toArray, List.getElem_cons_succ, List.getElem_cons_zero, List.setIfInBounds_toArray, List.set_cons_zero, List.set_cons_succ]
      refine wpAnyH_take (i := 2) (v := ?_) rfl (by kernel_rfl) (by kernel_rfl) (by kernel_rfl) (fun _ _ _ h => h) (Or.inl ⟨by rfl, ?_⟩) (by assumption) ?_
      rotate_left
      · (intro wq hSw; (try dsimp only at hSw); go_simp; try with_reducible rfl)
      try simp only [Act.put, List.getElem_toArray, List.getElem_cons_succ, List.getElem_cons_zero, List.setIfInBounds_toArray, List.set_cons_zero, List.set_cons_succ]
      refine wpAnyH_take (i := 3) (v := ?_) rfl (by kernel_rfl) (by kernel_rfl) (by kernel_rfl) (fun _ _ _ h => h) (Or.inl ⟨by rfl, ?_⟩) (by assumption) ?_
      rotate_left
      · (intro wq hSw; (try dsimp only at hSw); go_simp; try with_reducible rfl)
      try simp only [Act.put, List.getElem_toArray, List.getElem_cons_succ, List.getElem_cons_zero, List.setIfInBounds_toArray, List.set_cons_zero, List.set_cons_succ]
      refine wpAnyH_take (i := 4) (v := ?_) rfl (by kernel_rfl) (by kernel_rfl) (by kernel_rfl) (fun _ _ _ h => h) (Or.inl ⟨by rfl, ?_⟩) (by assumption) ?_
      rotate_left
      · (intro wq hSw; (try dsimp only at hSw); go_simp; try with_reducible rfl)
      try simp only [Act.put, List.getElem_toArray, List.getElem_cons_succ, List.getElem_cons_zero, List.setIfInBounds_toArray, List.set_cons_zero, List.set_cons_succ]
      refine wpAnyH_take (i := 5) (v := ?_) rfl (by kernel_rfl) (by kernel_rfl) (by kernel_rfl) (fun _ _ _ h => h) (Or.inl ⟨by rfl, ?_⟩) (by assumption) ?_
      rotate_left
      · (intro wq hSw; (try dsimp only at hSw); go_simp; try with_reducible rfl)
      try simp only [Act.put, List.getElem_toArray, List.getElem_cons_succ, List.getElem_cons_zero, List.setIfInBounds_toArray, List.set_cons_zero, List.set_cons_succ]
      refine wpAnyH_take (i := 6) (v := ?_) rfl (by kernel_rfl) (by kernel_rfl) (by kernel_rfl) (fun _ _ _ h => h) (Or.inl ⟨by rfl, ?_⟩) (by assumption) ?_
      rotate_left
      · (intro wq hSw; (try dsimp only at hSw); go_simp; try with_reducible rfl)
      try simp only [Act.put, List.getElem_toArray, List.getElem_cons_succ, List.getElem_cons_zero, List.setIfInBounds_toArray, List.set_cons_zero, List.set_cons_succ]
      refine wpAnyH_take (i := 7) (v := ?_) rfl (by kernel_rfl) (by kernel_rfl) (by kernel_rfl) (fun _ _ _ h => h) (Or.inl ⟨by rfl, ?_⟩) (by assumption) ?_
      rotate_left
      · (intro wq hSw; (try dsimp only at hSw); go_simp; try with_reducible rfl)
      try simp only [Act.put, List.getElem_toArray, List.getElem_cons_succ, List.getElem_cons_zero, List.setIfInBounds_toArray, List.set_cons_zero, List.set_cons_succ]
      refine wpAnyH_take (i := 8) (v := ?_) rfl (by kernel_rfl) (by kernel_rfl) (by kernel_rfl) (fun _ _ _ h => h) (Or.inl ⟨by rfl, ?_⟩) (by assumption) ?_
      rotate_left
      · (intro wq hSw; (try dsimp only at hSw); go_simp; try with_reducible rfl)
      try simp only [Act.put, List.getElem_toArray, List.getElem_cons_succ, List.getElem_cons_zero, List.setIfInBounds_toArray, List.set_cons_zero, List.set_cons_succ]
      refine wpAnyH_take (i := 9) (v := ?_) rfl (by kernel_rfl) (by kernel_rfl) (by kernel_rfl) (fun _ _ _ h => h) (Or.inl ⟨by rfl, ?_⟩) (by assumption) ?_
      rotate_left
      · (intro wq hSw; (try dsimp only at hSw); go_simp; try with_reducible rfl)
      try simp only [Act.put, List.getElem_toArray, List.getElem_cons_succ, List.getElem_cons_zero, List.setIfInBounds_toArray, List.set_cons_zero, List.set_cons_succ]
      refine wpAnyH_take (i := 10) (v := ?_) rfl (by kernel_rfl) (by kernel_rfl) (by kernel_rfl) (fun _ _ _ h => h) (Or.inl ⟨by rfl, ?_⟩) (by assumption) ?_
      rotate_left
      · (intro wq hSw; (try dsimp only at hSw); go_simp; try with_reducible rfl)
      try simp only [Act.put, List.getElem_toArray, List.getElem_cons_succ, List.getElem_cons_zero, List.setIfInBounds_toArray, List.set_cons_zero, List.set_cons_succ]
      refine wpAnyH_take (i := 11) (v := ?_) rfl (by kernel_rfl) (by kernel_rfl) (by kernel_rfl) (fun _ _ _ h => h) (Or.inl ⟨by rfl, ?_⟩) (by assumption) ?_
      rotate_left
      · (intro wq hSw; (try dsimp only at hSw); go_simp; try with_reducible rfl)
      try simp only [Act.put, List.getElem_toArray, List.getElem_cons_succ, List.getElem_cons_zero, List.setIfInBounds_toArray, List.set_cons_zero, List.set_cons_succ]
      refine wpAnyH_ready (rs := [12]) (by kernel_rfl) (by simp) ?_
      refine AllReadyH.cons rfl (fun K hK => ?_) AllReadyH.nil
      go_simp
      try go_wp2_with fail
      refine hK.out _ _ ?_ (fun hHeld => ?_)
      · (try dsimp only); (first | exact heldWP hHeld hj3 (by simp; omega) (by simp; omega) | exact heldWP hHeld ((Kept.refl [] _).alloc _) (by simp) (by simp) | exact ⟨hv0.out.kept hK2.drew (by simp), hp2.at.kept (Kept.refl [] w2).drew (by simp)⟩)
      clear hK K
      try simp only [Act.put, List.getElem_toArray, List.getElem_cons_succ, List.getElem_cons_zero, List.setIfInBounds_toArray, List.set_cons_zero, List.set_cons_succ]
      refine wpAnyH_ready (rs := [13]) (by kernel_rfl) (by simp) ?_
      refine AllReadyH.cons rfl (fun K hK => ?_) AllReadyH.nil
      rw [if_pos (by rfl)]
      refine wp_store_cel rfl rfl w2.heap.size rfl (CelIn.new w2.drew zeroK) ⟨IntKind.i32.wrap (v.b.tmod 2097152), 0, 0, 0, IntKind.i64.wrap (IntKind.u64.wrap (v.b.tdiv 2097152)), p⟩ rfl ?_; intro w3 hc3 hj3
      refine hK.out _ _ ?_ (fun hHeld => ?_)
      · (try dsimp only); (first | exact heldWP hHeld hj3 (by simp; omega) (by simp; omega) | exact heldWP hHeld ((Kept.refl [] _).alloc _) (by simp) (by simp) | exact ⟨hv0.out.kept hK2.drew (by simp), hp2.at.kept (Kept.refl [] w2).drew (by simp)⟩)
      clear hK K
      try simp only [Act.put, List.getElem_toArray, List.getElem_cons_succ, List.getElem_cons_zero, List.setIfInBounds_toArray, List.set_cons_zero, List.set_cons_succ]
      refine wpAnyH_done (by kernel_rfl) ?_ _
      have e3 : (⟨IntKind.i32.wrap (v.b.tmod 2097152), 0, 0, 0, IntKind.i64.wrap (IntKind.u64.wrap (v.b.tdiv 2097152)), p⟩ : Cl) = ⟨v.b % 2097152, 0, 0, 0, v.b / 2097152, p⟩ := by
        rw [Int.tmod_eq_emod_of_nonneg b0, Int.tdiv_eq_ediv_of_nonneg b0, wraps_u64 (v.b / 2097152) (by omega) (by omega), IntKind.wrap_i64, IntKind.wrap_i32]
        simp only [Cl.mk.injEq, and_true, true_and]
        omega
      have hc3' : CelIn w3 w2.heap.size _ := hc3
      rw [e3] at hc3'
      have hw2 : W0.heap.size ≤ w2.heap.size := hK2.size
      have hK3 : Kept [] W0 w3 := (hK2.drew.alloc _).trans hj3 (by intro z hz; simp at hz; omega)
      clear hHeld hj3 hc3 e3
      generalize w2.heap.size = b3 at *
      have hc3 := hide hc3'
      obtain ⟨f0, f1, f2, f3, _⟩ := hc3'.froz
      obtain ⟨s0, s1, s2, s3, _⟩ := hc3'.at
      obtain ⟨q0, q1, q2⟩ := hv0.out.kept hK3 (by simp)
      go_upto_region 6 with fail
      go_region_held3 (fun w' => (w'.cell? ⟨w.heap.size, 0, none⟩ = some (.int .u64 v.a) ∧ w'.cell? ⟨w.heap.size, 1, none⟩ = some (.int .u64 v.b) ∧ w'.cell? ⟨w.heap.size, 2, none⟩ = some (.int .u64 v.c)))
        (first
          | exact heldV (hv0.out.kept hK3 (by simp)) ((((Kept.refl [b3] w3).drew.setCell (.inl (by simp)) _).setCell (.inl (by simp)) _).setCell (.inl (by simp)) _) (by simp; omega)
          | exact heldV (hv0.out.kept hK3 (by simp)) (((Kept.refl [b3] w3).drew.setCell (.inl (by simp)) _).setCell (.inl (by simp)) _) (by simp; omega)
          | exact heldV (hv0.out.kept hK3 (by simp)) ((Kept.refl [b3] w3).drew.setCell (.inl (by simp)) _) (by simp; omega)
          | exact heldV (hv0.out.kept hK3 (by simp)) (Kept.refl [] w3).drew (by simp))
        (fail)
      have hc6 := ((hc3.out.mark0 (IntKind.i32.wrap (v.c.tmod 2097152))).mark1 (IntKind.i32.wrap ((IntKind.u64.wrap (v.c.tdiv 2097152)).tmod 2097152))).mark2 (IntKind.i32.wrap ((IntKind.u64.wrap ((IntKind.u64.wrap (v.c.tdiv 2097152)).tdiv 2097152)).tmod 2097152))
      have e6 : setM (setM (setM (⟨v.b % 2097152, 0, 0, 0, v.b / 2097152, p⟩ : Cl) 0 (IntKind.i32.wrap (v.c.tmod 2097152))) 1 (IntKind.i32.wrap ((IntKind.u64.wrap (v.c.tdiv 2097152)).tmod 2097152))) 2 (IntKind.i32.wrap ((IntKind.u64.wrap ((IntKind.u64.wrap (v.c.tdiv 2097152)).tdiv 2097152)).tmod 2097152)) = X := by
        rw [hX.out, Int.tdiv_eq_ediv_of_nonneg c0, wraps_u64 (v.c / 2097152) (by omega) (by omega), Int.tdiv_eq_ediv_of_nonneg (by omega : 0 ≤ v.c / 2097152), wraps_u64 (v.c / 2097152 / 2097152) (by omega) (by omega), Int.tmod_eq_emod_of_nonneg c0, Int.tmod_eq_emod_of_nonneg (by omega : 0 ≤ v.c / 2097152), Int.tmod_eq_emod_of_nonneg (by omega : 0 ≤ v.c / 2097152 / 2097152), IntKind.wrap_i32, IntKind.wrap_i32, IntKind.wrap_i32]
        simp only [setM, Cl.mk.injEq, and_true, true_and]
        omega
      rw [e6] at hc6
      clear e6 hX
      have hk6 : Kept [] W0 (((w3.setCell ⟨b3, 1, none⟩ (.int .i32 (IntKind.i32.wrap (v.c.tmod 2097152)))).setCell ⟨b3, 2, none⟩ (.int .i32 (IntKind.i32.wrap ((IntKind.u64.wrap (v.c.tdiv 2097152)).tmod 2097152)))).setCell ⟨b3, 3, none⟩ (.int .i32 (IntKind.i32.wrap ((IntKind.u64.wrap ((IntKind.u64.wrap (v.c.tdiv 2097152)).tdiv 2097152)).tmod 2097152)))) := ((hK3.setCell (.inr hw2) _).setCell (.inr hw2) _).setCell (.inr hw2) _
      generalize ((w3.setCell ⟨b3, 1, none⟩ (.int .i32 (IntKind.i32.wrap (v.c.tmod 2097152)))).setCell ⟨b3, 2, none⟩ (.int .i32 (IntKind.i32.wrap ((IntKind.u64.wrap (v.c.tdiv 2097152)).tmod 2097152)))).setCell ⟨b3, 3, none⟩ (.int .i32 (IntKind.i32.wrap ((IntKind.u64.wrap ((IntKind.u64.wrap (v.c.tdiv 2097152)).tdiv 2097152)).tmod 2097152))) = w6' at *
      replace hc6 := hide (show CelIn w6'.drew b3 X from hc6)
      replace hk6 : Kept [] W0 w6'.drew := hk6.drew
      generalize w6'.drew = w6 at *
      clear f0 f1 f2 f3 s0 s1 s2 s3 q0 q1 q2 hc3 hc3' hp2 hk2' hK2 hK3
      cases hv : validC X
      · rw [hv] at hV
        have hok : ok = false := by rw [hO.out, hv]; rfl
        subst hok
        go_upto_region 7 with fail
        refine wp_region_held_drew (S := (fun w' => CelR w' b3 0 X)) (by kernel_rfl) ?_ (fun hHeld => ?_)
        · (try dsimp only); (first | exact (hc6.out.kept hk9 (by simp; omega)).range | exact (hc6.out.kept hk8 (by simp)).range | exact (hc6.out.kept (Kept.refl [] w6).drew (by simp)).range)
        refine wpAnyH_take (i := 0) (v := (.agg #[.int .i32 X.r, .int .i32 X.m0, .int .i32 X.m1, .int .i32 X.m2, .int .i64 X.w, .int .i64 X.p.f.k, .int .u8 X.p.f.i, .int .u8 X.p.f.r, .int .u8 X.p.f.g, .int .u8 X.p.f.b, .int .i64 X.p.b.k, .int .u8 X.p.b.i, .int .u8 X.p.b.r, .int .u8 X.p.b.g, .int .u8 X.p.b.b, .int .u8 X.p.fl])) rfl (by kernel_rfl) (by kernel_rfl) (by kernel_rfl) (fun _ _ _ h => h) (yieldsIf_load_mid (by rfl) 30 _ rfl b3 0 rfl (kcL X) _ (fun _ h => h) Tryd.underlying30 rfl (by kernel_rfl)) (by assumption) ?_
        try simp only [Act.put, List.getElem_toArray, List.getElem_cons_zero, List.setIfInBounds_toArray, List.set_cons_zero, List.set_cons_succ]
        refine wpAnyH_take (i := 1) (v := (.agg #[.int .i32 X.r, .int .i32 X.m0, .int .i32 X.m1, .int .i32 X.m2, .int .i64 X.w, .int .i64 X.p.f.k, .int .u8 X.p.f.i, .int .u8 X.p.f.r, .int .u8 X.p.f.g, .int .u8 X.p.f.b, .int .i64 X.p.b.k, .int .u8 X.p.b.i, .int .u8 X.p.b.r, .int .u8 X.p.b.g, .int .u8 X.p.b.b, .int .u8 X.p.fl])) rfl (by kernel_rfl) (by kernel_rfl) (by kernel_rfl) (fun _ _ _ h => h) (yieldsIf_load_mid (by rfl) 30 _ rfl b3 0 rfl (kcL X) _ (fun _ h => h) Tryd.underlying30 rfl (by kernel_rfl)) (by assumption) ?_
        try simp only [Act.put, List.getElem_toArray, List.getElem_cons_succ, List.getElem_cons_zero, List.setIfInBounds_toArray, List.set_cons_zero, List.set_cons_succ]
        refine wpAnyH_ready (rs := [2]) (by kernel_rfl) (by simp) ?_
        refine AllReadyH.cons rfl (fun K hK => ?_) AllReadyH.nil
        go_simp
        refine (hV.out w6.drew).mono ?_; rintro e w8 ⟨rfl, hj8⟩; have hk8 : Kept [] w6 w8 := (Kept.refl [] w6).drew.trans hj8 (by simp)
        try go_wp2_with fail
        refine hK.out _ _ ?_ (fun hHeld => ?_)
        · (try dsimp only); (first | exact (hc6.out.kept hk9 (by simp; omega)).range | exact (hc6.out.kept hk8 (by simp)).range | exact (hc6.out.kept (Kept.refl [] w6).drew (by simp)).range)
        clear hK K
        try simp only [Act.put, List.getElem_toArray, List.getElem_cons_succ, List.getElem_cons_zero, List.setIfInBounds_toArray, List.set_cons_zero, List.set_cons_succ]
        refine wpAnyH_take (i := 3) (v := ?_) rfl (by kernel_rfl) (by kernel_rfl) (by kernel_rfl) (fun _ _ _ h => h) (Or.inl ⟨by rfl, ?_⟩) (by assumption) ?_
        rotate_left
        · (intro wq hSw; (try dsimp only at hSw); go_simp; try with_reducible rfl)
        try simp only [Act.put, List.getElem_toArray, List.getElem_cons_succ, List.getElem_cons_zero, List.setIfInBounds_toArray, List.set_cons_zero, List.set_cons_succ]
        refine wpAnyH_take (i := 4) (v := undef) rfl (by kernel_rfl) (by kernel_rfl) (by kernel_rfl) (fun _ _ _ h => h) (Or.inr ⟨by rfl, rfl⟩) (by assumption) ?_
        try simp only [Act.put, List.getElem_toArray, List.getElem_cons_succ, List.getElem_cons_zero, List.setIfInBounds_toArray, List.set_cons_zero, List.set_cons_succ]
        refine wpAnyH_take (i := 5) (v := undef) rfl (by kernel_rfl) (by kernel_rfl) (by kernel_rfl) (fun _ _ _ h => h) (Or.inr ⟨by rfl, rfl⟩) (by assumption) ?_
        try simp only [Act.put, List.getElem_toArray, List.getElem_cons_succ, List.getElem_cons_zero, List.setIfInBounds_toArray, List.set_cons_zero, List.set_cons_succ]
        refine wpAnyH_take (i := 6) (v := undef) rfl (by kernel_rfl) (by kernel_rfl) (by kernel_rfl) (fun _ _ _ h => h) (Or.inr ⟨by rfl, rfl⟩) (by assumption) ?_
        try simp only [Act.put, List.getElem_toArray, List.getElem_cons_succ, List.getElem_cons_zero, List.setIfInBounds_toArray, List.set_cons_zero, List.set_cons_succ]
        refine wpAnyH_take (i := 7) (v := undef) rfl (by kernel_rfl) (by kernel_rfl) (by kernel_rfl) (fun _ _ _ h => h) (Or.inr ⟨by rfl, rfl⟩) (by assumption) ?_
        try simp only [Act.put, List.getElem_toArray, List.getElem_cons_succ, List.getElem_cons_zero, List.setIfInBounds_toArray, List.set_cons_zero, List.set_cons_succ]
        refine wpAnyH_take (i := 8) (v := ?_) rfl (by kernel_rfl) (by kernel_rfl) (by kernel_rfl) (fun _ _ _ h => h) (Or.inl ⟨by rfl, ?_⟩) (by assumption) ?_
        rotate_left
        · (intro wq hSw; (try dsimp only at hSw); go_simp; try with_reducible rfl)
        try simp only [Act.put, List.getElem_toArray, List.getElem_cons_succ, List.getElem_cons_zero, List.setIfInBounds_toArray, List.set_cons_zero, List.set_cons_succ]
        refine wpAnyH_ready (rs := [9]) (by kernel_rfl) (by simp) ?_
        refine AllReadyH.cons rfl (fun K hK => ?_) AllReadyH.nil
        rw [if_pos (by rfl)]
        refine wp_store_cel rfl rfl (w.heap.size + 1) rfl (hz0.out.kept (hk6.trans hk8 (by simp)) (by simp)) X rfl ?_; intro w9 hc9 hj9; have hk9 : Kept [w.heap.size + 1] w6 w9 := (hk8.mono (by simp)).trans hj9 (by simp)
        refine hK.out _ _ ?_ (fun hHeld => ?_)
        · (try dsimp only); (first | exact (hc6.out.kept hk9 (by simp; omega)).range | exact (hc6.out.kept hk8 (by simp)).range | exact (hc6.out.kept (Kept.refl [] w6).drew (by simp)).range)
        clear hK K
        try simp only [Act.put, List.getElem_toArray, List.getElem_cons_succ, List.getElem_cons_zero, List.setIfInBounds_toArray, List.set_cons_zero, List.set_cons_succ]
        refine wpAnyH_take (i := 10) (v := ?_) rfl (by kernel_rfl) (by kernel_rfl) (by kernel_rfl) (fun _ _ _ h => h) (Or.inl ⟨by rfl, ?_⟩) (by assumption) ?_
        rotate_left
        · (intro wq hSw; (try dsimp only at hSw); go_simp; try with_reducible rfl)
        try simp only [Act.put, List.getElem_toArray, List.getElem_cons_succ, List.getElem_cons_zero, List.setIfInBounds_toArray, List.set_cons_zero, List.set_cons_succ]
        refine wpAnyH_done (by kernel_rfl) ?_ _
        go_wp2_with fail
        refine bodyPost_ret (results_cel2 rfl rfl hc9 (v := .bool false) rfl) rfl ?_
        exact ⟨X, rfl, by simp, (hk0.trans hk6 (by simp)).trans hk9 (by simp)⟩
      · rw [hv] at hV
        have hY := hide (hWd.out hv)
        clear hWd
        generalize wordsC X = y at *
        have hq := fun w => eql_W y v w
        obtain ⟨x, hx⟩ : ∃ x, x = decide (y = v) := ⟨_, rfl⟩
        have hok : ok = x := by rw [hO.out, hv, hx]; rfl
        rw [← hx] at hq
        clear hx
        subst hok
        go_upto_region 7 with fail
        refine wp_region_held_drew (S := (fun w' => CelR w' b3 0 X ∧ w'.cell? ⟨w.heap.size, 0, none⟩ = some (.int .u64 v.a) ∧ w'.cell? ⟨w.heap.size, 1, none⟩ = some (.int .u64 v.b) ∧ w'.cell? ⟨w.heap.size, 2, none⟩ = some (.int .u64 v.c))) (by kernel_rfl) ?_ (fun hHeld => ?_)
        · (try dsimp only); (first | exact ⟨(hc6.out.kept hk10 (by simp; omega)).range, hv0.out.kept (hk6.trans' hk10) (by simp)⟩ | exact ⟨(hc6.out.kept hk9 (by simp)).range, hv0.out.kept (hk6.trans hk9 (by simp)) (by simp)⟩ | exact ⟨(hc6.out.kept hk8 (by simp)).range, hv0.out.kept (hk6.trans hk8 (by simp)) (by simp)⟩ | exact ⟨(hc6.out.kept (Kept.refl [] w6).drew (by simp)).range, hv0.out.kept hk6.drew (by simp)⟩)
        refine wpAnyH_take (i := 0) (v := (.agg #[.int .i32 X.r, .int .i32 X.m0, .int .i32 X.m1, .int .i32 X.m2, .int .i64 X.w, .int .i64 X.p.f.k, .int .u8 X.p.f.i, .int .u8 X.p.f.r, .int .u8 X.p.f.g, .int .u8 X.p.f.b, .int .i64 X.p.b.k, .int .u8 X.p.b.i, .int .u8 X.p.b.r, .int .u8 X.p.b.g, .int .u8 X.p.b.b, .int .u8 X.p.fl])) rfl (by kernel_rfl) (by kernel_rfl) (by kernel_rfl) (fun _ _ _ h => h) (yieldsIf_load_mid (by rfl) 30 _ rfl b3 0 rfl (kcL X) _ (fun _ h => h.1) Tryd.underlying30 rfl (by kernel_rfl)) (by assumption) ?_
        try simp only [Act.put, List.getElem_toArray, List.getElem_cons_zero, List.setIfInBounds_toArray, List.set_cons_zero, List.set_cons_succ]
        refine wpAnyH_take (i := 1) (v := (.agg #[.int .i32 X.r, .int .i32 X.m0, .int .i32 X.m1, .int .i32 X.m2, .int .i64 X.w, .int .i64 X.p.f.k, .int .u8 X.p.f.i, .int .u8 X.p.f.r, .int .u8 X.p.f.g, .int .u8 X.p.f.b, .int .i64 X.p.b.k, .int .u8 X.p.b.i, .int .u8 X.p.b.r, .int .u8 X.p.b.g, .int .u8 X.p.b.b, .int .u8 X.p.fl])) rfl (by kernel_rfl) (by kernel_rfl) (by kernel_rfl) (fun _ _ _ h => h) (yieldsIf_load_mid (by rfl) 30 _ rfl b3 0 rfl (kcL X) _ (fun _ h => h.1) Tryd.underlying30 rfl (by kernel_rfl)) (by assumption) ?_
        try simp only [Act.put, List.getElem_toArray, List.getElem_cons_succ, List.getElem_cons_zero, List.setIfInBounds_toArray, List.set_cons_zero, List.set_cons_succ]
        refine wpAnyH_ready (rs := [2]) (by kernel_rfl) (by simp) ?_
        refine AllReadyH.cons rfl (fun K hK => ?_) AllReadyH.nil
        go_simp
        refine (hV.out w6.drew).mono ?_; rintro e w8 ⟨rfl, hj8⟩; have hk8 : Kept [] w6 w8 := (Kept.refl [] w6).drew.trans hj8 (by simp)
        try go_wp2_with fail
        refine hK.out _ _ ?_ (fun hHeld => ?_)
        · (try dsimp only); (first | exact ⟨(hc6.out.kept hk10 (by simp; omega)).range, hv0.out.kept (hk6.trans' hk10) (by simp)⟩ | exact ⟨(hc6.out.kept hk9 (by simp)).range, hv0.out.kept (hk6.trans hk9 (by simp)) (by simp)⟩ | exact ⟨(hc6.out.kept hk8 (by simp)).range, hv0.out.kept (hk6.trans hk8 (by simp)) (by simp)⟩ | exact ⟨(hc6.out.kept (Kept.refl [] w6).drew (by simp)).range, hv0.out.kept hk6.drew (by simp)⟩)
        clear hK K
        try simp only [Act.put, List.getElem_toArray, List.getElem_cons_succ, List.getElem_cons_zero, List.setIfInBounds_toArray, List.set_cons_zero, List.set_cons_succ]
        refine wpAnyH_take (i := 3) (v := ?_) rfl (by kernel_rfl) (by kernel_rfl) (by kernel_rfl) (fun _ _ _ h => h) (Or.inl ⟨by rfl, ?_⟩) (by assumption) ?_
        rotate_left
        · (intro wq hSw; (try dsimp only at hSw); go_simp; try with_reducible rfl)
        try simp only [Act.put, List.getElem_toArray, List.getElem_cons_succ, List.getElem_cons_zero, List.setIfInBounds_toArray, List.set_cons_zero, List.set_cons_succ]
        refine wpAnyH_take (i := 4) (v := (.agg #[.int .i32 X.r, .int .i32 X.m0, .int .i32 X.m1, .int .i32 X.m2, .int .i64 X.w, .int .i64 X.p.f.k, .int .u8 X.p.f.i, .int .u8 X.p.f.r, .int .u8 X.p.f.g, .int .u8 X.p.f.b, .int .i64 X.p.b.k, .int .u8 X.p.b.i, .int .u8 X.p.b.r, .int .u8 X.p.b.g, .int .u8 X.p.b.b, .int .u8 X.p.fl])) rfl (by kernel_rfl) (by kernel_rfl) (by kernel_rfl) (fun _ _ _ h => h) (yieldsIf_load_mid (by rfl) 30 _ rfl b3 0 rfl (kcL X) _ (fun _ h => h.1) Tryd.underlying30 rfl (by kernel_rfl)) (by assumption) ?_
        try simp only [Act.put, List.getElem_toArray, List.getElem_cons_succ, List.getElem_cons_zero, List.setIfInBounds_toArray, List.set_cons_zero, List.set_cons_succ]
        refine wpAnyH_take (i := 6) (v := ?_) rfl (by kernel_rfl) (by kernel_rfl) (by kernel_rfl) (fun _ _ _ h => h) (Or.inl ⟨by rfl, ?_⟩) (by assumption) ?_
        rotate_left
        · (intro wq hSw; (try dsimp only at hSw); go_simp; try with_reducible rfl)
        try simp only [Act.put, List.getElem_toArray, List.getElem_cons_succ, List.getElem_cons_zero, List.setIfInBounds_toArray, List.set_cons_zero, List.set_cons_succ]
        refine wpAnyH_ready (rs := [5]) (by kernel_rfl) (by simp) ?_
        refine AllReadyH.cons rfl (fun K hK => ?_) AllReadyH.nil
        go_simp
        refine (hY.out w8).mono ?_; rintro e w9 ⟨rfl, hj9⟩; have hk9 : Kept [] w6 w9 := hk8.trans hj9 (by simp)
        try go_wp2_with fail
        refine hK.out _ _ ?_ (fun hHeld => ?_)
        · (try dsimp only); (first | exact ⟨(hc6.out.kept hk10 (by simp; omega)).range, hv0.out.kept (hk6.trans' hk10) (by simp)⟩ | exact ⟨(hc6.out.kept hk9 (by simp)).range, hv0.out.kept (hk6.trans hk9 (by simp)) (by simp)⟩ | exact ⟨(hc6.out.kept hk8 (by simp)).range, hv0.out.kept (hk6.trans hk8 (by simp)) (by simp)⟩ | exact ⟨(hc6.out.kept (Kept.refl [] w6).drew (by simp)).range, hv0.out.kept hk6.drew (by simp)⟩)
        clear hK K
        try simp only [Act.put, List.getElem_toArray, List.getElem_cons_succ, List.getElem_cons_zero, List.setIfInBounds_toArray, List.set_cons_zero, List.set_cons_succ]
        refine wpAnyH_take (i := 7) (v := ?_) rfl (by kernel_rfl) (by kernel_rfl) (by kernel_rfl) (fun _ _ _ h => h) (Or.inl ⟨by rfl, ?_⟩) (by assumption) ?_
        rotate_left
        · (intro wq hSw; (try dsimp only at hSw); go_simp; try with_reducible rfl)
        try simp only [Act.put, List.getElem_toArray, List.getElem_cons_succ, List.getElem_cons_zero, List.setIfInBounds_toArray, List.set_cons_zero, List.set_cons_succ]
        refine wpAnyH_take (i := 8) (v := ?_) rfl (by kernel_rfl) (by kernel_rfl) (by kernel_rfl) (fun _ _ _ h => h) (Or.inl ⟨by rfl, ?_⟩) (by assumption) ?_
        rotate_left
        · (intro wq hSw; (try dsimp only at hSw); go_simp; try with_reducible rfl)
        try simp only [Act.put, List.getElem_toArray, List.getElem_cons_succ, List.getElem_cons_zero, List.setIfInBounds_toArray, List.set_cons_zero, List.set_cons_succ]
        refine wpAnyH_ready (rs := [9]) (by kernel_rfl) (by simp) ?_
        refine AllReadyH.cons rfl (fun K hK => ?_) AllReadyH.nil
        rw [if_pos (by rfl)]
        refine wp_store_cel rfl rfl (w.heap.size + 1) rfl (hz0.out.kept (hk6.trans hk9 (by simp)) (by simp)) X rfl ?_; intro w10 hc10 hj10; have hk10 : Kept [w.heap.size + 1] w6 w10 := (hk9.mono (by simp)).trans hj10 (by simp)
        refine hK.out _ _ ?_ (fun hHeld => ?_)
        · (try dsimp only); (first | exact ⟨(hc6.out.kept hk10 (by simp; omega)).range, hv0.out.kept (hk6.trans' hk10) (by simp)⟩ | exact ⟨(hc6.out.kept hk9 (by simp)).range, hv0.out.kept (hk6.trans hk9 (by simp)) (by simp)⟩ | exact ⟨(hc6.out.kept hk8 (by simp)).range, hv0.out.kept (hk6.trans hk8 (by simp)) (by simp)⟩ | exact ⟨(hc6.out.kept (Kept.refl [] w6).drew (by simp)).range, hv0.out.kept hk6.drew (by simp)⟩)
        clear hK K
        try simp only [Act.put, List.getElem_toArray, List.getElem_cons_succ, List.getElem_cons_zero, List.setIfInBounds_toArray, List.set_cons_zero, List.set_cons_succ]
        refine wpAnyH_take (i := 10) (v := ?_) rfl (by kernel_rfl) (by kernel_rfl) (by kernel_rfl) (fun _ _ _ h => h) (Or.inl ⟨by rfl, ?_⟩) (by assumption) ?_
        rotate_left
        · (intro wq hSw; (try dsimp only at hSw); go_simp; try with_reducible rfl)
        try simp only [Act.put, List.getElem_toArray, List.getElem_cons_succ, List.getElem_cons_zero, List.setIfInBounds_toArray, List.set_cons_zero, List.set_cons_succ]
        refine wpAnyH_done (by kernel_rfl) ?_ _
        go_wp2_with fail
        refine bodyPost_ret (results_cel2 rfl rfl hc10 (v := .bool ok) rfl) rfl ?_
        exact ⟨X, rfl, fun _ => rfl, (hk0.trans hk6 (by simp)).trans hk10 (by simp)⟩
  · have hue : (pa == v.a) = false := by simpa using hu0
    obtain rfl := hbad.out hu0
    have z2 := hz0.out.kept hK2 (by simp)
    go_wp2_with (refine wpList_store_cel rfl rfl rfl (w.heap.size + 1) rfl z2 zeroK rfl ?_; intro w3 hc3 hk3)
    refine bodyPost_ret (results_cel2 rfl rfl hc3 (v := .bool false) rfl) rfl ?_
    exact ⟨⟨zeroK, rfl⟩, (hk0.trans hK2 (by simp)).trans hk3 (by simp)⟩
end Go.Proofs.YtpdjlollijbdeaaDoor
