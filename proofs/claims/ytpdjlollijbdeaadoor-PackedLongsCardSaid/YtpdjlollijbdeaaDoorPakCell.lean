/- The cell of words: the program's. -/
import Derived.Test.YtpdjlollijbdeaaDoorPakWord
import Derived.Test.YtpdjlollijbdeaaDoorCelSt
namespace Go.Proofs.YtpdjlollijbdeaaDoor
open Go.RowKit
set_option linter.unusedVariables false
set_option maxRecDepth 10000

theorem unpack_good {w : W3} (h : packI (unpackI w.a) = w.a) : unpackE w.a = (unpackI w.a, 0) := if_pos h
theorem unpack_none {w : W3} (h : packI (unpackI w.a) ≠ w.a) : unpackE w.a = (zeroP, 12) := if_neg h

theorem PenIn.lt' {w : World} {b : Nat} {p : Pn} (h : PenIn w b p) : b < w.heap.size := World.block_lt_of_cell? w _ h.at.1
theorem share1 {F : Nat → World → Prop} {G : Nat → World → Prop} {goal : Prop} (k : (∀ b W, F b W → G b W) → goal) (h : ∀ b W, F b W → G b W) : goal := k h
theorem heldWP {S : List Nat} {w w' : World} {b1 b2 : Nat} {v : W3} {p : Pn} (h : (w.cell? ⟨b1, 0, none⟩ = some (.int .u64 v.a) ∧ w.cell? ⟨b1, 1, none⟩ = some (.int .u64 v.b) ∧ w.cell? ⟨b1, 2, none⟩ = some (.int .u64 v.c)) ∧ w.cell? ⟨b2, 0, none⟩ = some (.int .i64 p.f.k) ∧ w.cell? ⟨b2, 1, none⟩ = some (.int .u8 p.f.i) ∧ w.cell? ⟨b2, 2, none⟩ = some (.int .u8 p.f.r) ∧ w.cell? ⟨b2, 3, none⟩ = some (.int .u8 p.f.g) ∧ w.cell? ⟨b2, 4, none⟩ = some (.int .u8 p.f.b) ∧ w.cell? ⟨b2, 5, none⟩ = some (.int .i64 p.b.k) ∧ w.cell? ⟨b2, 6, none⟩ = some (.int .u8 p.b.i) ∧ w.cell? ⟨b2, 7, none⟩ = some (.int .u8 p.b.r) ∧ w.cell? ⟨b2, 8, none⟩ = some (.int .u8 p.b.g) ∧ w.cell? ⟨b2, 9, none⟩ = some (.int .u8 p.b.b) ∧ w.cell? ⟨b2, 10, none⟩ = some (.int .u8 p.fl)) (hk : Kept S w w') (h1 : b1 ∉ S) (h2 : b2 ∉ S) : (w'.cell? ⟨b1, 0, none⟩ = some (.int .u64 v.a) ∧ w'.cell? ⟨b1, 1, none⟩ = some (.int .u64 v.b) ∧ w'.cell? ⟨b1, 2, none⟩ = some (.int .u64 v.c)) ∧ w'.cell? ⟨b2, 0, none⟩ = some (.int .i64 p.f.k) ∧ w'.cell? ⟨b2, 1, none⟩ = some (.int .u8 p.f.i) ∧ w'.cell? ⟨b2, 2, none⟩ = some (.int .u8 p.f.r) ∧ w'.cell? ⟨b2, 3, none⟩ = some (.int .u8 p.f.g) ∧ w'.cell? ⟨b2, 4, none⟩ = some (.int .u8 p.f.b) ∧ w'.cell? ⟨b2, 5, none⟩ = some (.int .i64 p.b.k) ∧ w'.cell? ⟨b2, 6, none⟩ = some (.int .u8 p.b.i) ∧ w'.cell? ⟨b2, 7, none⟩ = some (.int .u8 p.b.r) ∧ w'.cell? ⟨b2, 8, none⟩ = some (.int .u8 p.b.g) ∧ w'.cell? ⟨b2, 9, none⟩ = some (.int .u8 p.b.b) ∧ w'.cell? ⟨b2, 10, none⟩ = some (.int .u8 p.fl) :=
  ⟨W3At.kept (c := v) h.1 hk h1, PenAt.kept (p := p) h.2 hk h2⟩
set_option maxHeartbeats 2000000 in
theorem Cell_any (v : W3) (hb : W3B v) (w : World) (ht : Tabs w) : Calls Tryd.prog 33 #[.agg #[.int .u64 v.a, .int .u64 v.b, .int .u64 v.c]] w fun e w' => e = .returned (.tuple #[.agg #[.int .i32 (cellE v).1.r, .int .i32 (cellE v).1.m0, .int .i32 (cellE v).1.m1, .int .i32 (cellE v).1.m2, .int .i64 (cellE v).1.w, .int .i64 (cellE v).1.p.f.k, .int .u8 (cellE v).1.p.f.i, .int .u8 (cellE v).1.p.f.r, .int .u8 (cellE v).1.p.f.g, .int .u8 (cellE v).1.p.f.b, .int .i64 (cellE v).1.p.b.k, .int .u8 (cellE v).1.p.b.i, .int .u8 (cellE v).1.p.b.r, .int .u8 (cellE v).1.p.b.g, .int .u8 (cellE v).1.p.b.b, .int .u8 (cellE v).1.p.fl], .int .i64 (cellE v).2]) ∧ Kept [] w w' := by
  obtain ⟨W0, hW0⟩ : ∃ x : World, x = (w.alloc (.cells #[.int .u64 v.a, .int .u64 v.b, .int .u64 v.c] 34)).alloc (.cells #[.int .i32 0, .int .i32 0, .int .i32 0, .int .i32 0, .int .i64 0, .int .i64 0, .int .u8 0, .int .u8 0, .int .u8 0, .int .u8 0, .int .i64 0, .int .u8 0, .int .u8 0, .int .u8 0, .int .u8 0, .int .u8 0] 30) := ⟨_, rfl⟩
  have hk0 : Kept [] w W0 := by rw [hW0]; exact ((Kept.refl [] w).alloc _).alloc _
  have hv0 : Hid (W3At W0 w.heap.size v) := hide (by rw [hW0]; exact (W3At.new w v).kept ((Kept.refl [] _).alloc _) (by simp))
  have hz0 : Hid (CelIn W0 (w.heap.size + 1) zeroK) := hide (by rw [hW0]; exact heap_new_at (by simp))
  have hs0 : w.heap.size + 1 < W0.heap.size := by rw [hW0]; simp
  by_cases hu : packI (unpackI v.a) = v.a
  · have hU := hide (fun w1 => Unpack_is v.a hb.a _ _ (unpack_good hu) w1)
    have hR := hide (fun w1 => runeOf_any v.b hb.b w1)
    have hM := hide (fun w1 => marksOf_any v.c hb.c w1)
    have hWd := hide (fun w1 (hk : Kept [] W0 w1) => Words_any (cellU v) (cell_pn v) w1 ((ht.kept hk0).kept hk))
    have b0 := hb.b.1
    have b1 := hb.b.2
    clear ht hu
    generalize hp' : unpackI v.a = p at hU
    have hp := hide hp'
    clear hp'
    have hE := hide (show wordsE (cellU v) = if validC (cellU v) = true then (wordsC (cellU v), 0) else (zeroW, 2) from rfl)
    have hO := hide (show okW v = (validC (cellU v) && decide (wordsC (cellU v) = v)) from rfl)
    have hZ := hide (show cellE v = if okW v = true then (cellU v, 0) else (zeroK, 12) from rfl)
    generalize cellE v = R at *
    generalize okW v = ok at *
    generalize wordsE (cellU v) = E at *
    generalize wordsC (cellU v) = y at *
    obtain ⟨R1, R2⟩ := R
    obtain ⟨E1, E2⟩ := E
    simp only at hWd
    go_enter Tryd.func33, Tryd.ntmps33
    go_upto_region 1 with fail
    rw [← hW0]
    clear hW0
    obtain ⟨q0, q1, q2⟩ := hv0.out
    go_wp2_with fail
    refine (hU.out _).mono ?_
    rintro e w1 ⟨rfl, hk1⟩
    clear q0 q1 q2
    have hz1 : PenIn (w1.alloc (.cells #[.int .i64 zeroP.f.k, .int .u8 zeroP.f.i, .int .u8 zeroP.f.r, .int .u8 zeroP.f.g, .int .u8 zeroP.f.b, .int .i64 zeroP.b.k, .int .u8 zeroP.b.i, .int .u8 zeroP.b.r, .int .u8 zeroP.b.g, .int .u8 zeroP.b.b, .int .u8 zeroP.fl] 28)) w1.heap.size zeroP := heap_alloc_new w1 _
    go_upto_region 4 with (refine wpList_store_pen rfl rfl rfl w1.heap.size rfl hz1 p rfl ?_; intro w2 hp2 hk2)
    have hk2' : Kept [] w1 w2 := ((Kept.refl [] w1).alloc _).trans hk2 (by intro z hz; simp at hz; omega)
    have hK2 := hk1.trans hk2' (by simp)
    have hq1 : w.heap.size < w2.heap.size := by have := hK2.size; omega
    have hq2 : w1.heap.size < w2.heap.size := hp2.lt'
    have hq3 : W0.heap.size ≤ w2.heap.size := hK2.size
    clear hz1 hk2
    go_upto_region 4 with fail
    refine' share1 (F := fun b W => CelIn W b ⟨v.b % 2097152, v.c % 2097152, v.c / 2097152 % 2097152, v.c / 4398046511104 % 2097152, IntKind.i64.wrap (v.b / 2097152), p⟩ ∧ Kept [] W0 W) (fun H => ?k0) ?h0
    case k0 =>
      refine wp_region_held_drew (S := (fun w' => (w'.cell? ⟨w.heap.size, 0, none⟩ = some (.int .u64 v.a) ∧ w'.cell? ⟨w.heap.size, 1, none⟩ = some (.int .u64 v.b) ∧ w'.cell? ⟨w.heap.size, 2, none⟩ = some (.int .u64 v.c)) ∧ w'.cell? ⟨w1.heap.size, 0, none⟩ = some (.int .i64 p.f.k) ∧ w'.cell? ⟨w1.heap.size, 1, none⟩ = some (.int .u8 p.f.i) ∧ w'.cell? ⟨w1.heap.size, 2, none⟩ = some (.int .u8 p.f.r) ∧ w'.cell? ⟨w1.heap.size, 3, none⟩ = some (.int .u8 p.f.g) ∧ w'.cell? ⟨w1.heap.size, 4, none⟩ = some (.int .u8 p.f.b) ∧ w'.cell? ⟨w1.heap.size, 5, none⟩ = some (.int .i64 p.b.k) ∧ w'.cell? ⟨w1.heap.size, 6, none⟩ = some (.int .u8 p.b.i) ∧ w'.cell? ⟨w1.heap.size, 7, none⟩ = some (.int .u8 p.b.r) ∧ w'.cell? ⟨w1.heap.size, 8, none⟩ = some (.int .u8 p.b.g) ∧ w'.cell? ⟨w1.heap.size, 9, none⟩ = some (.int .u8 p.b.b) ∧ w'.cell? ⟨w1.heap.size, 10, none⟩ = some (.int .u8 p.fl))) (by kernel_rfl) ?_ (fun hHeld => ?_)
      · (try dsimp only); (first | exact heldWP hHeld hj5 (by simp; omega) (by simp; omega) | exact heldWP hHeld hj4 (by simp) (by simp) | exact hHeld | exact heldWP hHeld ((Kept.refl [] _).alloc _) (by simp) (by simp) | exact ⟨hv0.out.kept hK2.drew (by simp), hp2.at.kept (Kept.refl [] w2).drew (by simp)⟩)
      refine wpAnyH_take (i := 0) (v := ?_) rfl (by kernel_rfl) (by kernel_rfl) (by kernel_rfl) (fun _ _ _ h => h) (Or.inl ⟨by rfl, ?_⟩) (by assumption) ?_
      rotate_left
      · (intro wq hSw; (try dsimp only at hSw); go_simp; try with_reducible rfl)
      try simp only [Act.put, List.getElem_toArray, List.getElem_cons_zero, List.setIfInBounds_toArray, List.set_cons_zero, List.set_cons_succ]
      refine wpAnyH_take (i := 1) (v := ?_) rfl (by kernel_rfl) (by kernel_rfl) (by kernel_rfl) (fun _ _ _ h => h) (Or.inl ⟨by rfl, ?_⟩) (by assumption) ?_
      rotate_left
      · (intro wq hSw; (try dsimp only at hSw); go_simp; try with_reducible rfl)
      try simp only [Act.put, List.getElem_toArray, List.getElem_cons_succ, List.getElem_cons_zero, List.setIfInBounds_toArray, List.set_cons_zero, List.set_cons_succ]
      refine wpAnyH_take (i := 3) (v := ?_) rfl (by kernel_rfl) (by kernel_rfl) (by kernel_rfl) (fun _ _ _ h => h) (Or.inl ⟨by rfl, ?_⟩) (by assumption) ?_
      rotate_left
      · (intro wq hSw; (try dsimp only at hSw); go_simp; try with_reducible rfl)
      try simp only [Act.put, List.getElem_toArray, List.getElem_cons_succ, List.getElem_cons_zero, List.setIfInBounds_toArray, List.set_cons_zero, List.set_cons_succ]
      refine wpAnyH_take (i := 4) (v := ?_) rfl (by kernel_rfl) (by kernel_rfl) (by kernel_rfl) (fun _ _ _ h => h) (Or.inl ⟨by rfl, ?_⟩) (by assumption) ?_
      rotate_left
      · (intro wq hSw; (try dsimp only at hSw); go_simp; try with_reducible rfl)
      try simp only [Act.put, List.getElem_toArray, List.getElem_cons_succ, List.getElem_cons_zero, List.setIfInBounds_toArray, List.set_cons_zero, List.set_cons_succ]
      refine wpAnyH_take (i := 6) (v := ?_) rfl (by kernel_rfl) (by kernel_rfl) (by kernel_rfl) (fun _ _ _ h => h) (Or.inl ⟨by rfl, ?_⟩) (by assumption) ?_
      rotate_left
      · (intro wq hSw; (try dsimp only at hSw); go_simp; try with_reducible rfl)
      try simp only [Act.put, List.getElem_toArray, List.getElem_cons_succ, List.getElem_cons_zero, List.setIfInBounds_toArray, List.set_cons_zero, List.set_cons_succ]
      refine wpAnyH_take (i := 7) (v := ?_) rfl (by kernel_rfl) (by kernel_rfl) (by kernel_rfl) (fun _ _ _ h => h) (Or.inl ⟨by rfl, ?_⟩) (by assumption) ?_
      rotate_left
      · (intro wq hSw; (try dsimp only at hSw); go_simp; try with_reducible rfl)
      try simp only [Act.put, List.getElem_toArray, List.getElem_cons_succ, List.getElem_cons_zero, List.setIfInBounds_toArray, List.set_cons_zero, List.set_cons_succ]
      refine wpAnyH_take (i := 8) (v := ?_) rfl (by kernel_rfl) (by kernel_rfl) (by kernel_rfl) (fun _ _ _ h => h) (Or.inl ⟨by rfl, ?_⟩) (by assumption) ?_
      rotate_left
      · (intro wq hSw; (try dsimp only at hSw); go_simp; try with_reducible rfl)
      try simp only [Act.put, List.getElem_toArray, List.getElem_cons_succ, List.getElem_cons_zero, List.setIfInBounds_toArray, List.set_cons_zero, List.set_cons_succ]
      refine wpAnyH_take (i := 9) (v := ?_) rfl (by kernel_rfl) (by kernel_rfl) (by kernel_rfl) (fun _ _ _ h => h) (Or.inl ⟨by rfl, ?_⟩) (by assumption) ?_
      rotate_left
      · (intro wq hSw; (try dsimp only at hSw); go_simp; try with_reducible rfl)
      try simp only [Act.put, List.getElem_toArray, List.getElem_cons_succ, List.getElem_cons_zero, List.setIfInBounds_toArray, List.set_cons_zero, List.set_cons_succ]
      refine wpAnyH_take (i := 10) (v := ?_) rfl (by kernel_rfl) (by kernel_rfl) (by kernel_rfl) (fun _ _ _ h => h) (Or.inl ⟨by rfl, ?_⟩) (by assumption) ?_
      rotate_left
      · (intro wq hSw; (try dsimp only at hSw); go_simp; try with_reducible rfl)
      try simp only [Act.put, List.getElem_toArray, List.getElem_cons_succ, List.getElem_cons_zero, List.setIfInBounds_toArray, List.set_cons_zero, List.set_cons_succ]
      refine wpAnyH_ready (rs := [2, 12]) (by kernel_rfl) (by simp) ?_
      refine AllReadyH.cons rfl (fun K hK => ?_) (AllReadyH.cons rfl (fun K hK => ?_) AllReadyH.nil)
      · go_simp
        refine (hR.out _).mono ?_; rintro e w3 ⟨rfl, rfl⟩
        try go_wp2_with fail
        refine hK.out _ _ ?_ (fun hHeld => ?_)
        · (try dsimp only); (first | exact heldWP hHeld hj5 (by simp; omega) (by simp; omega) | exact heldWP hHeld hj4 (by simp) (by simp) | exact hHeld | exact heldWP hHeld ((Kept.refl [] _).alloc _) (by simp) (by simp) | exact ⟨hv0.out.kept hK2.drew (by simp), hp2.at.kept (Kept.refl [] w2).drew (by simp)⟩)
        clear hK K
        try simp only [Act.put, List.getElem_toArray, List.getElem_cons_succ, List.getElem_cons_zero, List.setIfInBounds_toArray, List.set_cons_zero, List.set_cons_succ]
        refine wpAnyH_ready (rs := [5, 12]) (by kernel_rfl) (by simp) ?_
        refine AllReadyH.cons rfl (fun K hK => ?_) (AllReadyH.cons rfl (fun K hK => ?_) AllReadyH.nil)
        · go_simp
          refine (hM.out w2.drew).mono ?_; rintro e w4 ⟨rfl, hj4⟩; have h4 : w2.heap.size ≤ w4.heap.size := hj4.size
          try go_wp2_with fail
          refine hK.out _ _ ?_ (fun hHeld => ?_)
          · (try dsimp only); (first | exact heldWP hHeld hj5 (by simp; omega) (by simp; omega) | exact heldWP hHeld hj4 (by simp) (by simp) | exact hHeld | exact heldWP hHeld ((Kept.refl [] _).alloc _) (by simp) (by simp) | exact ⟨hv0.out.kept hK2.drew (by simp), hp2.at.kept (Kept.refl [] w2).drew (by simp)⟩)
          clear hK K
          try simp only [Act.put, List.getElem_toArray, List.getElem_cons_succ, List.getElem_cons_zero, List.setIfInBounds_toArray, List.set_cons_zero, List.set_cons_succ]
          refine wpAnyH_take (i := 11) (v := ?_) rfl (by kernel_rfl) (by kernel_rfl) (by kernel_rfl) (fun _ _ _ h => h) (Or.inl ⟨by rfl, ?_⟩) (by assumption) ?_
          rotate_left
          · (intro wq hSw; (try dsimp only at hSw); go_simp; try with_reducible rfl)
          try simp only [Act.put, List.getElem_toArray, List.getElem_cons_succ, List.getElem_cons_zero, List.setIfInBounds_toArray, List.set_cons_zero, List.set_cons_succ]
          refine wpAnyH_ready (rs := [12]) (by kernel_rfl) (by simp) ?_
          refine AllReadyH.cons rfl (fun K hK => ?_) AllReadyH.nil
          go_simp
          try go_wp2_with fail
          refine hK.out _ _ ?_ (fun hHeld => ?_)
          · (try dsimp only); (first | exact heldWP hHeld hj5 (by simp; omega) (by simp; omega) | exact heldWP hHeld hj4 (by simp) (by simp) | exact hHeld | exact heldWP hHeld ((Kept.refl [] _).alloc _) (by simp) (by simp) | exact ⟨hv0.out.kept hK2.drew (by simp), hp2.at.kept (Kept.refl [] w2).drew (by simp)⟩)
          clear hK K
          try simp only [Act.put, List.getElem_toArray, List.getElem_cons_succ, List.getElem_cons_zero, List.setIfInBounds_toArray, List.set_cons_zero, List.set_cons_succ]
          refine wpAnyH_ready (rs := [13]) (by kernel_rfl) (by simp) ?_
          refine AllReadyH.cons rfl (fun K hK => ?_) AllReadyH.nil
          rw [if_pos (by rfl)]
          refine wp_store_cel rfl rfl w4.heap.size rfl (CelIn.new w4 zeroK) ⟨v.b % 2097152, v.c % 2097152, v.c / 2097152 % 2097152, v.c / 4398046511104 % 2097152, IntKind.i64.wrap (v.b / 2097152), p⟩ rfl ?_; intro w5 hc5 hj5
          refine hK.out _ _ ?_ (fun hHeld => ?_)
          · (try dsimp only); (first | exact heldWP hHeld hj5 (by simp; omega) (by simp; omega) | exact heldWP hHeld hj4 (by simp) (by simp) | exact hHeld | exact heldWP hHeld ((Kept.refl [] _).alloc _) (by simp) (by simp) | exact ⟨hv0.out.kept hK2.drew (by simp), hp2.at.kept (Kept.refl [] w2).drew (by simp)⟩)
          clear hK K
          try simp only [Act.put, List.getElem_toArray, List.getElem_cons_succ, List.getElem_cons_zero, List.setIfInBounds_toArray, List.set_cons_zero, List.set_cons_succ]
          refine wpAnyH_done (by kernel_rfl) ?_ _
          (have hk5 : Kept [] W0 w5 := ((hK2.drew.trans hj4 (by simp)).alloc _).trans hj5 (by intro z hz; simp at hz; omega)); (clear hHeld hj5 hj4 h4); (generalize w4.heap.size = b at *); exact H b w5 ⟨hc5, hk5⟩
        · go_simp
          try go_wp2_with fail
          refine hK.out _ _ ?_ (fun hHeld => ?_)
          · (try dsimp only); (first | exact heldWP hHeld hj5 (by simp; omega) (by simp; omega) | exact heldWP hHeld hj4 (by simp) (by simp) | exact hHeld | exact heldWP hHeld ((Kept.refl [] _).alloc _) (by simp) (by simp) | exact ⟨hv0.out.kept hK2.drew (by simp), hp2.at.kept (Kept.refl [] w2).drew (by simp)⟩)
          clear hK K
          try simp only [Act.put, List.getElem_toArray, List.getElem_cons_succ, List.getElem_cons_zero, List.setIfInBounds_toArray, List.set_cons_zero, List.set_cons_succ]
          refine wpAnyH_ready (rs := [5]) (by kernel_rfl) (by simp) ?_
          refine AllReadyH.cons rfl (fun K hK => ?_) AllReadyH.nil
          go_simp
          refine (hM.out _).mono ?_; rintro e w4 ⟨rfl, hj4⟩
          try go_wp2_with fail
          refine hK.out _ _ ?_ (fun hHeld => ?_)
          · (try dsimp only); (first | exact heldWP hHeld hj5 (by simp; omega) (by simp; omega) | exact heldWP hHeld hj4 (by simp) (by simp) | exact hHeld | exact heldWP hHeld ((Kept.refl [] _).alloc _) (by simp) (by simp) | exact ⟨hv0.out.kept hK2.drew (by simp), hp2.at.kept (Kept.refl [] w2).drew (by simp)⟩)
          clear hK K
          try simp only [Act.put, List.getElem_toArray, List.getElem_cons_succ, List.getElem_cons_zero, List.setIfInBounds_toArray, List.set_cons_zero, List.set_cons_succ]
          refine wpAnyH_take (i := 11) (v := ?_) rfl (by kernel_rfl) (by kernel_rfl) (by kernel_rfl) (fun _ _ _ h => h) (Or.inl ⟨by rfl, ?_⟩) (by assumption) ?_
          rotate_left
          · (intro wq hSw; (try dsimp only at hSw); go_simp; try with_reducible rfl)
          try simp only [Act.put, List.getElem_toArray, List.getElem_cons_succ, List.getElem_cons_zero, List.setIfInBounds_toArray, List.set_cons_zero, List.set_cons_succ]
          refine wpAnyH_ready (rs := [13]) (by kernel_rfl) (by simp) ?_
          refine AllReadyH.cons rfl (fun K hK => ?_) AllReadyH.nil
          rw [if_pos (by rfl)]
          refine wp_store_cel rfl rfl w2.heap.size rfl ((CelIn.new w2.drew zeroK).kept hj4 (by simp)) ⟨v.b % 2097152, v.c % 2097152, v.c / 2097152 % 2097152, v.c / 4398046511104 % 2097152, IntKind.i64.wrap (v.b / 2097152), p⟩ rfl ?_; intro w5 hc5 hj5
          refine hK.out _ _ ?_ (fun hHeld => ?_)
          · (try dsimp only); (first | exact heldWP hHeld hj5 (by simp; omega) (by simp; omega) | exact heldWP hHeld hj4 (by simp) (by simp) | exact hHeld | exact heldWP hHeld ((Kept.refl [] _).alloc _) (by simp) (by simp) | exact ⟨hv0.out.kept hK2.drew (by simp), hp2.at.kept (Kept.refl [] w2).drew (by simp)⟩)
          clear hK K
          try simp only [Act.put, List.getElem_toArray, List.getElem_cons_succ, List.getElem_cons_zero, List.setIfInBounds_toArray, List.set_cons_zero, List.set_cons_succ]
          refine wpAnyH_done (by kernel_rfl) ?_ _
          (have hk5 : Kept [] W0 w5 := ((hK2.drew.alloc _).trans hj4 (by simp)).trans hj5 (by intro z hz; simp at hz; omega)); (clear hHeld hj5 hj4); (try change CelIn w5 w2.heap.size _ at hc5); (generalize w2.heap.size = b at *); exact H b w5 ⟨hc5, hk5⟩
      · go_simp
        try go_wp2_with fail
        refine hK.out _ _ ?_ (fun hHeld => ?_)
        · (try dsimp only); (first | exact heldWP hHeld hj5 (by simp; omega) (by simp; omega) | exact heldWP hHeld hj4 (by simp) (by simp) | exact hHeld | exact heldWP hHeld ((Kept.refl [] _).alloc _) (by simp) (by simp) | exact ⟨hv0.out.kept hK2.drew (by simp), hp2.at.kept (Kept.refl [] w2).drew (by simp)⟩)
        clear hK K
        try simp only [Act.put, List.getElem_toArray, List.getElem_cons_succ, List.getElem_cons_zero, List.setIfInBounds_toArray, List.set_cons_zero, List.set_cons_succ]
        refine wpAnyH_ready (rs := [2]) (by kernel_rfl) (by simp) ?_
        refine AllReadyH.cons rfl (fun K hK => ?_) AllReadyH.nil
        go_simp
        refine (hR.out _).mono ?_; rintro e w3 ⟨rfl, rfl⟩
        try go_wp2_with fail
        refine hK.out _ _ ?_ (fun hHeld => ?_)
        · (try dsimp only); (first | exact heldWP hHeld hj5 (by simp; omega) (by simp; omega) | exact heldWP hHeld hj4 (by simp) (by simp) | exact hHeld | exact heldWP hHeld ((Kept.refl [] _).alloc _) (by simp) (by simp) | exact ⟨hv0.out.kept hK2.drew (by simp), hp2.at.kept (Kept.refl [] w2).drew (by simp)⟩)
        clear hK K
        try simp only [Act.put, List.getElem_toArray, List.getElem_cons_succ, List.getElem_cons_zero, List.setIfInBounds_toArray, List.set_cons_zero, List.set_cons_succ]
        refine wpAnyH_ready (rs := [5]) (by kernel_rfl) (by simp) ?_
        refine AllReadyH.cons rfl (fun K hK => ?_) AllReadyH.nil
        go_simp
        refine (hM.out _).mono ?_; rintro e w4 ⟨rfl, hj4⟩
        try go_wp2_with fail
        refine hK.out _ _ ?_ (fun hHeld => ?_)
        · (try dsimp only); (first | exact heldWP hHeld hj5 (by simp; omega) (by simp; omega) | exact heldWP hHeld hj4 (by simp) (by simp) | exact hHeld | exact heldWP hHeld ((Kept.refl [] _).alloc _) (by simp) (by simp) | exact ⟨hv0.out.kept hK2.drew (by simp), hp2.at.kept (Kept.refl [] w2).drew (by simp)⟩)
        clear hK K
        try simp only [Act.put, List.getElem_toArray, List.getElem_cons_succ, List.getElem_cons_zero, List.setIfInBounds_toArray, List.set_cons_zero, List.set_cons_succ]
        refine wpAnyH_take (i := 11) (v := ?_) rfl (by kernel_rfl) (by kernel_rfl) (by kernel_rfl) (fun _ _ _ h => h) (Or.inl ⟨by rfl, ?_⟩) (by assumption) ?_
        rotate_left
        · (intro wq hSw; (try dsimp only at hSw); go_simp; try with_reducible rfl)
        try simp only [Act.put, List.getElem_toArray, List.getElem_cons_succ, List.getElem_cons_zero, List.setIfInBounds_toArray, List.set_cons_zero, List.set_cons_succ]
        refine wpAnyH_ready (rs := [13]) (by kernel_rfl) (by simp) ?_
        refine AllReadyH.cons rfl (fun K hK => ?_) AllReadyH.nil
        rw [if_pos (by rfl)]
        refine wp_store_cel rfl rfl w2.heap.size rfl ((CelIn.new w2.drew zeroK).kept hj4 (by simp)) ⟨v.b % 2097152, v.c % 2097152, v.c / 2097152 % 2097152, v.c / 4398046511104 % 2097152, IntKind.i64.wrap (v.b / 2097152), p⟩ rfl ?_; intro w5 hc5 hj5
        refine hK.out _ _ ?_ (fun hHeld => ?_)
        · (try dsimp only); (first | exact heldWP hHeld hj5 (by simp; omega) (by simp; omega) | exact heldWP hHeld hj4 (by simp) (by simp) | exact hHeld | exact heldWP hHeld ((Kept.refl [] _).alloc _) (by simp) (by simp) | exact ⟨hv0.out.kept hK2.drew (by simp), hp2.at.kept (Kept.refl [] w2).drew (by simp)⟩)
        clear hK K
        try simp only [Act.put, List.getElem_toArray, List.getElem_cons_succ, List.getElem_cons_zero, List.setIfInBounds_toArray, List.set_cons_zero, List.set_cons_succ]
        refine wpAnyH_done (by kernel_rfl) ?_ _
        (have hk5 : Kept [] W0 w5 := ((hK2.drew.alloc _).trans hj4 (by simp)).trans hj5 (by intro z hz; simp at hz; omega)); (clear hHeld hj5 hj4); (try change CelIn w5 w2.heap.size _ at hc5); (generalize w2.heap.size = b at *); exact H b w5 ⟨hc5, hk5⟩
    case h0 =>
      intro b5 w5 hF
      obtain ⟨hc5, hk5⟩ := hF
      have e5 : (⟨v.b % 2097152, v.c % 2097152, v.c / 2097152 % 2097152, v.c / 4398046511104 % 2097152, IntKind.i64.wrap (v.b / 2097152), p⟩ : Cl) = cellU v := by
        unfold cellU
        rw [hp.out, IntKind.wrap_i64]
        congr 1
        omega
      rw [e5] at hc5
      have hc5' := hide hc5
      have r5 := hc5.range
      clear hc5 hp2 hk2' hK2 hq1 hq2 hq3 hR hM e5
      go_wp2_with (refine wpList_load_cel rfl rfl b5 0 rfl r5 ?_)
      clear r5
      generalize cellU v = x at *
      refine (hWd.out w5 hk5).mono ?_
      rintro e w6 ⟨rfl, hj6⟩
      have hk6 := hk5.trans hj6 (by simp)
      obtain ⟨q0, q1, q2⟩ := hv0.out.kept hk6 (by simp)
      have hx6 := hide (hc5'.out.kept hj6 (by simp))
      cases hv : validC x
      · have hE' := hE.out
        rw [hv, if_neg (by simp)] at hE'
        injection hE' with e1 e2
        subst e1 e2
        have hR : R1 = zeroK ∧ R2 = 12 := by
          have := hZ.out
          rw [hO.out, hv] at this
          simpa using this
        obtain ⟨rfl, rfl⟩ := hR
        have z6 := hz0.out.kept hk6 (by simp)
        have z7 := z6.kept ((Kept.refl [] w6).alloc (.cells #[.int .u64 zeroW.a, .int .u64 zeroW.b, .int .u64 zeroW.c] 34)) (by simp)
        go_wp2_with (refine wpList_store_cel rfl rfl rfl (w.heap.size + 1) rfl z7 zeroK rfl ?_; intro w8 hc8 hk8)
        refine bodyPost_ret (results_cel2 rfl rfl hc8 (v := .int .i64 12) rfl) rfl ?_
        refine ⟨rfl, ?_⟩
        exact (hk0.trans (hk6.alloc _) (by simp)).trans hk8 (by simp)
      · have hE' := hE.out
        rw [hv, if_pos rfl] at hE'
        injection hE' with e1 e2
        subst e1 e2
        have hq := fun w => neq_W E1 v w
        clear q0 q1 q2
        obtain ⟨q0, q1, q2⟩ := hv0.out.kept (hk6.alloc (.cells #[.int .u64 E1.a, .int .u64 E1.b, .int .u64 E1.c] 34)) (by simp)
        by_cases hyv0 : E1 = v
        · have hd : decide (E1 = v) = true := decide_eq_true hyv0
          have hyv := hide hyv0
          have hR : R1 = x ∧ R2 = 0 := by
            have := hZ.out
            rw [hO.out, hv, hd] at this
            simpa using this
          clear hyv0
          obtain ⟨rfl, rfl⟩ := hR
          have r6 := (hx6.out.kept ((Kept.refl [] w6).alloc (.cells #[.int .u64 E1.a, .int .u64 E1.b, .int .u64 E1.c] 34)) (by simp)).range
          have z6 := hz0.out.kept hk6 (by simp)
          have z7 := z6.kept ((Kept.refl [] w6).alloc (.cells #[.int .u64 E1.a, .int .u64 E1.b, .int .u64 E1.c] 34)) (by simp)
          go_wp2_with (first | refine wpList_load_cel rfl rfl b5 0 rfl r6 ?_ | (refine wpList_store_cel rfl rfl rfl (w.heap.size + 1) rfl z7 R1 rfl ?_; intro w8 hc8 hk8))
          refine bodyPost_ret (results_cel2 rfl rfl hc8 (v := .int .i64 0) rfl) rfl ?_
          refine ⟨rfl, ?_⟩
          exact (hk0.trans (hk6.alloc _) (by simp)).trans hk8 (by simp)
        · have hd : decide (E1 = v) = false := decide_eq_false hyv0
          have hyv := hide hyv0
          have hR : R1 = zeroK ∧ R2 = 12 := by
            have := hZ.out
            rw [hO.out, hv, hd] at this
            simpa using this
          clear hyv0
          obtain ⟨rfl, rfl⟩ := hR
          have z6 := hz0.out.kept hk6 (by simp)
          have z7 := z6.kept ((Kept.refl [] w6).alloc (.cells #[.int .u64 E1.a, .int .u64 E1.b, .int .u64 E1.c] 34)) (by simp)
          go_wp2_with (refine wpList_store_cel rfl rfl rfl (w.heap.size + 1) rfl z7 zeroK rfl ?_; intro w8 hc8 hk8)
          refine bodyPost_ret (results_cel2 rfl rfl hc8 (v := .int .i64 12) rfl) rfl ?_
          refine ⟨rfl, ?_⟩
          exact (hk0.trans (hk6.alloc _) (by simp)).trans hk8 (by simp)
  · have hU := hide (fun w1 => Unpack_is v.a hb.a _ _ (unpack_none hu) w1)
    have hZ : cellE v = (zeroK, 12) := by unfold cellE; rw [okW_pen hu]; rfl
    rw [hZ]
    clear ht hu
    go_enter Tryd.func33, Tryd.ntmps33
    go_upto_region 1 with fail
    rw [← hW0]
    clear hW0
    obtain ⟨q0, q1, q2⟩ := hv0.out
    go_wp2_with fail
    refine (hU.out _).mono ?_
    rintro e w1 ⟨rfl, hk1⟩
    clear q0 q1 q2
    have z1 := hz0.out.kept hk1 (by simp)
    have z2 := z1.kept ((Kept.refl [] w1).alloc (.cells #[.int .i64 zeroP.f.k, .int .u8 zeroP.f.i, .int .u8 zeroP.f.r, .int .u8 zeroP.f.g, .int .u8 zeroP.f.b, .int .i64 zeroP.b.k, .int .u8 zeroP.b.i, .int .u8 zeroP.b.r, .int .u8 zeroP.b.g, .int .u8 zeroP.b.b, .int .u8 zeroP.fl] 28)) (by simp)
    go_wp2_with (refine wpList_store_cel rfl rfl rfl (w.heap.size + 1) rfl z2 zeroK rfl ?_; intro w8 hc8 hk8)
    refine bodyPost_ret (results_cel2 rfl rfl hc8 (v := .int .i64 12) rfl) rfl ?_
    exact ⟨rfl, (hk0.trans (hk1.alloc _) (by simp)).trans hk8 (by simp)⟩
end Go.Proofs.YtpdjlollijbdeaaDoor
