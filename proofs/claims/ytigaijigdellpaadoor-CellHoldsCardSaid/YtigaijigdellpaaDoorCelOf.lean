/- cell.Of. -/
import Derived.Test.YtigaijigdellpaaDoorCelVal
import Derived.Test.YtigaijigdellpaaDoorCelTxt
namespace Go.Proofs.YtigaijigdellpaaDoor
open Go.RowKit
set_option linter.unusedVariables false

/-- What a function returns that returns cells, and the error's number: in a block of their own. -/
def CellsE (w : World) (l : List Cl) (x : Int) (e : Ending) (w' : World) : Prop :=
  ∃ a n c, e = .returned (.tuple #[.slice a n c, .int .i64 x]) ∧ Rd w' a n 16 (cellsV l) ∧ (∀ g ∈ blk a, w.heap.size ≤ g ∧ g < w'.heap.size) ∧ Kept [] w w'
def ofE (r : Int) (p : Pn) : List Cl × Int := if validC (ofC r p) = true then (if ofI r = 2 then [ofC r p, spacerC p] else [ofC r p], 0) else ([], 2)

set_option maxHeartbeats 1000000 in
theorem Of4_any (r : Int) (p : Pn) (w : World) (ht : Tabs w) : Calls Tryd.prog 30 #[.int .i32 r, .agg #[.int .i64 p.f.k, .int .u8 p.f.i, .int .u8 p.f.r, .int .u8 p.f.g, .int .u8 p.f.b, .int .i64 p.b.k, .int .u8 p.b.i, .int .u8 p.b.r, .int .u8 p.b.g, .int .u8 p.b.b, .int .u8 p.fl]] w (CellsE w (ofE r p).1 (ofE r p).2) := by
  obtain ⟨W0, hW0⟩ : ∃ x : World, x = w.alloc (.cells #[.int .i64 p.f.k, .int .u8 p.f.i, .int .u8 p.f.r, .int .u8 p.f.g, .int .u8 p.f.b, .int .i64 p.b.k, .int .u8 p.b.i, .int .u8 p.b.r, .int .u8 p.b.g, .int .u8 p.b.b, .int .u8 p.fl] 27) := ⟨_, rfl⟩
  have hk0 : Kept [] w W0 := by rw [hW0]; exact (Kept.refl [] w).alloc _
  have hp0 : Hid (PenIn W0 w.heap.size p) := hide (by rw [hW0]; exact PenIn.new w p)
  have hl0 : w.heap.size < W0.heap.size := by rw [hW0]; simp
  have hO := hide (fun w1 (hk : Kept [] W0 w1) => of_any r w1 ((ht.kept hk0).kept hk))
  have hV := hide (fun w1 (hk : Kept [] W0 w1) => cvalid_any (ofC r p) w1 ((ht.kept hk0).kept hk))
  have hWd := hide (fun w1 => wide_any (ofC r p) w1)
  have hSp := hide (fun w1 => Spacer_any p w1)
  have hC : ofC r p = ⟨r, 0, 0, 0, ofI r, p⟩ := rfl
  have hR := hide (show ofE r p = if validC (ofC r p) = true then (if (ofC r p).w = 2 then [ofC r p, spacerC p] else [ofC r p], 0) else ([], 2) from rfl)
  have hw2 : (ofC r p).w = ofI r := rfl
  rw [hw2] at *
  generalize ofE r p = R at *
  generalize ofI r = o at *
  generalize validC (ofC r p) = v at *
  generalize ofC r p = c at *
  clear ht hw2
  have hC' := hide hC
  clear hC
  go_enter Tryd.func30, Tryd.ntmps30
  go_upto_region 1 with fail
  rw [← hW0]
  clear hW0
  go_cut [6] from 7 (fun s6 wc => ∃ b : Nat, s6 = .pointer (some ⟨b, 0, none⟩) ∧ CelIn wc b c ∧ w.heap.size < b ∧ Kept [] W0 wc)
  case first =>
    refine wp_region_held_drew (S := (fun w' => PenIn w' w.heap.size p)) (by kernel_rfl) ?_ (fun hHeld => ?_)
    · (try dsimp only); (first | exact hp0.out.kept hk2 (by simp) | exact hp0.out.kept (hk1.alloc _) (by simp) | exact hp0.out.kept hk1 (by simp) | exact hp0.out.kept (((Kept.refl [] W0).alloc _).drew) (by simp) | exact hp0.out.kept ((Kept.refl [] W0).drew) (by simp))
    refine wpAnyH_take (i := 0) (v := ?_) rfl (by kernel_rfl) (by kernel_rfl) (by kernel_rfl) (fun _ _ _ h => h) (Or.inl ⟨by rfl, ?_⟩) (by assumption) ?_
    rotate_left
    · (intro wq hSw; (try dsimp only at hSw); go_simp; try with_reducible rfl)
    try simp only [Act.put, List.getElem_toArray, List.getElem_cons_zero, List.setIfInBounds_toArray, List.set_cons_zero, List.set_cons_succ]
    refine wpAnyH_take (i := 1) (v := ?_) rfl (by kernel_rfl) (by kernel_rfl) (by kernel_rfl) (fun _ _ _ h => h) (Or.inl ⟨by rfl, ?_⟩) (by assumption) ?_
    rotate_left
    · (intro wq hSw; (try dsimp only at hSw); go_simp; try with_reducible rfl)
    try simp only [Act.put, List.getElem_toArray, List.getElem_cons_succ, List.getElem_cons_zero, List.setIfInBounds_toArray, List.set_cons_zero, List.set_cons_succ]
    refine wpAnyH_take (i := 3) (v := (.agg #[.int .i64 p.f.k, .int .u8 p.f.i, .int .u8 p.f.r, .int .u8 p.f.g, .int .u8 p.f.b, .int .i64 p.b.k, .int .u8 p.b.i, .int .u8 p.b.r, .int .u8 p.b.g, .int .u8 p.b.b, .int .u8 p.fl])) rfl (by kernel_rfl) (by kernel_rfl) (by kernel_rfl) (fun _ _ _ h => h) (yieldsIf_load_mid (by rfl) 27 _ rfl w.heap.size 0 rfl (pcL p) _ (fun _ h => h.range) Tryd.underlying27 rfl (by kernel_rfl)) (by assumption) ?_
    try simp only [Act.put, List.getElem_toArray, List.getElem_cons_succ, List.getElem_cons_zero, List.setIfInBounds_toArray, List.set_cons_zero, List.set_cons_succ]
    refine wpAnyH_ready (rs := [2, 5]) (by kernel_rfl) (by simp) ?_
    refine AllReadyH.cons rfl (fun K hK => ?_) (AllReadyH.cons rfl (fun K hK => ?_) AllReadyH.nil)
    · go_simp
      refine (hO.out W0.drew ((Kept.refl [] W0).drew)).mono ?_; rintro e w1 ⟨rfl, hj1⟩; have hk1 : Kept [] W0 w1 := ((Kept.refl [] W0).drew).trans hj1 (by simp)
      try go_wp2_with fail
      refine hK.out _ _ ?_ (fun hHeld => ?_)
      · (try dsimp only); (first | exact hp0.out.kept hk2 (by simp) | exact hp0.out.kept (hk1.alloc _) (by simp) | exact hp0.out.kept hk1 (by simp) | exact hp0.out.kept (((Kept.refl [] W0).alloc _).drew) (by simp) | exact hp0.out.kept ((Kept.refl [] W0).drew) (by simp))
      clear hK K
      try simp only [Act.put, List.getElem_toArray, List.getElem_cons_succ, List.getElem_cons_zero, List.setIfInBounds_toArray, List.set_cons_zero, List.set_cons_succ]
      refine wpAnyH_take (i := 4) (v := ?_) rfl (by kernel_rfl) (by kernel_rfl) (by kernel_rfl) (fun _ _ _ h => h) (Or.inl ⟨by rfl, ?_⟩) (by assumption) ?_
      rotate_left
      · (intro wq hSw; (try dsimp only at hSw); go_simp; try with_reducible rfl)
      try simp only [Act.put, List.getElem_toArray, List.getElem_cons_succ, List.getElem_cons_zero, List.setIfInBounds_toArray, List.set_cons_zero, List.set_cons_succ]
      refine wpAnyH_ready (rs := [5]) (by kernel_rfl) (by simp) ?_
      refine AllReadyH.cons rfl (fun K hK => ?_) AllReadyH.nil
      go_simp
      try go_wp2_with fail
      refine hK.out _ _ ?_ (fun hHeld => ?_)
      · (try dsimp only); (first | exact hp0.out.kept hk2 (by simp) | exact hp0.out.kept (hk1.alloc _) (by simp) | exact hp0.out.kept hk1 (by simp) | exact hp0.out.kept (((Kept.refl [] W0).alloc _).drew) (by simp) | exact hp0.out.kept ((Kept.refl [] W0).drew) (by simp))
      clear hK K
      try simp only [Act.put, List.getElem_toArray, List.getElem_cons_succ, List.getElem_cons_zero, List.setIfInBounds_toArray, List.set_cons_zero, List.set_cons_succ]
      refine wpAnyH_ready (rs := [6]) (by kernel_rfl) (by simp) ?_
      refine AllReadyH.cons rfl (fun K hK => ?_) AllReadyH.nil
      rw [if_pos (by rfl)]
      have hs1 := hk1.size; refine wp_store_cel rfl rfl w1.heap.size rfl (heap_alloc_new w1 _ : CelIn _ _ zeroK) ⟨r, 0, 0, 0, o, p⟩ rfl ?_; intro w2 hc2 hj2; have hk2 : Kept [] W0 w2 := (hk1.alloc _).trans hj2 (by intro x hx; simp at hx; omega)
      refine hK.out _ _ ?_ (fun hHeld => ?_)
      · (try dsimp only); (first | exact hp0.out.kept hk2 (by simp) | exact hp0.out.kept (hk1.alloc _) (by simp) | exact hp0.out.kept hk1 (by simp) | exact hp0.out.kept (((Kept.refl [] W0).alloc _).drew) (by simp) | exact hp0.out.kept ((Kept.refl [] W0).drew) (by simp))
      clear hK K
      try simp only [Act.put, List.getElem_toArray, List.getElem_cons_succ, List.getElem_cons_zero, List.setIfInBounds_toArray, List.set_cons_zero, List.set_cons_succ]
      refine wpAnyH_done (by kernel_rfl) ?_ _
      go_wp2_with fail; go_meet; exact ⟨_, rfl, by rw [hC'.out]; exact hc2, by omega, hk2⟩
    · go_simp
      try go_wp2_with fail
      refine hK.out _ _ ?_ (fun hHeld => ?_)
      · (try dsimp only); (first | exact hp0.out.kept hk2 (by simp) | exact hp0.out.kept (hk1.alloc _) (by simp) | exact hp0.out.kept hk1 (by simp) | exact hp0.out.kept (((Kept.refl [] W0).alloc _).drew) (by simp) | exact hp0.out.kept ((Kept.refl [] W0).drew) (by simp))
      clear hK K
      try simp only [Act.put, List.getElem_toArray, List.getElem_cons_succ, List.getElem_cons_zero, List.setIfInBounds_toArray, List.set_cons_zero, List.set_cons_succ]
      refine wpAnyH_ready (rs := [2]) (by kernel_rfl) (by simp) ?_
      refine AllReadyH.cons rfl (fun K hK => ?_) AllReadyH.nil
      go_simp
      refine (hO.out _ (((Kept.refl [] W0).alloc _).drew)).mono ?_; rintro e w1 ⟨rfl, hj1⟩; have hk1 : Kept [] W0 w1 := (((Kept.refl [] W0).alloc _).drew).trans hj1 (by simp); have hz1 : CelIn w1 W0.heap.size zeroK := CelIn.kept (w := (W0.alloc (.cells #[.int .i32 0, .int .i32 0, .int .i32 0, .int .i32 0, .int .i64 0, .int .i64 0, .int .u8 0, .int .u8 0, .int .u8 0, .int .u8 0, .int .i64 0, .int .u8 0, .int .u8 0, .int .u8 0, .int .u8 0, .int .u8 0] 30)).drew) (heap_alloc_new W0 _) hj1 (by simp)
      try go_wp2_with fail
      refine hK.out _ _ ?_ (fun hHeld => ?_)
      · (try dsimp only); (first | exact hp0.out.kept hk2 (by simp) | exact hp0.out.kept (hk1.alloc _) (by simp) | exact hp0.out.kept hk1 (by simp) | exact hp0.out.kept (((Kept.refl [] W0).alloc _).drew) (by simp) | exact hp0.out.kept ((Kept.refl [] W0).drew) (by simp))
      clear hK K
      try simp only [Act.put, List.getElem_toArray, List.getElem_cons_succ, List.getElem_cons_zero, List.setIfInBounds_toArray, List.set_cons_zero, List.set_cons_succ]
      refine wpAnyH_take (i := 4) (v := ?_) rfl (by kernel_rfl) (by kernel_rfl) (by kernel_rfl) (fun _ _ _ h => h) (Or.inl ⟨by rfl, ?_⟩) (by assumption) ?_
      rotate_left
      · (intro wq hSw; (try dsimp only at hSw); go_simp; try with_reducible rfl)
      try simp only [Act.put, List.getElem_toArray, List.getElem_cons_succ, List.getElem_cons_zero, List.setIfInBounds_toArray, List.set_cons_zero, List.set_cons_succ]
      refine wpAnyH_ready (rs := [6]) (by kernel_rfl) (by simp) ?_
      refine AllReadyH.cons rfl (fun K hK => ?_) AllReadyH.nil
      rw [if_pos (by rfl)]
      refine wp_store_cel rfl rfl W0.heap.size rfl hz1 ⟨r, 0, 0, 0, o, p⟩ rfl ?_; intro w2 hc2 hj2; have hk2 : Kept [] W0 w2 := hk1.trans hj2 (by intro x hx; simp at hx; omega)
      refine hK.out _ _ ?_ (fun hHeld => ?_)
      · (try dsimp only); (first | exact hp0.out.kept hk2 (by simp) | exact hp0.out.kept (hk1.alloc _) (by simp) | exact hp0.out.kept hk1 (by simp) | exact hp0.out.kept (((Kept.refl [] W0).alloc _).drew) (by simp) | exact hp0.out.kept ((Kept.refl [] W0).drew) (by simp))
      clear hK K
      try simp only [Act.put, List.getElem_toArray, List.getElem_cons_succ, List.getElem_cons_zero, List.setIfInBounds_toArray, List.set_cons_zero, List.set_cons_succ]
      refine wpAnyH_done (by kernel_rfl) ?_ _
      go_wp2_with fail; go_meet; exact ⟨_, rfl, by rw [hC'.out]; exact hc2, by omega, hk2⟩
  case rest =>
    obtain ⟨b, rfl, hc1, hbl, hk1⟩ := hcut
    obtain ⟨W1, hW1⟩ : ∃ z : World, z = wc := ⟨_, rfl⟩
    subst hW1
    have hc := hide hc1
    have hk := hide hk1
    clear hc1
    have r1 := hc.out.range
    go_wp2_with (refine wpList_load_cel rfl rfl b 0 rfl r1 ?_)
    refine (hV.out W1 hk1).mono ?_
    rintro e w2 ⟨rfl, hk2'⟩
    have hk2 := hk1.trans hk2' (by simp)
    clear hk1 r1
    have r2 := (hc.out.kept hk2' (by simp)).range
    cases v
    · go_wp2_with fail
      refine bodyPost_ret (v := .tuple #[.slice none 0 0, .int .i64 2]) (by simp [results, Tryd.results30, go_sem]) rfl ?_
      rw [hR.out]
      exact ⟨none, 0, 0, rfl, Rd.nil _ _ _, by simp [blk], hk0.trans hk2 (by simp)⟩
    · go_wp2_with (refine wpList_load_cel rfl rfl b 0 rfl r2 ?_)
      refine (hWd.out w2).mono ?_
      rintro e w3 ⟨rfl, hk3'⟩
      have hk3 := hk2.trans hk3' (by simp)
      have hc3 := hide ((hc.out.kept hk2' (by simp)).kept hk3' (by simp))
      clear r2 hk2 hk2'
      have hs3 := hk3.size
      by_cases h20 : c.w = 2
      · have hd : decide (c.w = 2) = true := decide_eq_true h20
        have h2 := hide h20
        clear h20
        go_upto_region 5 with fail
        have hp3 := hide (hp0.out.kept hk3 (by simp))
        refine wp_region_held_drew (S := (fun w' => CelIn w' b c ∧ PenIn w' w.heap.size p)) (by kernel_rfl) ?_ (fun hHeld => ?_)
        · (try dsimp only); (first | exact ⟨hc3.out.kept (hj4.alloc _) (by simp), hp3.out.kept (hj4.alloc _) (by simp)⟩ | exact ⟨hc3.out.kept hj4 (by simp), hp3.out.kept hj4 (by simp)⟩ | exact ⟨hc3.out.kept ((Kept.refl [] w3).drew) (by simp), hp3.out.kept ((Kept.refl [] w3).drew) (by simp)⟩)
        refine wpAnyH_take (i := 0) (v := (.agg #[.int .i32 c.r, .int .i32 c.m0, .int .i32 c.m1, .int .i32 c.m2, .int .i64 c.w, .int .i64 c.p.f.k, .int .u8 c.p.f.i, .int .u8 c.p.f.r, .int .u8 c.p.f.g, .int .u8 c.p.f.b, .int .i64 c.p.b.k, .int .u8 c.p.b.i, .int .u8 c.p.b.r, .int .u8 c.p.b.g, .int .u8 c.p.b.b, .int .u8 c.p.fl])) rfl (by kernel_rfl) (by kernel_rfl) (by kernel_rfl) (fun _ _ _ h => h) (yieldsIf_load_mid (by rfl) 30 _ rfl b 0 rfl (kcL c) _ (fun _ h => h.1.range) Tryd.underlying30 rfl (by kernel_rfl)) (by assumption) ?_
        try simp only [Act.put, List.getElem_toArray, List.getElem_cons_zero, List.setIfInBounds_toArray, List.set_cons_zero, List.set_cons_succ]
        refine wpAnyH_take (i := 1) (v := (.agg #[.int .i64 p.f.k, .int .u8 p.f.i, .int .u8 p.f.r, .int .u8 p.f.g, .int .u8 p.f.b, .int .i64 p.b.k, .int .u8 p.b.i, .int .u8 p.b.r, .int .u8 p.b.g, .int .u8 p.b.b, .int .u8 p.fl])) rfl (by kernel_rfl) (by kernel_rfl) (by kernel_rfl) (fun _ _ _ h => h) (yieldsIf_load_mid (by rfl) 27 _ rfl w.heap.size 0 rfl (pcL p) _ (fun _ h => h.2.range) Tryd.underlying27 rfl (by kernel_rfl)) (by assumption) ?_
        try simp only [Act.put, List.getElem_toArray, List.getElem_cons_succ, List.getElem_cons_zero, List.setIfInBounds_toArray, List.set_cons_zero, List.set_cons_succ]
        refine wpAnyH_ready (rs := [2]) (by kernel_rfl) (by simp) ?_
        refine AllReadyH.cons rfl (fun K hK => ?_) AllReadyH.nil
        go_simp
        refine (hSp.out w3.drew).mono ?_; rintro e w4 ⟨rfl, hj4'⟩; have hj4 : Kept [] w3 w4 := ((Kept.refl [] w3).drew).trans hj4' (by simp)
        try go_wp2_with fail
        refine hK.out _ _ ?_ (fun hHeld => ?_)
        · (try dsimp only); (first | exact ⟨hc3.out.kept (hj4.alloc _) (by simp), hp3.out.kept (hj4.alloc _) (by simp)⟩ | exact ⟨hc3.out.kept hj4 (by simp), hp3.out.kept hj4 (by simp)⟩ | exact ⟨hc3.out.kept ((Kept.refl [] w3).drew) (by simp), hp3.out.kept ((Kept.refl [] w3).drew) (by simp)⟩)
        clear hK K
        try simp only [Act.put, List.getElem_toArray, List.getElem_cons_succ, List.getElem_cons_zero, List.setIfInBounds_toArray, List.set_cons_zero, List.set_cons_succ]
        refine wpAnyH_ready (rs := [3]) (by kernel_rfl) (by simp) ?_
        refine AllReadyH.cons rfl (fun K hK => ?_) AllReadyH.nil
        go_simp
        try go_wp2_with fail
        refine hK.out _ _ ?_ (fun hHeld => ?_)
        · (try dsimp only); (first | exact ⟨hc3.out.kept (hj4.alloc _) (by simp), hp3.out.kept (hj4.alloc _) (by simp)⟩ | exact ⟨hc3.out.kept hj4 (by simp), hp3.out.kept hj4 (by simp)⟩ | exact ⟨hc3.out.kept ((Kept.refl [] w3).drew) (by simp), hp3.out.kept ((Kept.refl [] w3).drew) (by simp)⟩)
        clear hK K
        try simp only [Act.put, List.getElem_toArray, List.getElem_cons_succ, List.getElem_cons_zero, List.setIfInBounds_toArray, List.set_cons_zero, List.set_cons_succ]
        refine wpAnyH_take (i := 4) (v := ?_) rfl (by kernel_rfl) (by kernel_rfl) (by kernel_rfl) (fun _ _ _ h => h) (Or.inl ⟨by rfl, ?_⟩) (by assumption) ?_
        rotate_left
        · (intro wq hSw; (try dsimp only at hSw); go_simp; try with_reducible rfl)
        try simp only [Act.put, List.getElem_toArray, List.getElem_cons_succ, List.getElem_cons_zero, List.setIfInBounds_toArray, List.set_cons_zero, List.set_cons_succ]
        refine wpAnyH_take (i := 5) (v := ?_) rfl (by kernel_rfl) (by kernel_rfl) (by kernel_rfl) (fun _ _ _ h => h) (Or.inl ⟨by rfl, ?_⟩) (by assumption) ?_
        rotate_left
        · (intro wq hSw; (try dsimp only at hSw); go_simp; try with_reducible rfl)
        try simp only [Act.put, List.getElem_toArray, List.getElem_cons_succ, List.getElem_cons_zero, List.setIfInBounds_toArray, List.set_cons_zero, List.set_cons_succ]
        refine wpAnyH_done (by kernel_rfl) ?_ _
        go_wp2_with fail
        refine bodyPost_ret (v := .tuple #[.slice (some ⟨w4.heap.size, 0, none⟩) 2 2, .int .i64 0]) (by simp [results, Tryd.results30, go_sem]) rfl ?_
        rw [hR.out]
        simp only [if_true, if_pos h2.out]
        have hs4 := hj4.size
        exact ⟨_, _, _, rfl, Rd.blockC (heap_alloc_new w4 _) rfl, by simp [blk]; omega, ((hk0.trans hk3 (by simp)).trans hj4 (by simp)).alloc _⟩
      · have hd : decide (c.w = 2) = false := decide_eq_false h20
        have h2 := hide h20
        clear h20
        have r3 := hc3.out.range
        go_wp2_with (refine wpList_load_cel rfl rfl b 0 rfl r3 ?_)
        refine bodyPost_ret (v := .tuple #[.slice (some ⟨w3.heap.size, 0, none⟩) 1 1, .int .i64 0]) (by simp [results, Tryd.results30, go_sem]) rfl ?_
        rw [hR.out]
        simp only [if_true, if_neg h2.out]
        exact ⟨_, _, _, rfl, Rd.blockC (heap_alloc_new w3 _) rfl, by simp [blk]; omega, (hk0.trans hk3 (by simp)).alloc _⟩
end Go.Proofs.YtigaijigdellpaaDoor
