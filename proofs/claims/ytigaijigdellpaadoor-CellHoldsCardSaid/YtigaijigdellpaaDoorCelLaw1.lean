/- The walk of CellOf. -/
import Derived.Test.YtigaijigdellpaaDoorCelKo
namespace Go.Proofs.YtigaijigdellpaaDoor
open Go.RowKit
set_option linter.unusedVariables false
set_option linter.unusedSimpArgs false

theorem ofE_bad {r : Int} {p : Pn} (h : ¬ (1 ≤ ofI r ∧ penOk p)) : ofE r p = ([], 2) := by
  unfold ofE
  rw [if_neg (fun hv => h ((of_valid r p).1 hv))]
theorem ofE_one {r : Int} {p : Pn} (h : ofI r = 1) (hp : penOk p) : ofE r p = ([⟨r, 0, 0, 0, 1, p⟩], 0) := by
  unfold ofE
  rw [if_pos ((of_valid r p).2 ⟨by omega, hp⟩), if_neg (by omega)]
  unfold ofC
  rw [h]
theorem ofE_two {r : Int} {p : Pn} (h : ofI r = 2) (hp : penOk p) : ofE r p = ([⟨r, 0, 0, 0, 2, p⟩, spacerC p], 0) := by
  unfold ofE
  rw [if_pos ((of_valid r p).2 ⟨by omega, hp⟩), if_pos h]
  unfold ofC
  rw [h]
/-- What the examples' check is known to do. -/
def KnownIs : Prop := ∀ w, Tabs w → Calls Tryd.prog 13 #[] w fun e w' => e = .returned (.bool true) ∧ Kept [] w w'

set_option maxHeartbeats 2000000 in
theorem CellOf_walk (KN : KnownIs) (r : Int) (p : Pn) (w : World) (ht : Tabs w) : Calls Tryd.prog 3 #[.int .i32 r, .agg #[.int .i64 p.f.k, .int .u8 p.f.i, .int .u8 p.f.r, .int .u8 p.f.g, .int .u8 p.f.b, .int .i64 p.b.k, .int .u8 p.b.i, .int .u8 p.b.r, .int .u8 p.b.g, .int .u8 p.b.b, .int .u8 p.fl]] w fun e w' => e = .returned (.bool true) ∧ Kept [] w w' := by
  obtain ⟨W0, hW0⟩ : ∃ z : World, z = w.alloc (.cells #[.int .i64 p.f.k, .int .u8 p.f.i, .int .u8 p.f.r, .int .u8 p.f.g, .int .u8 p.f.b, .int .i64 p.b.k, .int .u8 p.b.i, .int .u8 p.b.r, .int .u8 p.b.g, .int .u8 p.b.b, .int .u8 p.fl] 27) := ⟨_, rfl⟩
  have hk0 : Kept [] w W0 := by rw [hW0]; exact (Kept.refl [] w).alloc _
  have hp0 : Hid (PenIn W0 w.heap.size p) := hide (by rw [hW0]; exact PenIn.new w p)
  have hT := hide (fun w1 (hk : Kept [] W0 w1) => (ht.kept hk0).kept hk)
  have hKN := hide KN
  clear ht KN
  have hB := hide (fun w1 => Blank_any p w1)
  have hS := hide (fun w1 => Spacer_any p w1)
  have hO := hide (fun w1 => rof_any r w1)
  have hV := hide (fun w1 => rvalid_is p _ rfl w1)
  have hq1 : ∀ w, (binOp .neq 30 (.agg #[.int .i32 (blankC p).r, .int .i32 (blankC p).m0, .int .i32 (blankC p).m1, .int .i32 (blankC p).m2, .int .i64 (blankC p).w, .int .i64 (blankC p).p.f.k, .int .u8 (blankC p).p.f.i, .int .u8 (blankC p).p.f.r, .int .u8 (blankC p).p.f.g, .int .u8 (blankC p).p.f.b, .int .i64 (blankC p).p.b.k, .int .u8 (blankC p).p.b.i, .int .u8 (blankC p).p.b.r, .int .u8 (blankC p).p.b.g, .int .u8 (blankC p).p.b.b, .int .u8 (blankC p).p.fl]) (.agg #[.int .i32 0, .int .i32 0, .int .i32 0, .int .i32 0, .int .i64 1, .int .i64 p.f.k, .int .u8 p.f.i, .int .u8 p.f.r, .int .u8 p.f.g, .int .u8 p.f.b, .int .i64 p.b.k, .int .u8 p.b.i, .int .u8 p.b.r, .int .u8 p.b.g, .int .u8 p.b.b, .int .u8 p.fl])).run Tryd.prog w = .ok (.bool false) w := fun w => (neq_K (blankC p) (blankC p) w).trans (by simp)
  have hq2 : ∀ w, (binOp .neq 30 (.agg #[.int .i32 (spacerC p).r, .int .i32 (spacerC p).m0, .int .i32 (spacerC p).m1, .int .i32 (spacerC p).m2, .int .i64 (spacerC p).w, .int .i64 (spacerC p).p.f.k, .int .u8 (spacerC p).p.f.i, .int .u8 (spacerC p).p.f.r, .int .u8 (spacerC p).p.f.g, .int .u8 (spacerC p).p.f.b, .int .i64 (spacerC p).p.b.k, .int .u8 (spacerC p).p.b.i, .int .u8 (spacerC p).p.b.r, .int .u8 (spacerC p).p.b.g, .int .u8 (spacerC p).p.b.b, .int .u8 (spacerC p).p.fl]) (.agg #[.int .i32 0, .int .i32 0, .int .i32 0, .int .i32 0, .int .i64 0, .int .i64 p.f.k, .int .u8 p.f.i, .int .u8 p.f.r, .int .u8 p.f.g, .int .u8 p.f.b, .int .i64 p.b.k, .int .u8 p.b.i, .int .u8 p.b.r, .int .u8 p.b.g, .int .u8 p.b.b, .int .u8 p.fl])).run Tryd.prog w = .ok (.bool false) w := fun w => (neq_K (spacerC p) (spacerC p) w).trans (by simp)
  have hof := hide (fun no a2 n2 c2 m (hv : (decide ((ofE r p).1 = m) && decide ((ofE r p).2 = no)) = true) w1 hk hr => of_ask r p no a2 n2 c2 m true hv w1 (hT.out w1 hk) hr)
  have hbd := ofI_bound r
  have h1 := hide (fun h => ofE_bad (r := r) (p := p) h)
  have h2 := hide (fun h h' => ofE_one (r := r) (p := p) h h')
  have h3 := hide (fun h h' => ofE_two (r := r) (p := p) h h')
  generalize ofE r p = E at *
  generalize ofI r = o at *
  go_enter Tryd.func3, Tryd.ntmps3
  go_upto_region 1 with fail
  rw [← hW0]
  clear hW0
  refine wp_region_held_drew (S := (fun w' => PenIn w' w.heap.size p)) (by kernel_rfl) ?_ (fun hHeld => ?_)
  · (try dsimp only); (first | exact hp0.out.kept k2 (by simp) | exact hp0.out.kept k1 (by simp) | exact hp0.out.kept (Kept.refl [] W0).drew (by simp))
  refine wpAnyH_take (i := 0) (v := (.agg #[.int .i64 p.f.k, .int .u8 p.f.i, .int .u8 p.f.r, .int .u8 p.f.g, .int .u8 p.f.b, .int .i64 p.b.k, .int .u8 p.b.i, .int .u8 p.b.r, .int .u8 p.b.g, .int .u8 p.b.b, .int .u8 p.fl])) rfl (by kernel_rfl) (by kernel_rfl) (by kernel_rfl) (fun _ _ _ h => h) (yieldsIf_load_mid (by rfl) 27 _ rfl w.heap.size 0 rfl (pcL p) _ (fun _ h => h.range) Tryd.underlying27 rfl (by kernel_rfl)) (by assumption) ?_
  try simp only [Act.put, List.getElem_toArray, List.getElem_cons_zero, List.setIfInBounds_toArray, List.set_cons_zero, List.set_cons_succ]
  refine wpAnyH_take (i := 2) (v := (.agg #[.int .i64 p.f.k, .int .u8 p.f.i, .int .u8 p.f.r, .int .u8 p.f.g, .int .u8 p.f.b, .int .i64 p.b.k, .int .u8 p.b.i, .int .u8 p.b.r, .int .u8 p.b.g, .int .u8 p.b.b, .int .u8 p.fl])) rfl (by kernel_rfl) (by kernel_rfl) (by kernel_rfl) (fun _ _ _ h => h) (yieldsIf_load_mid (by rfl) 27 _ rfl w.heap.size 0 rfl (pcL p) _ (fun _ h => h.range) Tryd.underlying27 rfl (by kernel_rfl)) (by assumption) ?_
  try simp only [Act.put, List.getElem_toArray, List.getElem_cons_succ, List.getElem_cons_zero, List.setIfInBounds_toArray, List.set_cons_zero, List.set_cons_succ]
  refine wpAnyH_take (i := 3) (v := ?_) rfl (by kernel_rfl) (by kernel_rfl) (by kernel_rfl) (fun _ _ _ h => h) (Or.inl ⟨by rfl, ?_⟩) (by assumption) ?_
  rotate_left
  · (intro wq hSw; (try dsimp only at hSw); go_simp; try with_reducible rfl)
  try simp only [Act.put, List.getElem_toArray, List.getElem_cons_succ, List.getElem_cons_zero, List.setIfInBounds_toArray, List.set_cons_zero, List.set_cons_succ]
  refine wpAnyH_ready (rs := [1]) (by kernel_rfl) (by simp) ?_
  refine AllReadyH.cons rfl (fun K hK => ?_) AllReadyH.nil
  go_simp
  refine (hB.out W0.drew).mono ?_; rintro e w1 ⟨rfl, j1⟩; have k1 : Kept [] W0 w1 := (Kept.refl [] W0).drew.trans j1 (by simp)
  try go_wp2_with fail
  refine hK.out _ _ ?_ (fun hHeld => ?_)
  · (try dsimp only); (first | exact hp0.out.kept k2 (by simp) | exact hp0.out.kept k1 (by simp) | exact hp0.out.kept (Kept.refl [] W0).drew (by simp))
  clear hK K
  try simp only [Act.put, List.getElem_toArray, List.getElem_cons_succ, List.getElem_cons_zero, List.setIfInBounds_toArray, List.set_cons_zero, List.set_cons_succ]
  refine wpAnyH_take (i := 4) (v := ?_) rfl (by kernel_rfl) (by kernel_rfl) (by kernel_rfl) (fun _ _ _ h => h) (Or.inl ⟨by rfl, ?_⟩) (by assumption) ?_
  rotate_left
  · (intro wq hSw; (try dsimp only at hSw); go_simp; try with_reducible rfl)
  try simp only [Act.put, List.getElem_toArray, List.getElem_cons_succ, List.getElem_cons_zero, List.setIfInBounds_toArray, List.set_cons_zero, List.set_cons_succ]
  refine wpAnyH_take (i := 5) (v := ?_) rfl (by kernel_rfl) (by kernel_rfl) (by kernel_rfl) (fun _ _ _ h => h) (Or.inl ⟨by rfl, ?_⟩) (by assumption) ?_
  rotate_left
  · (intro wq hSw; (try dsimp only at hSw); go_simp; try with_reducible rfl)
  try simp only [Act.put, List.getElem_toArray, List.getElem_cons_succ, List.getElem_cons_zero, List.setIfInBounds_toArray, List.set_cons_zero, List.set_cons_succ]
  refine wpAnyH_take (i := 6) (v := (.agg #[.int .i64 p.f.k, .int .u8 p.f.i, .int .u8 p.f.r, .int .u8 p.f.g, .int .u8 p.f.b, .int .i64 p.b.k, .int .u8 p.b.i, .int .u8 p.b.r, .int .u8 p.b.g, .int .u8 p.b.b, .int .u8 p.fl])) rfl (by kernel_rfl) (by kernel_rfl) (by kernel_rfl) (fun _ _ _ h => h) (yieldsIf_load_mid (by rfl) 27 _ rfl w.heap.size 0 rfl (pcL p) _ (fun _ h => h.range) Tryd.underlying27 rfl (by kernel_rfl)) (by assumption) ?_
  try simp only [Act.put, List.getElem_toArray, List.getElem_cons_succ, List.getElem_cons_zero, List.setIfInBounds_toArray, List.set_cons_zero, List.set_cons_succ]
  refine wpAnyH_take (i := 8) (v := (.agg #[.int .i64 p.f.k, .int .u8 p.f.i, .int .u8 p.f.r, .int .u8 p.f.g, .int .u8 p.f.b, .int .i64 p.b.k, .int .u8 p.b.i, .int .u8 p.b.r, .int .u8 p.b.g, .int .u8 p.b.b, .int .u8 p.fl])) rfl (by kernel_rfl) (by kernel_rfl) (by kernel_rfl) (fun _ _ _ h => h) (yieldsIf_load_mid (by rfl) 27 _ rfl w.heap.size 0 rfl (pcL p) _ (fun _ h => h.range) Tryd.underlying27 rfl (by kernel_rfl)) (by assumption) ?_
  try simp only [Act.put, List.getElem_toArray, List.getElem_cons_succ, List.getElem_cons_zero, List.setIfInBounds_toArray, List.set_cons_zero, List.set_cons_succ]
  refine wpAnyH_take (i := 9) (v := ?_) rfl (by kernel_rfl) (by kernel_rfl) (by kernel_rfl) (fun _ _ _ h => h) (Or.inl ⟨by rfl, ?_⟩) (by assumption) ?_
  rotate_left
  · (intro wq hSw; (try dsimp only at hSw); go_simp; try with_reducible rfl)
  try simp only [Act.put, List.getElem_toArray, List.getElem_cons_succ, List.getElem_cons_zero, List.setIfInBounds_toArray, List.set_cons_zero, List.set_cons_succ]
  refine wpAnyH_ready (rs := [7]) (by kernel_rfl) (by simp) ?_
  refine AllReadyH.cons rfl (fun K hK => ?_) AllReadyH.nil
  go_simp
  refine (hS.out w1).mono ?_; rintro e w2 ⟨rfl, j2⟩; have k2 : Kept [] W0 w2 := k1.trans j2 (by simp)
  try go_wp2_with fail
  refine hK.out _ _ ?_ (fun hHeld => ?_)
  · (try dsimp only); (first | exact hp0.out.kept k2 (by simp) | exact hp0.out.kept k1 (by simp) | exact hp0.out.kept (Kept.refl [] W0).drew (by simp))
  clear hK K
  try simp only [Act.put, List.getElem_toArray, List.getElem_cons_succ, List.getElem_cons_zero, List.setIfInBounds_toArray, List.set_cons_zero, List.set_cons_succ]
  refine wpAnyH_take (i := 10) (v := ?_) rfl (by kernel_rfl) (by kernel_rfl) (by kernel_rfl) (fun _ _ _ h => h) (Or.inl ⟨by rfl, ?_⟩) (by assumption) ?_
  rotate_left
  · (intro wq hSw; (try dsimp only at hSw); go_simp; try with_reducible rfl)
  try simp only [Act.put, List.getElem_toArray, List.getElem_cons_succ, List.getElem_cons_zero, List.setIfInBounds_toArray, List.set_cons_zero, List.set_cons_succ]
  refine wpAnyH_take (i := 11) (v := ?_) rfl (by kernel_rfl) (by kernel_rfl) (by kernel_rfl) (fun _ _ _ h => h) (Or.inl ⟨by rfl, ?_⟩) (by assumption) ?_
  rotate_left
  · (intro wq hSw; (try dsimp only at hSw); go_simp; try with_reducible rfl)
  try simp only [Act.put, List.getElem_toArray, List.getElem_cons_succ, List.getElem_cons_zero, List.setIfInBounds_toArray, List.set_cons_zero, List.set_cons_succ]
  refine wpAnyH_done (by kernel_rfl) ?_ _
  go_wp2_with fail
  refine (hO.out _).mono ?_
  rintro e w3 ⟨rfl, j3⟩
  have k3 : Kept [] W0 w3 := k2.trans j3 (by simp)
  have rp := (hp0.out.kept k3 (by simp)).range
  clear k1 k2 j1 j2 j3 hq1 hq2
  by_cases hn0 : o < 1
  · have dn : decide (o < 1) = true := decide_eq_true hn0
    have hE := hide (h1.out (by omega))
    go_wp2_with (refine wpList_load_pen rfl rfl w.heap.size 0 rfl rp ?_)
    refine (hof.out 2 none 0 0 [] (by rw [hE.out]; rfl) _ k3 (Rd.nil _ _ _)).mono ?_
    rintro e w4 ⟨rfl, j4⟩
    have k4 := hide (k3.trans j4 (by simp))
    go_wp2_with fail
    refine (hKN.out _ (hT.out _ k4.out)).mono ?_
    rintro e w5 ⟨rfl, j5⟩
    go_wp2_with fail
    go_ret
    exact ⟨rfl, (hk0.trans k4.out (by simp)).trans j5 (by simp)⟩
  · have dn : decide (o < 1) = false := decide_eq_false hn0
    have hn := hide hn0
    clear hn0
    go_wp2_with (refine wpList_load_penW rfl (by rfl) w.heap.size 0 rfl rp ?_)
    refine (hV.out _).mono ?_
    rintro e w4 ⟨rfl, j4⟩
    have k4 : Kept [] W0 w4 := k3.trans j4 (by simp)
    have rp4 := (hp0.out.kept k4 (by simp)).range
    clear rp j4 k3
    by_cases hpk0 : penOk p
    · have dp : decide (penOk p) = true := decide_eq_true hpk0
      have hpk := hide hpk0
      clear hpk0
      by_cases ho0 : o = 1
      · have do1 : (o == 1) = true := by simpa using ho0
        have hE := hide (h2.out ho0 hpk.out)
        clear ho0
        go_wp2_with (refine wpList_load_pen rfl rfl w.heap.size 0 rfl rp4 ?_)
        refine (hof.out 0 (some ⟨w4.heap.size, 0, none⟩) 1 1 [⟨r, 0, 0, 0, 1, p⟩] (by rw [hE.out]; simp) _ (k4.alloc _) (Rd.blockC (heap_alloc_new w4 _) rfl)).mono ?_
        rintro e w5 ⟨rfl, j5⟩
        have k5 := hide ((k4.alloc _).trans j5 (by simp))
        go_wp2_with fail
        refine (hKN.out _ (hT.out _ k5.out)).mono ?_
        rintro e w6 ⟨rfl, j6⟩
        go_wp2_with fail
        go_ret
        exact ⟨rfl, (hk0.trans k5.out (by simp)).trans j6 (by simp)⟩
      · have do1 : (o == 1) = false := by simpa using ho0
        have hE := hide (h3.out (by have := hn.out; omega) hpk.out)
        clear ho0
        go_wp2_with (refine wpList_load_pen rfl rfl w.heap.size 0 rfl rp4 ?_)
        refine (hof.out 0 (some ⟨w4.heap.size, 0, none⟩) 2 2 [⟨r, 0, 0, 0, 2, p⟩, spacerC p] (by rw [hE.out]; simp) _ (k4.alloc _) (Rd.blockC (heap_alloc_new w4 _) rfl)).mono ?_
        rintro e w5 ⟨rfl, j5⟩
        have k5 := hide ((k4.alloc _).trans j5 (by simp))
        go_wp2_with fail
        refine (hKN.out _ (hT.out _ k5.out)).mono ?_
        rintro e w6 ⟨rfl, j6⟩
        go_wp2_with fail
        go_ret
        exact ⟨rfl, (hk0.trans k5.out (by simp)).trans j6 (by simp)⟩
    · have dp : decide (penOk p) = false := decide_eq_false hpk0
      have hE := hide (h1.out (fun h => hpk0 h.2))
      clear hpk0
      go_wp2_with (refine wpList_load_pen rfl rfl w.heap.size 0 rfl rp4 ?_)
      refine (hof.out 2 none 0 0 [] (by rw [hE.out]; rfl) _ k4 (Rd.nil _ _ _)).mono ?_
      rintro e w5 ⟨rfl, j5⟩
      have k5 := hide (k4.trans j5 (by simp))
      go_wp2_with fail
      refine (hKN.out _ (hT.out _ k5.out)).mono ?_
      rintro e w6 ⟨rfl, j6⟩
      go_wp2_with fail
      go_ret
      exact ⟨rfl, (hk0.trans k5.out (by simp)).trans j6 (by simp)⟩
end Go.Proofs.YtigaijigdellpaaDoor
