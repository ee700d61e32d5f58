/- Layer 9: the law PlaceTexts. -/
import Derived.Test.YtnkddhmhjnhgcabDoorPlRPar
import Derived.Test.YtnkddhmhjnhgcabDoorPlKn
namespace Go.Proofs.YtnkddhmhjnhgcabDoor
open Go.RowKit Go.Sort
set_option linter.unusedVariables false
set_option linter.unusedSimpArgs false
set_option maxRecDepth 100000

theorem text_short {p : Pl} (h : vP p = true) : (textL p).length ≤ 100 := by
  have hp := (vP_iff p).1 h
  have n1 := Lib.itoa_length_le p.l (by omega) (by omega)
  have n2 := Lib.itoa_length_le p.c (by omega) (by omega)
  rw [itoa_nat hp.1] at n1
  rw [itoa_nat hp.2.2.1] at n2
  unfold textL
  simp
  omega
set_option maxHeartbeats 4000000 in
theorem placeTexts_any (p : Pl) (s : ByteArray) (w : World) (ht : PlT w) : Calls Tryd.prog 3 #[.agg #[.int .i64 p.l, .int .i64 p.c], .string s] w fun e w' => e = .returned (.bool true) ∧ Kept [] w w' := by
  have hT := hide ht
  clear ht
  have hK := hide (fun w1 (hk : Kept [] w w1) => known9_any w1 (hT.out.kept hk))
  have hk0 : Kept [] w (w.alloc (.cells #[.int .i64 p.l, .int .i64 p.c] 23)) := (Kept.refl [] w).alloc _
  have x0 := PlB.new w p
  by_cases hl : (s.size : Int) > 40
  · go_enter Tryd.func3, Tryd.ntmps3
    go_wp2_with fail
    refine (hK.out _ hk0).mono ?_
    rintro e w1 ⟨rfl, j1⟩
    go_wp2_with fail
    go_ret
    exact ⟨rfl, hk0.trans j1 (by simp)⟩
  · have hs : s.size ≤ 40 := by omega
    have hV := hide (fun w => rValid_any p w)
    have hRp := hide (fun w => rParse_any s (by omega) w)
    have hPa := hide (fun q no v hv w ht => parses_any s (by omega) q no v hv w ht)
    go_enter Tryd.func3, Tryd.ntmps3
    go_wp2_with fail
    refine (hV.out _).mono ?_
    rintro e w1 ⟨rfl, j1⟩
    have k1 := hide (hk0.trans j1 (by simp))
    have x1 := hide (x0.kept j1 (by simp))
    clear x0 hk0 j1 hV
    generalize w.heap.size = g at *
    go_upto_if 13 with fail
    go_cut [4] from 5 (fun s4 wc => s4 = .bool false ∧ Kept [] w1 wc)
    case first => as_aux_lemma =>
      have c0 := x1.out.c0
      have c1 := x1.out.c1
      cases hv : vP p with
      | false =>
        have hTx := hide (fun w ht => text_any p ⟨#[]⟩ 2 true (by unfold textE; rw [if_neg (by simp [hv])]; rfl) w ht)
        replace hv := hide hv
        go_wp2_with fail
        refine (hTx.out _ (hT.out.kept k1.out)).mono ?_
        rintro e w2 ⟨rfl, j2⟩
        go_wp2_with fail
        go_meet
        case rel => exact ⟨rfl, j2⟩
      | true =>
        have hR := hide (fun w => rText_any p hv w)
        have hTx := hide (fun w ht => text_any p ⟨(textL p).toArray⟩ 0 true (by unfold textE; rw [if_pos hv, ba_list]; simp) w ht)
        have hPs := hide (fun w ht => parses_any ⟨(textL p).toArray⟩ (by rw [ba_size]; have := text_short hv; omega) p 0 true (by rw [ba_list, parse_text hv]; simp) w ht)
        generalize textL p = X at *
        replace hv := hide hv
        obtain ⟨l, c⟩ := p
        simp only at c0 c1
        go_upto_region 6 with fail
        refine wp_region_held_drew (S := (fun w' => w'.cell? ⟨g, 0, none⟩ = some (.int .i64 l) ∧ w'.cell? ⟨g, 1, none⟩ = some (.int .i64 c))) (by kernel_rfl) ?_ (fun hHeld => ?_)
        · (try dsimp only); (first | exact ⟨k5.cell c0 (by simp), k5.cell c1 (by simp)⟩ | exact ⟨k4.cell c0 (by simp), k4.cell c1 (by simp)⟩ | exact ⟨k3.cell c0 (by simp), k3.cell c1 (by simp)⟩ | exact ⟨k2.cell c0 (by simp), k2.cell c1 (by simp)⟩ | exact ⟨((Kept.refl [] w1).drew).cell c0 (by simp), ((Kept.refl [] w1).drew).cell c1 (by simp)⟩)
        refine wpAnyH_take (i := 0) (v := ?_) rfl (by kernel_rfl) (by kernel_rfl) (by kernel_rfl) (fun _ _ _ h => h) (Or.inl ⟨by rfl, ?_⟩) (by assumption) ?_
        rotate_left
        · (intro wq hSw; (try dsimp only at hSw); go_simp; try with_reducible rfl)
        try simp only [Act.put, List.getElem_toArray, List.getElem_cons_zero, List.setIfInBounds_toArray, List.set_cons_zero, List.set_cons_succ]
        refine wpAnyH_take (i := 1) (v := ?_) rfl (by kernel_rfl) (by kernel_rfl) (by kernel_rfl) (fun _ _ _ h => h) (Or.inl ⟨by rfl, ?_⟩) (by assumption) ?_
        rotate_left
        · (intro wq hSw; (try dsimp only at hSw); go_simp; try with_reducible rfl)
        try simp only [Act.put, List.getElem_toArray, List.getElem_cons_succ, List.getElem_cons_zero, List.setIfInBounds_toArray, List.set_cons_zero, List.set_cons_succ]
        refine wpAnyH_ready (rs := [2]) (by kernel_rfl) (by simp) ?_
        refine AllReadyH.cons rfl (fun K hK => ?_) AllReadyH.nil
        go_simp
        refine (hR.out _).mono ?_; rintro e w2 ⟨rfl, j2⟩; have k2 : Kept [] w1 w2 := (Kept.refl [] w1).drew.trans j2 (by simp)
        try go_wp2_with fail
        refine hK.out _ _ ?_ (fun hHeld => ?_)
        · (try dsimp only); (first | exact ⟨k5.cell c0 (by simp), k5.cell c1 (by simp)⟩ | exact ⟨k4.cell c0 (by simp), k4.cell c1 (by simp)⟩ | exact ⟨k3.cell c0 (by simp), k3.cell c1 (by simp)⟩ | exact ⟨k2.cell c0 (by simp), k2.cell c1 (by simp)⟩ | exact ⟨((Kept.refl [] w1).drew).cell c0 (by simp), ((Kept.refl [] w1).drew).cell c1 (by simp)⟩)
        clear hK K
        try simp only [Act.put, List.getElem_toArray, List.getElem_cons_succ, List.getElem_cons_zero, List.setIfInBounds_toArray, List.set_cons_zero, List.set_cons_succ]
        refine wpAnyH_ready (rs := [3]) (by kernel_rfl) (by simp) ?_
        refine AllReadyH.cons rfl (fun K hK => ?_) AllReadyH.nil
        go_simp
        refine (hTx.out _ (hT.out.kept (k1.out.trans k2 (by simp)))).mono ?_; rintro e w3 ⟨rfl, j3⟩; have k3 : Kept [] w1 w3 := k2.trans j3 (by simp)
        try go_wp2_with fail
        refine hK.out _ _ ?_ (fun hHeld => ?_)
        · (try dsimp only); (first | exact ⟨k5.cell c0 (by simp), k5.cell c1 (by simp)⟩ | exact ⟨k4.cell c0 (by simp), k4.cell c1 (by simp)⟩ | exact ⟨k3.cell c0 (by simp), k3.cell c1 (by simp)⟩ | exact ⟨k2.cell c0 (by simp), k2.cell c1 (by simp)⟩ | exact ⟨((Kept.refl [] w1).drew).cell c0 (by simp), ((Kept.refl [] w1).drew).cell c1 (by simp)⟩)
        clear hK K
        try simp only [Act.put, List.getElem_toArray, List.getElem_cons_succ, List.getElem_cons_zero, List.setIfInBounds_toArray, List.set_cons_zero, List.set_cons_succ]
        refine wpAnyH_take (i := 4) (v := ?_) rfl (by kernel_rfl) (by kernel_rfl) (by kernel_rfl) (fun _ _ _ h => h) (Or.inl ⟨by rfl, ?_⟩) (by assumption) ?_
        rotate_left
        · (intro wq hSw; (try dsimp only at hSw); go_simp; try with_reducible rfl)
        try simp only [Act.put, List.getElem_toArray, List.getElem_cons_succ, List.getElem_cons_zero, List.setIfInBounds_toArray, List.set_cons_zero, List.set_cons_succ]
        refine wpAnyH_take (i := 5) (v := ?_) rfl (by kernel_rfl) (by kernel_rfl) (by kernel_rfl) (fun _ _ _ h => h) (Or.inl ⟨by rfl, ?_⟩) (by assumption) ?_
        rotate_left
        · (intro wq hSw; (try dsimp only at hSw); go_simp; try with_reducible rfl)
        try simp only [Act.put, List.getElem_toArray, List.getElem_cons_succ, List.getElem_cons_zero, List.setIfInBounds_toArray, List.set_cons_zero, List.set_cons_succ]
        refine wpAnyH_take (i := 6) (v := ?_) rfl (by kernel_rfl) (by kernel_rfl) (by kernel_rfl) (fun _ _ _ h => h) (Or.inl ⟨by rfl, ?_⟩) (by assumption) ?_
        rotate_left
        · (intro wq hSw; (try dsimp only at hSw); go_simp; try with_reducible rfl)
        try simp only [Act.put, List.getElem_toArray, List.getElem_cons_succ, List.getElem_cons_zero, List.setIfInBounds_toArray, List.set_cons_zero, List.set_cons_succ]
        refine wpAnyH_take (i := 8) (v := ?_) rfl (by kernel_rfl) (by kernel_rfl) (by kernel_rfl) (fun _ _ _ h => h) (Or.inl ⟨by rfl, ?_⟩) (by assumption) ?_
        rotate_left
        · (intro wq hSw; (try dsimp only at hSw); go_simp; try with_reducible rfl)
        try simp only [Act.put, List.getElem_toArray, List.getElem_cons_succ, List.getElem_cons_zero, List.setIfInBounds_toArray, List.set_cons_zero, List.set_cons_succ]
        refine wpAnyH_ready (rs := [7]) (by kernel_rfl) (by simp) ?_
        refine AllReadyH.cons rfl (fun K hK => ?_) AllReadyH.nil
        go_simp
        refine (hR.out _).mono ?_; rintro e w4 ⟨rfl, j4⟩; have k4 : Kept [] w1 w4 := k3.trans j4 (by simp)
        try go_wp2_with fail
        refine hK.out _ _ ?_ (fun hHeld => ?_)
        · (try dsimp only); (first | exact ⟨k5.cell c0 (by simp), k5.cell c1 (by simp)⟩ | exact ⟨k4.cell c0 (by simp), k4.cell c1 (by simp)⟩ | exact ⟨k3.cell c0 (by simp), k3.cell c1 (by simp)⟩ | exact ⟨k2.cell c0 (by simp), k2.cell c1 (by simp)⟩ | exact ⟨((Kept.refl [] w1).drew).cell c0 (by simp), ((Kept.refl [] w1).drew).cell c1 (by simp)⟩)
        clear hK K
        try simp only [Act.put, List.getElem_toArray, List.getElem_cons_succ, List.getElem_cons_zero, List.setIfInBounds_toArray, List.set_cons_zero, List.set_cons_succ]
        refine wpAnyH_ready (rs := [9]) (by kernel_rfl) (by simp) ?_
        refine AllReadyH.cons rfl (fun K hK => ?_) AllReadyH.nil
        go_simp
        refine (hPs.out _ (hT.out.kept (k1.out.trans k4 (by simp)))).mono ?_; rintro e w5 ⟨rfl, j5⟩; have k5 : Kept [] w1 w5 := k4.trans j5 (by simp)
        try go_wp2_with fail
        refine hK.out _ _ ?_ (fun hHeld => ?_)
        · (try dsimp only); (first | exact ⟨k5.cell c0 (by simp), k5.cell c1 (by simp)⟩ | exact ⟨k4.cell c0 (by simp), k4.cell c1 (by simp)⟩ | exact ⟨k3.cell c0 (by simp), k3.cell c1 (by simp)⟩ | exact ⟨k2.cell c0 (by simp), k2.cell c1 (by simp)⟩ | exact ⟨((Kept.refl [] w1).drew).cell c0 (by simp), ((Kept.refl [] w1).drew).cell c1 (by simp)⟩)
        clear hK K
        try simp only [Act.put, List.getElem_toArray, List.getElem_cons_succ, List.getElem_cons_zero, List.setIfInBounds_toArray, List.set_cons_zero, List.set_cons_succ]
        refine wpAnyH_take (i := 10) (v := ?_) rfl (by kernel_rfl) (by kernel_rfl) (by kernel_rfl) (fun _ _ _ h => h) (Or.inl ⟨by rfl, ?_⟩) (by assumption) ?_
        rotate_left
        · (intro wq hSw; (try dsimp only at hSw); go_simp; try with_reducible rfl)
        try simp only [Act.put, List.getElem_toArray, List.getElem_cons_succ, List.getElem_cons_zero, List.setIfInBounds_toArray, List.set_cons_zero, List.set_cons_succ]
        refine wpAnyH_take (i := 11) (v := ?_) rfl (by kernel_rfl) (by kernel_rfl) (by kernel_rfl) (fun _ _ _ h => h) (Or.inl ⟨by rfl, ?_⟩) (by assumption) ?_
        rotate_left
        · (intro wq hSw; (try dsimp only at hSw); go_simp; try with_reducible rfl)
        try simp only [Act.put, List.getElem_toArray, List.getElem_cons_succ, List.getElem_cons_zero, List.setIfInBounds_toArray, List.set_cons_zero, List.set_cons_succ]
        refine wpAnyH_done (by kernel_rfl) ?_ _
        go_wp2_with fail
        go_meet
        case rel => exact ⟨rfl, k5⟩
    case rest =>
      obtain ⟨rfl, hkc⟩ := hcut
      obtain ⟨w2, hw2⟩ : ∃ z : World, z = wc := ⟨_, rfl⟩
      subst hw2
      have k2 := hide (k1.out.trans hkc (by simp))
      clear hkc k1 x1
      go_wp2_with fail
      refine (hRp.out _).mono ?_
      rintro e w3 ⟨rfl, j3⟩
      have k3 := hide (k2.out.trans j3 (by simp))
      rcases parse_cases s.data.toList with ⟨q, hq⟩ | hq
      · have hP := hide (fun w ht => hPa.out q 0 true (by rw [hq]; simp) w ht)
        rw [hq]
        replace hq := hide hq
        have k4 := hide (k3.out.alloc (.cells #[.int .i64 q.l, .int .i64 q.c] 23))
        obtain ⟨l, c⟩ := q
        go_wp2_with fail
        refine (hP.out _ (hT.out.kept k4.out)).mono ?_
        rintro e w5 ⟨rfl, j5⟩
        go_wp2_with fail
        refine (hK.out _ (k4.out.trans j5 (by simp))).mono ?_
        rintro e w6 ⟨rfl, j6⟩
        go_wp2_with fail
        go_ret
        exact ⟨rfl, (k4.out.trans j5 (by simp)).trans j6 (by simp)⟩
      · have hP := hide (fun w ht => hPa.out p0 6 true (by rw [hq]; simp) w ht)
        rw [hq]
        replace hq := hide hq
        have k4 := hide (k3.out.alloc (.cells #[.int .i64 p0.l, .int .i64 p0.c] 23))
        go_wp2_with fail
        refine (hP.out _ (hT.out.kept k4.out)).mono ?_
        rintro e w5 ⟨rfl, j5⟩
        go_wp2_with fail
        refine (hK.out _ (k4.out.trans j5 (by simp))).mono ?_
        rintro e w6 ⟨rfl, j6⟩
        go_wp2_with fail
        go_ret
        exact ⟨rfl, (k4.out.trans j5 (by simp)).trans j6 (by simp)⟩
end Go.Proofs.YtnkddhmhjnhgcabDoor
