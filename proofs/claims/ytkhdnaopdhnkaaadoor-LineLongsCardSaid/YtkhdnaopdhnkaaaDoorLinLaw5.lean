/- The walk of LineLongs. -/
import Derived.Test.YtkhdnaopdhnkaaaDoorLinFn4
namespace Go.Proofs.YtkhdnaopdhnkaaaDoor
open Go.RowKit
set_option linter.unusedVariables false
set_option maxRecDepth 100000

theorem valid5_of {l : List Cl} (h : l.length ≤ 1000) (hr : rowI l = true) : validL l = true := by unfold validL; rw [decide_eq_true h, hr]; rfl
def eA : Cl := ⟨97, 0, 0, 0, 1, zeroP⟩
theorem eA_valid : validC eA = true := by decide +kernel
def longL (N : Nat) (last : Bool) : List Cl := if last then (newL N).set (N - 1) eA else newL N
theorem long_last {N : Nat} (h : 0 < N) : longL N true = newL (N - 1) ++ [eA] := by
  obtain ⟨k, rfl⟩ : ∃ k, N = k + 1 := ⟨N - 1, by omega⟩
  show (newL (k + 1)).set k eA = _
  rw [newL_next, List.set_append_right _ _ (by simp [newL])]
  simp [newL]
theorem long_len (N : Nat) (last : Bool) : (longL N last).length = N := by
  unfold longL
  split <;> simp [newL]
theorem long_used {N : Nat} (h : 0 < N) (last : Bool) : usedI (longL N last) = if last then N else 0 := by
  cases last with
  | false =>
    have := used_more [] N
    rw [List.nil_append] at this
    exact this
  | true =>
    rw [long_last h, used_snoc, if_neg (by decide +kernel)]
    simp [newL]
    omega
theorem long_row {N : Nat} (h : 0 < N) (last : Bool) : rowI (longL N last) = true := by
  cases last with
  | false => exact row_new N
  | true =>
    rw [long_last h]
    exact row_app _ _ zeroK (row_new _) (by decide +kernel)
theorem long_valid {N : Nat} (h : 0 < N) (h2 : N ≤ 1000) (last : Bool) : validL (longL N last) = true := valid5_of (by rw [long_len]; exact h2) (long_row h last)
theorem long_not {N : Nat} (h2 : ¬ N ≤ 1000) (last : Bool) : validL (longL N last) = false := by
  unfold validL
  rw [long_len, decide_eq_false h2, Bool.false_and]
theorem fit_one {N : Nat} (h : 0 < N) (h2 : N ≤ 1000) : fitE (newL 1) false (N : Int) = ((newL N, false), 0) := by
  have hv : validL (newL 1) = true := valid5_of (by simp [newL]) (row_new 1)
  have h3 : fitL (newL 1) ((newL 1).length + (N - 1)) = newL N := by
    rw [fit_more (row_new 1)]
    unfold newL
    rw [List.replicate_append_replicate]
    congr 1
    omega
  rw [fitE_ok hv h2]
  rw [show (newL 1).length + (N - 1) = N by simp [newL]; omega] at h3
  rw [h3]
theorem cellsRow5 (l : List Cl) : cellsV l = rowsV kcL l := rfl

set_option maxHeartbeats 2000000 in
theorem LineLongs_out (KN : Known6Is) (k : Int) (last : Bool) (h : k < 998 ∨ 1002 < k) (w : World) (ht : Tabs w) :
    Calls Tryd.prog 7 #[.int .i64 k, .bool last] w fun e w' => e = .returned (.bool true) ∧ Kept [] w w' := by
  have hK := hide (KN w ht)
  by_cases h1 : k < 998
  · clear h
    go_enter Tryd.func7, Tryd.ntmps7
    go_wp2_with fail
    refine hK.out.mono ?_
    rintro e w1 ⟨rfl, hk1⟩
    go_wp2_with fail
    go_ret
    exact ⟨rfl, hk1⟩
  · have h2 : 1002 < k := by omega
    clear h
    go_enter Tryd.func7, Tryd.ntmps7
    go_wp2_with fail
    refine hK.out.mono ?_
    rintro e w1 ⟨rfl, hk1⟩
    go_wp2_with fail
    go_ret
    exact ⟨rfl, hk1⟩


set_option maxHeartbeats 20000000 in
theorem LineLongs_ev (KN : Known6Is) (N : Nat) (h1 : 998 ≤ N) (h2 : N ≤ 1002) (h3 : N ≤ 1000) (w : World) (ht : Tabs w) :
    Calls Tryd.prog 7 #[.int .i64 (N : Int), .bool false] w fun e w' => e = .returned (.bool true) ∧ Kept [] w w' := by
  have ht0 := hide ht
  have i1 : ¬ ((N : Int) < 998) := by omega
  have i2 : ¬ (1002 < (N : Int)) := by omega
  have i3 : ¬ (1000 : Int) < (N : Int) := by omega
  have hM := hide (show longL N false = longL N false from rfl)
  have hlen := hide (long_len N false)
  have hus : Hid (usedI (longL N false) = 0) := hide (by rw [long_used (by omega)]; simp)
  have hvl := hide (long_valid (N := N) (by omega) h3 false)
  have hnn : ((N : Int) != (N : Int)) = false := by simp
  have hKn := hide (fun w1 (hk : Kept [] w w1) => KN w1 (ht.kept hk))
  clear ht KN
  go_enter Tryd.func7, Tryd.ntmps7
  go_wp2_with fail
  refine (rNew_any N (by omega) w).mono ?_
  rintro e u1 ⟨a1, n1, c1, rfl, ho1, hc1, hd1, hj1⟩
  obtain rfl : N = n1 := by have h : (newL N).length = n1 := ho1.rd.clen; simp [newL] at h; exact h
  have hr0 := hide ho1.rd
  clear ho1
  go_wp2_with (refine wpList_store_lin rfl rfl rfl u1.heap.size rfl (LinIn.new u1 none 0 0 false) a1 N c1 false rfl ?_; intro v1 hb1 hg1; have hh1 : Kept [] u1 v1 := ((Kept.refl [] u1).alloc (.cells #[.slice none 0 0, .bool false] 27)).trans hg1 (by simp); obtain ⟨q0, q1⟩ := hb1.at)
  have hb := hide hb1
  have hk := hide (hj1.trans hh1 (by simp))
  have hrd := hide (show Rd v1 a1 N 16 (cellsV (longL N false)) from hr0.out.kept hh1 (by simp))
  clear hb1 hg1 hh1 hj1 hr0
  generalize longL N false = M at *
  have hUs := Used6_any a1 N c1 M false v1 hrd.out (by omega)
  rw [hus.out] at hUs
  refine hUs.mono ?_
  rintro e w3 ⟨rfl, hj3⟩
  clear hUs
  clear q0 q1
  have hk3 := hide (hk.out.trans hj3 (by simp))
  have hrd3 := hide (hrd.out.kept hj3 (by simp))
  have hb3 := hide (hb.out.kept hj3 (by simp))
  clear hk hrd hb hj3
  have hF : ∀ {w' : World}, Kept [] w3 w' → w'.cell? ⟨u1.heap.size, 0, none⟩ = some (.slice a1 N c1) ∧ w'.cell? ⟨u1.heap.size, 1, none⟩ = some (.bool false) := fun hk => (hb3.out.kept hk (by simp)).at
  have hT := hide (fun w1 (hk : Kept [] w3 w1) => ht0.out.kept (hk3.out.trans hk (by simp)))
  have hR := hide (fun w1 (hk : Kept [] w3 w1) => hrd3.out.kept hk (by simp))
  have hKK := hide (fun w1 (hk : Kept [] w3 w1) => hKn.out w1 (hk3.out.trans hk (by simp)))
  have hVa := hide (fun w1 hk => Valid6_any a1 N c1 M false w1 (hT.out w1 hk) (hR.out w1 hk) (by omega))
  rw [hvl.out] at hVa
  have hOf := hide (fun w1 hk => of6_ask Of6_any a1 N c1 M false a1 N c1 false M 0 true w1 (hT.out w1 hk) (hR.out w1 hk) (by omega) hc1 hd1 (hR.out w1 hk) (by rw [ofL_ok hvl.out]; simp))
  have hTr := hide (fun a5 n5 c5 w1 hk h5 => trims_ask Trim6_any a1 N c1 M false a5 n5 c5 false (trimL M) 0 true w1 (hT.out w1 hk) (hR.out w1 hk) (by omega) hc1 hd1 h5 (by rw [trimE_ok hvl.out]; simp))
  have hFi := hide (fun a5 n5 c5 a6 n6 c6 w1 hk h5 h5a h5b h5c h6 => fits_ask Fit6_any a5 n5 c5 (newL 1) false (N : Int) a6 n6 c6 false (newL N) 0 true w1 (hT.out w1 hk) h5 h5a h5b h5c h6 (by rw [fit_one (by omega) h3]; simp))
  have hN1 := hide (fun w1 => rNew_any 1 (by omega) w1)
  have hNN := hide (fun w1 => rNew_any N (by omega) w1)
  have hRT := hide (fun w1 hk => rTrim_any a1 N c1 false M w1 (hR.out w1 hk) (by omega) hc1 hd1)
  go_upto_region 12 with fail
  refine wp_region_held_drew (S := (fun w' => w'.cell? ⟨u1.heap.size, 0, none⟩ = some (.slice a1 N c1) ∧ w'.cell? ⟨u1.heap.size, 1, none⟩ = some (.bool false))) (by kernel_rfl) ?_ (fun hHeld => ?_)
  · (try dsimp only); (first | exact hF k9 | exact hF k8 | exact hF k7 | exact hF k6 | exact hF k5 | exact hF k4 | exact hF k3 | exact hF k1 | exact hF (Kept.refl [] w3).drew)
  refine wpAnyH_take (i := 0) (v := ?_) rfl (by kernel_rfl) (by kernel_rfl) (by kernel_rfl) (fun _ _ _ h => h) (Or.inl ⟨by rfl, ?_⟩) (by assumption) ?_
  rotate_left
  · (intro wq hSw; (try dsimp only at hSw); go_simp; try with_reducible rfl)
  try simp only [Act.put, List.getElem_toArray, List.getElem_cons_zero, List.setIfInBounds_toArray, List.set_cons_zero, List.set_cons_succ]
  refine wpAnyH_ready (rs := [1]) (by kernel_rfl) (by simp) ?_
  refine AllReadyH.cons rfl (fun K hK => ?_) AllReadyH.nil
  go_simp
  refine (hVa.out w3.drew (Kept.refl [] w3).drew).mono ?_; rintro e x1 ⟨rfl, i1⟩; have k1 : Kept [] w3 x1 := (Kept.refl [] w3).drew.trans i1 (by simp)
  try go_wp2_with fail
  refine hK.out _ _ ?_ (fun hHeld => ?_)
  · (try dsimp only); (first | exact hF k9 | exact hF k8 | exact hF k7 | exact hF k6 | exact hF k5 | exact hF k4 | exact hF k3 | exact hF k1 | exact hF (Kept.refl [] w3).drew)
  clear hK K
  try simp only [Act.put, List.getElem_toArray, List.getElem_cons_succ, List.getElem_cons_zero, List.setIfInBounds_toArray, List.set_cons_zero, List.set_cons_succ]
  refine wpAnyH_take (i := 2) (v := ?_) rfl (by kernel_rfl) (by kernel_rfl) (by kernel_rfl) (fun _ _ _ h => h) (Or.inl ⟨by rfl, ?_⟩) (by assumption) ?_
  rotate_left
  · (intro wq hSw; (try dsimp only at hSw); go_simp; try with_reducible rfl)
  try simp only [Act.put, List.getElem_toArray, List.getElem_cons_succ, List.getElem_cons_zero, List.setIfInBounds_toArray, List.set_cons_zero, List.set_cons_succ]
  refine wpAnyH_take (i := 3) (v := ?_) rfl (by kernel_rfl) (by kernel_rfl) (by kernel_rfl) (fun _ _ _ h => h) (Or.inl ⟨by rfl, ?_⟩) (by assumption) ?_
  rotate_left
  · (intro wq hSw; (try dsimp only at hSw); go_simp; try with_reducible rfl)
  try simp only [Act.put, List.getElem_toArray, List.getElem_cons_succ, List.getElem_cons_zero, List.setIfInBounds_toArray, List.set_cons_zero, List.set_cons_succ]
  refine wpAnyH_take (i := 4) (v := ?_) rfl (by kernel_rfl) (by kernel_rfl) (by kernel_rfl) (fun _ _ _ h => h) (Or.inl ⟨by rfl, ?_⟩) (by assumption) ?_
  rotate_left
  · (intro wq hSw; (try dsimp only at hSw); go_simp; try with_reducible rfl)
  try simp only [Act.put, List.getElem_toArray, List.getElem_cons_succ, List.getElem_cons_zero, List.setIfInBounds_toArray, List.set_cons_zero, List.set_cons_succ]
  refine wpAnyH_take (i := 5) (v := ?_) rfl (by kernel_rfl) (by kernel_rfl) (by kernel_rfl) (fun _ _ _ h => h) (Or.inl ⟨by rfl, ?_⟩) (by assumption) ?_
  rotate_left
  · (intro wq hSw; (try dsimp only at hSw); go_simp; try with_reducible rfl)
  try simp only [Act.put, List.getElem_toArray, List.getElem_cons_succ, List.getElem_cons_zero, List.setIfInBounds_toArray, List.set_cons_zero, List.set_cons_succ]
  refine wpAnyH_ready (rs := [6]) (by kernel_rfl) (by simp) ?_
  refine AllReadyH.cons rfl (fun K hK => ?_) AllReadyH.nil
  go_simp
  refine (hOf.out x1 k1).mono ?_; rintro e x3 ⟨rfl, i3⟩; have k3 : Kept [] w3 x3 := k1.trans i3 (by simp)
  try go_wp2_with fail
  refine hK.out _ _ ?_ (fun hHeld => ?_)
  · (try dsimp only); (first | exact hF k9 | exact hF k8 | exact hF k7 | exact hF k6 | exact hF k5 | exact hF k4 | exact hF k3 | exact hF k1 | exact hF (Kept.refl [] w3).drew)
  clear hK K
  try simp only [Act.put, List.getElem_toArray, List.getElem_cons_succ, List.getElem_cons_zero, List.setIfInBounds_toArray, List.set_cons_zero, List.set_cons_succ]
  refine wpAnyH_take (i := 7) (v := ?_) rfl (by kernel_rfl) (by kernel_rfl) (by kernel_rfl) (fun _ _ _ h => h) (Or.inl ⟨by rfl, ?_⟩) (by assumption) ?_
  rotate_left
  · (intro wq hSw; (try dsimp only at hSw); go_simp; try with_reducible rfl)
  try simp only [Act.put, List.getElem_toArray, List.getElem_cons_succ, List.getElem_cons_zero, List.setIfInBounds_toArray, List.set_cons_zero, List.set_cons_succ]
  refine wpAnyH_take (i := 8) (v := ?_) rfl (by kernel_rfl) (by kernel_rfl) (by kernel_rfl) (fun _ _ _ h => h) (Or.inl ⟨by rfl, ?_⟩) (by assumption) ?_
  rotate_left
  · (intro wq hSw; (try dsimp only at hSw); go_simp; try with_reducible rfl)
  try simp only [Act.put, List.getElem_toArray, List.getElem_cons_succ, List.getElem_cons_zero, List.setIfInBounds_toArray, List.set_cons_zero, List.set_cons_succ]
  refine wpAnyH_take (i := 10) (v := ?_) rfl (by kernel_rfl) (by kernel_rfl) (by kernel_rfl) (fun _ _ _ h => h) (Or.inl ⟨by rfl, ?_⟩) (by assumption) ?_
  rotate_left
  · (intro wq hSw; (try dsimp only at hSw); go_simp; try with_reducible rfl)
  try simp only [Act.put, List.getElem_toArray, List.getElem_cons_succ, List.getElem_cons_zero, List.setIfInBounds_toArray, List.set_cons_zero, List.set_cons_succ]
  refine wpAnyH_take (i := 11) (v := ?_) rfl (by kernel_rfl) (by kernel_rfl) (by kernel_rfl) (fun _ _ _ h => h) (Or.inl ⟨by rfl, ?_⟩) (by assumption) ?_
  rotate_left
  · (intro wq hSw; (try dsimp only at hSw); go_simp; try with_reducible rfl)
  try simp only [Act.put, List.getElem_toArray, List.getElem_cons_succ, List.getElem_cons_zero, List.setIfInBounds_toArray, List.set_cons_zero, List.set_cons_succ]
  refine wpAnyH_ready (rs := [9]) (by kernel_rfl) (by simp) ?_
  refine AllReadyH.cons rfl (fun K hK => ?_) AllReadyH.nil
  go_simp
  refine (hN1.out x3).mono ?_; rintro e x4 ⟨a4, n4, c4, rfl, ho4, hc4, hd4, i4⟩; have k4 : Kept [] w3 x4 := k3.trans i4 (by simp)
  try go_wp2_with fail
  refine hK.out _ _ ?_ (fun hHeld => ?_)
  · (try dsimp only); (first | exact hF k9 | exact hF k8 | exact hF k7 | exact hF k6 | exact hF k5 | exact hF k4 | exact hF k3 | exact hF k1 | exact hF (Kept.refl [] w3).drew)
  clear hK K
  try simp only [Act.put, List.getElem_toArray, List.getElem_cons_succ, List.getElem_cons_zero, List.setIfInBounds_toArray, List.set_cons_zero, List.set_cons_succ]
  refine wpAnyH_ready (rs := [12]) (by kernel_rfl) (by simp) ?_
  refine AllReadyH.cons rfl (fun K hK => ?_) AllReadyH.nil
  go_simp
  refine (hNN.out x4).mono ?_; rintro e x5 ⟨a5, n5, c5, rfl, ho5, hc5, hd5, i5⟩; have k5 : Kept [] w3 x5 := k4.trans i5 (by simp)
  try go_wp2_with fail
  refine hK.out _ _ ?_ (fun hHeld => ?_)
  · (try dsimp only); (first | exact hF k9 | exact hF k8 | exact hF k7 | exact hF k6 | exact hF k5 | exact hF k4 | exact hF k3 | exact hF k1 | exact hF (Kept.refl [] w3).drew)
  clear hK K
  try simp only [Act.put, List.getElem_toArray, List.getElem_cons_succ, List.getElem_cons_zero, List.setIfInBounds_toArray, List.set_cons_zero, List.set_cons_succ]
  refine wpAnyH_ready (rs := [13]) (by kernel_rfl) (by simp) ?_
  refine AllReadyH.cons rfl (fun K hK => ?_) AllReadyH.nil
  go_simp
  refine (hFi.out a4 n4 c4 a5 n5 c5 x5 k5 (ho4.rd.kept i5 (by simp)) (by have h : (newL 1).length = n4 := ho4.rd.clen; simp [newL] at h; omega) hc4 hd4 ho5.rd).mono ?_; rintro e x6 ⟨rfl, i6⟩; have k6 : Kept [] w3 x6 := k5.trans i6 (by simp)
  try go_wp2_with fail
  refine hK.out _ _ ?_ (fun hHeld => ?_)
  · (try dsimp only); (first | exact hF k9 | exact hF k8 | exact hF k7 | exact hF k6 | exact hF k5 | exact hF k4 | exact hF k3 | exact hF k1 | exact hF (Kept.refl [] w3).drew)
  clear hK K
  try simp only [Act.put, List.getElem_toArray, List.getElem_cons_succ, List.getElem_cons_zero, List.setIfInBounds_toArray, List.set_cons_zero, List.set_cons_succ]
  refine wpAnyH_take (i := 14) (v := ?_) rfl (by kernel_rfl) (by kernel_rfl) (by kernel_rfl) (fun _ _ _ h => h) (Or.inl ⟨by rfl, ?_⟩) (by assumption) ?_
  rotate_left
  · (intro wq hSw; (try dsimp only at hSw); go_simp; try with_reducible rfl)
  try simp only [Act.put, List.getElem_toArray, List.getElem_cons_succ, List.getElem_cons_zero, List.setIfInBounds_toArray, List.set_cons_zero, List.set_cons_succ]
  refine wpAnyH_take (i := 15) (v := ?_) rfl (by kernel_rfl) (by kernel_rfl) (by kernel_rfl) (fun _ _ _ h => h) (Or.inl ⟨by rfl, ?_⟩) (by assumption) ?_
  rotate_left
  · (intro wq hSw; (try dsimp only at hSw); go_simp; try with_reducible rfl)
  try simp only [Act.put, List.getElem_toArray, List.getElem_cons_succ, List.getElem_cons_zero, List.setIfInBounds_toArray, List.set_cons_zero, List.set_cons_succ]
  refine wpAnyH_take (i := 16) (v := ?_) rfl (by kernel_rfl) (by kernel_rfl) (by kernel_rfl) (fun _ _ _ h => h) (Or.inl ⟨by rfl, ?_⟩) (by assumption) ?_
  rotate_left
  · (intro wq hSw; (try dsimp only at hSw); go_simp; try with_reducible rfl)
  try simp only [Act.put, List.getElem_toArray, List.getElem_cons_succ, List.getElem_cons_zero, List.setIfInBounds_toArray, List.set_cons_zero, List.set_cons_succ]
  refine wpAnyH_take (i := 17) (v := ?_) rfl (by kernel_rfl) (by kernel_rfl) (by kernel_rfl) (fun _ _ _ h => h) (Or.inl ⟨by rfl, ?_⟩) (by assumption) ?_
  rotate_left
  · (intro wq hSw; (try dsimp only at hSw); go_simp; try with_reducible rfl)
  try simp only [Act.put, List.getElem_toArray, List.getElem_cons_succ, List.getElem_cons_zero, List.setIfInBounds_toArray, List.set_cons_zero, List.set_cons_succ]
  refine wpAnyH_ready (rs := [18]) (by kernel_rfl) (by simp) ?_
  refine AllReadyH.cons rfl (fun K hK => ?_) AllReadyH.nil
  go_simp
  refine (hRT.out x6 k6).mono ?_; rintro e x7 ⟨a7, n7, c7, rfl, ho7, _, _, i7⟩; have k7 : Kept [] w3 x7 := k6.trans i7 (by simp)
  try go_wp2_with fail
  refine hK.out _ _ ?_ (fun hHeld => ?_)
  · (try dsimp only); (first | exact hF k9 | exact hF k8 | exact hF k7 | exact hF k6 | exact hF k5 | exact hF k4 | exact hF k3 | exact hF k1 | exact hF (Kept.refl [] w3).drew)
  clear hK K
  try simp only [Act.put, List.getElem_toArray, List.getElem_cons_succ, List.getElem_cons_zero, List.setIfInBounds_toArray, List.set_cons_zero, List.set_cons_succ]
  refine wpAnyH_ready (rs := [19]) (by kernel_rfl) (by simp) ?_
  refine AllReadyH.cons rfl (fun K hK => ?_) AllReadyH.nil
  go_simp
  refine (hTr.out a7 n7 c7 x7 k7 ho7.rd).mono ?_; rintro e x8 ⟨rfl, i8⟩; have k8 : Kept [] w3 x8 := k7.trans i8 (by simp)
  try go_wp2_with fail
  refine hK.out _ _ ?_ (fun hHeld => ?_)
  · (try dsimp only); (first | exact hF k9 | exact hF k8 | exact hF k7 | exact hF k6 | exact hF k5 | exact hF k4 | exact hF k3 | exact hF k1 | exact hF (Kept.refl [] w3).drew)
  clear hK K
  try simp only [Act.put, List.getElem_toArray, List.getElem_cons_succ, List.getElem_cons_zero, List.setIfInBounds_toArray, List.set_cons_zero, List.set_cons_succ]
  refine wpAnyH_take (i := 20) (v := ?_) rfl (by kernel_rfl) (by kernel_rfl) (by kernel_rfl) (fun _ _ _ h => h) (Or.inl ⟨by rfl, ?_⟩) (by assumption) ?_
  rotate_left
  · (intro wq hSw; (try dsimp only at hSw); go_simp; try with_reducible rfl)
  try simp only [Act.put, List.getElem_toArray, List.getElem_cons_succ, List.getElem_cons_zero, List.setIfInBounds_toArray, List.set_cons_zero, List.set_cons_succ]
  refine wpAnyH_take (i := 21) (v := ?_) rfl (by kernel_rfl) (by kernel_rfl) (by kernel_rfl) (fun _ _ _ h => h) (Or.inl ⟨by rfl, ?_⟩) (by assumption) ?_
  rotate_left
  · (intro wq hSw; (try dsimp only at hSw); go_simp; try with_reducible rfl)
  try simp only [Act.put, List.getElem_toArray, List.getElem_cons_succ, List.getElem_cons_zero, List.setIfInBounds_toArray, List.set_cons_zero, List.set_cons_succ]
  refine wpAnyH_ready (rs := [22]) (by kernel_rfl) (by simp) ?_
  refine AllReadyH.cons rfl (fun K hK => ?_) AllReadyH.nil
  go_simp
  refine (hKK.out x8 k8).mono ?_; rintro e x9 ⟨rfl, i9⟩; have k9 : Kept [] w3 x9 := k8.trans i9 (by simp)
  try go_wp2_with fail
  refine hK.out _ _ ?_ (fun hHeld => ?_)
  · (try dsimp only); (first | exact hF k9 | exact hF k8 | exact hF k7 | exact hF k6 | exact hF k5 | exact hF k4 | exact hF k3 | exact hF k1 | exact hF (Kept.refl [] w3).drew)
  clear hK K
  try simp only [Act.put, List.getElem_toArray, List.getElem_cons_succ, List.getElem_cons_zero, List.setIfInBounds_toArray, List.set_cons_zero, List.set_cons_succ]
  refine wpAnyH_take (i := 23) (v := ?_) rfl (by kernel_rfl) (by kernel_rfl) (by kernel_rfl) (fun _ _ _ h => h) (Or.inl ⟨by rfl, ?_⟩) (by assumption) ?_
  rotate_left
  · (intro wq hSw; (try dsimp only at hSw); go_simp; try with_reducible rfl)
  try simp only [Act.put, List.getElem_toArray, List.getElem_cons_succ, List.getElem_cons_zero, List.setIfInBounds_toArray, List.set_cons_zero, List.set_cons_succ]
  refine wpAnyH_take (i := 24) (v := ?_) rfl (by kernel_rfl) (by kernel_rfl) (by kernel_rfl) (fun _ _ _ h => h) (Or.inl ⟨by rfl, ?_⟩) (by assumption) ?_
  rotate_left
  · (intro wq hSw; (try dsimp only at hSw); go_simp; try with_reducible rfl)
  try simp only [Act.put, List.getElem_toArray, List.getElem_cons_succ, List.getElem_cons_zero, List.setIfInBounds_toArray, List.set_cons_zero, List.set_cons_succ]
  refine wpAnyH_done (by kernel_rfl) ?_ _
  go_wp2_with fail
  go_ret
  exact ⟨rfl, hk3.out.trans k9 (by simp)⟩

set_option maxHeartbeats 20000000 in
theorem LineLongs_eo (KN : Known6Is) (N : Nat) (h1 : 998 ≤ N) (h2 : N ≤ 1002) (h3 : ¬ N ≤ 1000) (w : World) (ht : Tabs w) :
    Calls Tryd.prog 7 #[.int .i64 (N : Int), .bool false] w fun e w' => e = .returned (.bool true) ∧ Kept [] w w' := by
  have ht0 := hide ht
  have i1 : ¬ ((N : Int) < 998) := by omega
  have i2 : ¬ (1002 < (N : Int)) := by omega
  have i3 : (1000 : Int) < (N : Int) := by omega
  have hM := hide (show longL N false = longL N false from rfl)
  have hlen := hide (long_len N false)
  have hus : Hid (usedI (longL N false) = 0) := hide (by rw [long_used (by omega)]; simp)
  have hvl := hide (long_not h3 false)
  have hnn : ((N : Int) != (N : Int)) = false := by simp
  have hKn := hide (fun w1 (hk : Kept [] w w1) => KN w1 (ht.kept hk))
  clear ht KN
  go_enter Tryd.func7, Tryd.ntmps7
  go_wp2_with fail
  refine (rNew_any N (by omega) w).mono ?_
  rintro e u1 ⟨a1, n1, c1, rfl, ho1, hc1, hd1, hj1⟩
  obtain rfl : N = n1 := by have h : (newL N).length = n1 := ho1.rd.clen; simp [newL] at h; exact h
  have hr0 := hide ho1.rd
  clear ho1
  go_wp2_with (refine wpList_store_lin rfl rfl rfl u1.heap.size rfl (LinIn.new u1 none 0 0 false) a1 N c1 false rfl ?_; intro v1 hb1 hg1; have hh1 : Kept [] u1 v1 := ((Kept.refl [] u1).alloc (.cells #[.slice none 0 0, .bool false] 27)).trans hg1 (by simp); obtain ⟨q0, q1⟩ := hb1.at)
  have hb := hide hb1
  have hk := hide (hj1.trans hh1 (by simp))
  have hrd := hide (show Rd v1 a1 N 16 (cellsV (longL N false)) from hr0.out.kept hh1 (by simp))
  clear hb1 hg1 hh1 hj1 hr0
  generalize longL N false = M at *
  have hUs := Used6_any a1 N c1 M false v1 hrd.out (by omega)
  rw [hus.out] at hUs
  refine hUs.mono ?_
  rintro e w3 ⟨rfl, hj3⟩
  clear hUs
  clear q0 q1
  have hk3 := hide (hk.out.trans hj3 (by simp))
  have hrd3 := hide (hrd.out.kept hj3 (by simp))
  have hb3 := hide (hb.out.kept hj3 (by simp))
  clear hk hrd hb hj3
  have hF : ∀ {w' : World}, Kept [] w3 w' → w'.cell? ⟨u1.heap.size, 0, none⟩ = some (.slice a1 N c1) ∧ w'.cell? ⟨u1.heap.size, 1, none⟩ = some (.bool false) := fun hk => (hb3.out.kept hk (by simp)).at
  have hT := hide (fun w1 (hk : Kept [] w3 w1) => ht0.out.kept (hk3.out.trans hk (by simp)))
  have hR := hide (fun w1 (hk : Kept [] w3 w1) => hrd3.out.kept hk (by simp))
  have hKK := hide (fun w1 (hk : Kept [] w3 w1) => hKn.out w1 (hk3.out.trans hk (by simp)))
  have hVa := hide (fun w1 hk => Valid6_any a1 N c1 M false w1 (hT.out w1 hk) (hR.out w1 hk) (by omega))
  rw [hvl.out] at hVa
  have hOf := hide (fun w1 hk => of6_ask Of6_any a1 N c1 M false none 0 0 false [] 2 true w1 (hT.out w1 hk) (hR.out w1 hk) (by omega) hc1 hd1 (Rd.nil _ _ _) (by rw [ofL_no hvl.out]; simp))
  have hNe := hide (fun w1 => news_ask New6_any (N : Int) none 0 0 false [] 2 true w1 (Rd.nil _ _ _) (by rw [newR_no _ (by omega)]; simp))
  have hTr := hide (fun w1 hk => trims_ask Trim6_any a1 N c1 M false none 0 0 false [] 2 true w1 (hT.out w1 hk) (hR.out w1 hk) (by omega) hc1 hd1 (Rd.nil _ _ _) (by rw [trimE_no hvl.out]; simp))
  obtain ⟨q0, q1⟩ := hF (Kept.refl [] w3)
  go_wp2_with fail
  refine (hVa.out w3 (Kept.refl [] w3)).mono ?_
  rintro e w4 ⟨rfl, k4⟩
  clear q0 q1
  obtain ⟨q0, q1⟩ := hF k4
  go_wp2_with fail
  refine (hOf.out w4 k4).mono ?_
  rintro e w5 ⟨rfl, j5⟩
  have k5 := k4.trans j5 (by simp)
  clear q0 q1
  obtain ⟨q0, q1⟩ := hF k5
  go_wp2_with fail
  refine (hNe.out w5).mono ?_
  rintro e w6 ⟨rfl, j6⟩
  have k6 := k5.trans j6 (by simp)
  clear q0 q1
  obtain ⟨q0, q1⟩ := hF k6
  go_wp2_with fail
  refine (hTr.out w6 k6).mono ?_
  rintro e w7 ⟨rfl, j7⟩
  have k7 := k6.trans j7 (by simp)
  go_wp2_with fail
  refine (hKK.out w7 k7).mono ?_
  rintro e w8 ⟨rfl, j8⟩
  go_wp2_with fail
  go_ret
  exact ⟨rfl, (hk3.out.trans k7 (by simp)).trans j8 (by simp)⟩

set_option maxHeartbeats 20000000 in
theorem LineLongs_lv (KN : Known6Is) (N : Nat) (h1 : 998 ≤ N) (h2 : N ≤ 1002) (h3 : N ≤ 1000) (w : World) (ht : Tabs w) :
    Calls Tryd.prog 7 #[.int .i64 (N : Int), .bool true] w fun e w' => e = .returned (.bool true) ∧ Kept [] w w' := by
  have ht0 := hide ht
  have i1 : ¬ ((N : Int) < 998) := by omega
  have i2 : ¬ (1002 < (N : Int)) := by omega
  have i3 : ¬ (1000 : Int) < (N : Int) := by omega
  have hM := hide (show longL N true = longL N true from rfl)
  have hlen := hide (long_len N true)
  have hus : Hid (usedI (longL N true) = N) := hide (by rw [long_used (by omega)]; simp)
  have hvl := hide (long_valid (N := N) (by omega) h3 true)
  have hnn : ((N : Int) != (N : Int)) = false := by simp
  have hKn := hide (fun w1 (hk : Kept [] w w1) => KN w1 (ht.kept hk))
  clear ht KN
  go_enter Tryd.func7, Tryd.ntmps7
  go_wp2_with fail
  refine (rNew_any N (by omega) w).mono ?_
  rintro e u1 ⟨a1, n1, c1, rfl, ho1, hc1, hd1, hj1⟩
  obtain rfl : N = n1 := by have h : (newL N).length = n1 := ho1.rd.clen; simp [newL] at h; exact h
  obtain ⟨g, rfl, _⟩ := ho1.form (by omega)
  have hlt : g < u1.heap.size := (ho1.ge g (by simp [blk])).2
  have hge : w.heap.size ≤ g := (ho1.ge g (by simp [blk])).1
  replace hlt := hide hlt
  replace hge := hide hge
  obtain ⟨J, hJ⟩ : ∃ J, N = J + 1 := ⟨N - 1, by omega⟩
  have eJ : ((N : Int) - 1) = (J : Int) := by omega
  have eJ2 : (J : Int) < (N : Int) := by omega
  have hwJ : IntKind.i64.wrap ((N : Int) - 1) = (J : Int) := by rw [IntKind.wrap_i64]; omega
  have hJl : J < (newL N).length := by simp [newL]; omega
  have hJ1 := hide (show N - 1 = J by omega)
  replace hJ := hide hJ
  have hat : ∀ {w2 : World}, Kept [] u1 w2 → w2.cell? ⟨g, J * 16, none⟩ = some (.int .i32 0) ∧ w2.frozen? ⟨g, J * 16, none⟩ = false := fun hk => by have h := Own.cellAt rowC6 (l := newL N) (j := 0) (i := J) (v := .int .i32 0) (ho1.kept hk (by simp)) hJl (by simp [newL, kcL]; rfl); simpa using h
  have hon := hide ho1
  clear ho1
  go_upto_region 4 with (refine wpList_store_lin rfl rfl rfl u1.heap.size rfl (LinIn.new u1 none 0 0 false) (some ⟨g, 0, none⟩) N c1 false rfl ?_; intro v1 hb1 hg1)
  have hh1 : Kept [] u1 v1 := ((Kept.refl [] u1).alloc (.cells #[.slice none 0 0, .bool false] 27)).trans hg1 (by simp)
  obtain ⟨q0, q1⟩ := hb1.at
  obtain ⟨p0, p1⟩ := hat hh1
  have hne : u1.heap.size ≠ g := by have := hlt.out; omega
  have q2 : (v1.setCell ⟨g, J * 16, none⟩ (.int .i32 97)).cell? ⟨u1.heap.size, 0, none⟩ = some (.slice (some ⟨g, 0, none⟩) N c1) := by rw [World.cell?_setCell_other _ _ _ _ (by simp <;> omega)]; exact q0
  have q3 : (v1.setCell ⟨g, J * 16, none⟩ (.int .i32 97)).cell? ⟨u1.heap.size, 1, none⟩ = some (.bool false) := by rw [World.cell?_setCell_other _ _ _ _ (by simp <;> omega)]; exact q1
  clear hne
  go_wp2_with fail
  have hs1 : Kept [g] v1 (v1.setCell ⟨g, J * 16, none⟩ (.int .i32 97)) := (Kept.refl [g] v1).setCell (.inl (by simp)) _
  have hb := hide (hb1.kept hs1 (by have := hlt.out; simp; omega))
  have hk := hide ((hj1.trans hh1 (by simp)).trans hs1 (fun x hx => by simp at hx; subst hx; exact .inr hge.out))
  have hset := Own.setAt rowC6 (l := newL N) (i := J) (j := 0) (v := .int .i32 97) (d := eA) (hon.out.kept hh1 (by simp)) hJl (by decide) (by simp [newL]; rfl)
  rw [Nat.add_zero] at hset
  have hrd := hide (show Rd (v1.setCell ⟨g, J * 16, none⟩ (.int .i32 97)) (some ⟨g, 0, none⟩) N 16 (cellsV (longL N true)) by have h := hset.rd; unfold longL; rw [if_pos rfl, hJ1.out]; exact h)
  clear hset hs1 hb1 hg1 hh1 hj1 hon hat p0 p1 q0 q1
  generalize v1.setCell ⟨g, J * 16, none⟩ (.int .i32 97) = v2 at *
  generalize longL N true = M at *
  have hUs := Used6_any (some ⟨g, 0, none⟩) N c1 M false v2 hrd.out (by omega)
  rw [hus.out] at hUs
  refine hUs.mono ?_
  rintro e w3 ⟨rfl, hj3⟩
  clear hUs
  clear q2 q3
  have hk3 := hide (hk.out.trans hj3 (by simp))
  have hrd3 := hide (hrd.out.kept hj3 (by simp))
  have hb3 := hide (hb.out.kept hj3 (by simp))
  clear hk hrd hb hj3
  have hF : ∀ {w' : World}, Kept [] w3 w' → w'.cell? ⟨u1.heap.size, 0, none⟩ = some (.slice (some ⟨g, 0, none⟩) N c1) ∧ w'.cell? ⟨u1.heap.size, 1, none⟩ = some (.bool false) := fun hk => (hb3.out.kept hk (by simp)).at
  have hT := hide (fun w1 (hk : Kept [] w3 w1) => ht0.out.kept (hk3.out.trans hk (by simp)))
  have hR := hide (fun w1 (hk : Kept [] w3 w1) => hrd3.out.kept hk (by simp))
  have hKK := hide (fun w1 (hk : Kept [] w3 w1) => hKn.out w1 (hk3.out.trans hk (by simp)))
  have hVa := hide (fun w1 hk => Valid6_any (some ⟨g, 0, none⟩) N c1 M false w1 (hT.out w1 hk) (hR.out w1 hk) (by omega))
  rw [hvl.out] at hVa
  have hOf := hide (fun w1 hk => of6_ask Of6_any (some ⟨g, 0, none⟩) N c1 M false (some ⟨g, 0, none⟩) N c1 false M 0 true w1 (hT.out w1 hk) (hR.out w1 hk) (by omega) hc1 hd1 (hR.out w1 hk) (by rw [ofL_ok hvl.out]; simp))
  have hTr := hide (fun a5 n5 c5 w1 hk h5 => trims_ask Trim6_any (some ⟨g, 0, none⟩) N c1 M false a5 n5 c5 false (trimL M) 0 true w1 (hT.out w1 hk) (hR.out w1 hk) (by omega) hc1 hd1 h5 (by rw [trimE_ok hvl.out]; simp))
  have hFi := hide (fun a5 n5 c5 a6 n6 c6 w1 hk h5 h5a h5b h5c h6 => fits_ask Fit6_any a5 n5 c5 (newL 1) false (N : Int) a6 n6 c6 false (newL N) 0 true w1 (hT.out w1 hk) h5 h5a h5b h5c h6 (by rw [fit_one (by omega) h3]; simp))
  have hN1 := hide (fun w1 => rNew_any 1 (by omega) w1)
  have hNN := hide (fun w1 => rNew_any N (by omega) w1)
  have hRT := hide (fun w1 hk => rTrim_any (some ⟨g, 0, none⟩) N c1 false M w1 (hR.out w1 hk) (by omega) hc1 hd1)
  go_upto_region 12 with fail
  refine wp_region_held_drew (S := (fun w' => w'.cell? ⟨u1.heap.size, 0, none⟩ = some (.slice (some ⟨g, 0, none⟩) N c1) ∧ w'.cell? ⟨u1.heap.size, 1, none⟩ = some (.bool false))) (by kernel_rfl) ?_ (fun hHeld => ?_)
  · (try dsimp only); (first | exact hF k9 | exact hF k8 | exact hF k7 | exact hF k6 | exact hF k5 | exact hF k4 | exact hF k3 | exact hF k1 | exact hF (Kept.refl [] w3).drew)
  refine wpAnyH_take (i := 0) (v := ?_) rfl (by kernel_rfl) (by kernel_rfl) (by kernel_rfl) (fun _ _ _ h => h) (Or.inl ⟨by rfl, ?_⟩) (by assumption) ?_
  rotate_left
  · (intro wq hSw; (try dsimp only at hSw); go_simp; try with_reducible rfl)
  try simp only [Act.put, List.getElem_toArray, List.getElem_cons_zero, List.setIfInBounds_toArray, List.set_cons_zero, List.set_cons_succ]
  refine wpAnyH_ready (rs := [1]) (by kernel_rfl) (by simp) ?_
  refine AllReadyH.cons rfl (fun K hK => ?_) AllReadyH.nil
  go_simp
  refine (hVa.out w3.drew (Kept.refl [] w3).drew).mono ?_; rintro e x1 ⟨rfl, i1⟩; have k1 : Kept [] w3 x1 := (Kept.refl [] w3).drew.trans i1 (by simp)
  try go_wp2_with fail
  refine hK.out _ _ ?_ (fun hHeld => ?_)
  · (try dsimp only); (first | exact hF k9 | exact hF k8 | exact hF k7 | exact hF k6 | exact hF k5 | exact hF k4 | exact hF k3 | exact hF k1 | exact hF (Kept.refl [] w3).drew)
  clear hK K
  try simp only [Act.put, List.getElem_toArray, List.getElem_cons_succ, List.getElem_cons_zero, List.setIfInBounds_toArray, List.set_cons_zero, List.set_cons_succ]
  refine wpAnyH_take (i := 2) (v := ?_) rfl (by kernel_rfl) (by kernel_rfl) (by kernel_rfl) (fun _ _ _ h => h) (Or.inl ⟨by rfl, ?_⟩) (by assumption) ?_
  rotate_left
  · (intro wq hSw; (try dsimp only at hSw); go_simp; try with_reducible rfl)
  try simp only [Act.put, List.getElem_toArray, List.getElem_cons_succ, List.getElem_cons_zero, List.setIfInBounds_toArray, List.set_cons_zero, List.set_cons_succ]
  refine wpAnyH_take (i := 3) (v := ?_) rfl (by kernel_rfl) (by kernel_rfl) (by kernel_rfl) (fun _ _ _ h => h) (Or.inl ⟨by rfl, ?_⟩) (by assumption) ?_
  rotate_left
  · (intro wq hSw; (try dsimp only at hSw); go_simp; try with_reducible rfl)
  try simp only [Act.put, List.getElem_toArray, List.getElem_cons_succ, List.getElem_cons_zero, List.setIfInBounds_toArray, List.set_cons_zero, List.set_cons_succ]
  refine wpAnyH_take (i := 4) (v := ?_) rfl (by kernel_rfl) (by kernel_rfl) (by kernel_rfl) (fun _ _ _ h => h) (Or.inl ⟨by rfl, ?_⟩) (by assumption) ?_
  rotate_left
  · (intro wq hSw; (try dsimp only at hSw); go_simp; try with_reducible rfl)
  try simp only [Act.put, List.getElem_toArray, List.getElem_cons_succ, List.getElem_cons_zero, List.setIfInBounds_toArray, List.set_cons_zero, List.set_cons_succ]
  refine wpAnyH_take (i := 5) (v := ?_) rfl (by kernel_rfl) (by kernel_rfl) (by kernel_rfl) (fun _ _ _ h => h) (Or.inl ⟨by rfl, ?_⟩) (by assumption) ?_
  rotate_left
  · (intro wq hSw; (try dsimp only at hSw); go_simp; try with_reducible rfl)
  try simp only [Act.put, List.getElem_toArray, List.getElem_cons_succ, List.getElem_cons_zero, List.setIfInBounds_toArray, List.set_cons_zero, List.set_cons_succ]
  refine wpAnyH_ready (rs := [6]) (by kernel_rfl) (by simp) ?_
  refine AllReadyH.cons rfl (fun K hK => ?_) AllReadyH.nil
  go_simp
  refine (hOf.out x1 k1).mono ?_; rintro e x3 ⟨rfl, i3⟩; have k3 : Kept [] w3 x3 := k1.trans i3 (by simp)
  try go_wp2_with fail
  refine hK.out _ _ ?_ (fun hHeld => ?_)
  · (try dsimp only); (first | exact hF k9 | exact hF k8 | exact hF k7 | exact hF k6 | exact hF k5 | exact hF k4 | exact hF k3 | exact hF k1 | exact hF (Kept.refl [] w3).drew)
  clear hK K
  try simp only [Act.put, List.getElem_toArray, List.getElem_cons_succ, List.getElem_cons_zero, List.setIfInBounds_toArray, List.set_cons_zero, List.set_cons_succ]
  refine wpAnyH_take (i := 7) (v := ?_) rfl (by kernel_rfl) (by kernel_rfl) (by kernel_rfl) (fun _ _ _ h => h) (Or.inl ⟨by rfl, ?_⟩) (by assumption) ?_
  rotate_left
  · (intro wq hSw; (try dsimp only at hSw); go_simp; try with_reducible rfl)
  try simp only [Act.put, List.getElem_toArray, List.getElem_cons_succ, List.getElem_cons_zero, List.setIfInBounds_toArray, List.set_cons_zero, List.set_cons_succ]
  refine wpAnyH_take (i := 8) (v := ?_) rfl (by kernel_rfl) (by kernel_rfl) (by kernel_rfl) (fun _ _ _ h => h) (Or.inl ⟨by rfl, ?_⟩) (by assumption) ?_
  rotate_left
  · (intro wq hSw; (try dsimp only at hSw); go_simp; try with_reducible rfl)
  try simp only [Act.put, List.getElem_toArray, List.getElem_cons_succ, List.getElem_cons_zero, List.setIfInBounds_toArray, List.set_cons_zero, List.set_cons_succ]
  refine wpAnyH_take (i := 10) (v := ?_) rfl (by kernel_rfl) (by kernel_rfl) (by kernel_rfl) (fun _ _ _ h => h) (Or.inl ⟨by rfl, ?_⟩) (by assumption) ?_
  rotate_left
  · (intro wq hSw; (try dsimp only at hSw); go_simp; try with_reducible rfl)
  try simp only [Act.put, List.getElem_toArray, List.getElem_cons_succ, List.getElem_cons_zero, List.setIfInBounds_toArray, List.set_cons_zero, List.set_cons_succ]
  refine wpAnyH_take (i := 11) (v := ?_) rfl (by kernel_rfl) (by kernel_rfl) (by kernel_rfl) (fun _ _ _ h => h) (Or.inl ⟨by rfl, ?_⟩) (by assumption) ?_
  rotate_left
  · (intro wq hSw; (try dsimp only at hSw); go_simp; try with_reducible rfl)
  try simp only [Act.put, List.getElem_toArray, List.getElem_cons_succ, List.getElem_cons_zero, List.setIfInBounds_toArray, List.set_cons_zero, List.set_cons_succ]
  refine wpAnyH_ready (rs := [9]) (by kernel_rfl) (by simp) ?_
  refine AllReadyH.cons rfl (fun K hK => ?_) AllReadyH.nil
  go_simp
  refine (hN1.out x3).mono ?_; rintro e x4 ⟨a4, n4, c4, rfl, ho4, hc4, hd4, i4⟩; have k4 : Kept [] w3 x4 := k3.trans i4 (by simp)
  try go_wp2_with fail
  refine hK.out _ _ ?_ (fun hHeld => ?_)
  · (try dsimp only); (first | exact hF k9 | exact hF k8 | exact hF k7 | exact hF k6 | exact hF k5 | exact hF k4 | exact hF k3 | exact hF k1 | exact hF (Kept.refl [] w3).drew)
  clear hK K
  try simp only [Act.put, List.getElem_toArray, List.getElem_cons_succ, List.getElem_cons_zero, List.setIfInBounds_toArray, List.set_cons_zero, List.set_cons_succ]
  refine wpAnyH_ready (rs := [12]) (by kernel_rfl) (by simp) ?_
  refine AllReadyH.cons rfl (fun K hK => ?_) AllReadyH.nil
  go_simp
  refine (hNN.out x4).mono ?_; rintro e x5 ⟨a5, n5, c5, rfl, ho5, hc5, hd5, i5⟩; have k5 : Kept [] w3 x5 := k4.trans i5 (by simp)
  try go_wp2_with fail
  refine hK.out _ _ ?_ (fun hHeld => ?_)
  · (try dsimp only); (first | exact hF k9 | exact hF k8 | exact hF k7 | exact hF k6 | exact hF k5 | exact hF k4 | exact hF k3 | exact hF k1 | exact hF (Kept.refl [] w3).drew)
  clear hK K
  try simp only [Act.put, List.getElem_toArray, List.getElem_cons_succ, List.getElem_cons_zero, List.setIfInBounds_toArray, List.set_cons_zero, List.set_cons_succ]
  refine wpAnyH_ready (rs := [13]) (by kernel_rfl) (by simp) ?_
  refine AllReadyH.cons rfl (fun K hK => ?_) AllReadyH.nil
  go_simp
  refine (hFi.out a4 n4 c4 a5 n5 c5 x5 k5 (ho4.rd.kept i5 (by simp)) (by have h : (newL 1).length = n4 := ho4.rd.clen; simp [newL] at h; omega) hc4 hd4 ho5.rd).mono ?_; rintro e x6 ⟨rfl, i6⟩; have k6 : Kept [] w3 x6 := k5.trans i6 (by simp)
  try go_wp2_with fail
  refine hK.out _ _ ?_ (fun hHeld => ?_)
  · (try dsimp only); (first | exact hF k9 | exact hF k8 | exact hF k7 | exact hF k6 | exact hF k5 | exact hF k4 | exact hF k3 | exact hF k1 | exact hF (Kept.refl [] w3).drew)
  clear hK K
  try simp only [Act.put, List.getElem_toArray, List.getElem_cons_succ, List.getElem_cons_zero, List.setIfInBounds_toArray, List.set_cons_zero, List.set_cons_succ]
  refine wpAnyH_take (i := 14) (v := ?_) rfl (by kernel_rfl) (by kernel_rfl) (by kernel_rfl) (fun _ _ _ h => h) (Or.inl ⟨by rfl, ?_⟩) (by assumption) ?_
  rotate_left
  · (intro wq hSw; (try dsimp only at hSw); go_simp; try with_reducible rfl)
  try simp only [Act.put, List.getElem_toArray, List.getElem_cons_succ, List.getElem_cons_zero, List.setIfInBounds_toArray, List.set_cons_zero, List.set_cons_succ]
  refine wpAnyH_take (i := 15) (v := ?_) rfl (by kernel_rfl) (by kernel_rfl) (by kernel_rfl) (fun _ _ _ h => h) (Or.inl ⟨by rfl, ?_⟩) (by assumption) ?_
  rotate_left
  · (intro wq hSw; (try dsimp only at hSw); go_simp; try with_reducible rfl)
  try simp only [Act.put, List.getElem_toArray, List.getElem_cons_succ, List.getElem_cons_zero, List.setIfInBounds_toArray, List.set_cons_zero, List.set_cons_succ]
  refine wpAnyH_take (i := 16) (v := ?_) rfl (by kernel_rfl) (by kernel_rfl) (by kernel_rfl) (fun _ _ _ h => h) (Or.inl ⟨by rfl, ?_⟩) (by assumption) ?_
  rotate_left
  · (intro wq hSw; (try dsimp only at hSw); go_simp; try with_reducible rfl)
  try simp only [Act.put, List.getElem_toArray, List.getElem_cons_succ, List.getElem_cons_zero, List.setIfInBounds_toArray, List.set_cons_zero, List.set_cons_succ]
  refine wpAnyH_take (i := 17) (v := ?_) rfl (by kernel_rfl) (by kernel_rfl) (by kernel_rfl) (fun _ _ _ h => h) (Or.inl ⟨by rfl, ?_⟩) (by assumption) ?_
  rotate_left
  · (intro wq hSw; (try dsimp only at hSw); go_simp; try with_reducible rfl)
  try simp only [Act.put, List.getElem_toArray, List.getElem_cons_succ, List.getElem_cons_zero, List.setIfInBounds_toArray, List.set_cons_zero, List.set_cons_succ]
  refine wpAnyH_ready (rs := [18]) (by kernel_rfl) (by simp) ?_
  refine AllReadyH.cons rfl (fun K hK => ?_) AllReadyH.nil
  go_simp
  refine (hRT.out x6 k6).mono ?_; rintro e x7 ⟨a7, n7, c7, rfl, ho7, _, _, i7⟩; have k7 : Kept [] w3 x7 := k6.trans i7 (by simp)
  try go_wp2_with fail
  refine hK.out _ _ ?_ (fun hHeld => ?_)
  · (try dsimp only); (first | exact hF k9 | exact hF k8 | exact hF k7 | exact hF k6 | exact hF k5 | exact hF k4 | exact hF k3 | exact hF k1 | exact hF (Kept.refl [] w3).drew)
  clear hK K
  try simp only [Act.put, List.getElem_toArray, List.getElem_cons_succ, List.getElem_cons_zero, List.setIfInBounds_toArray, List.set_cons_zero, List.set_cons_succ]
  refine wpAnyH_ready (rs := [19]) (by kernel_rfl) (by simp) ?_
  refine AllReadyH.cons rfl (fun K hK => ?_) AllReadyH.nil
  go_simp
  refine (hTr.out a7 n7 c7 x7 k7 ho7.rd).mono ?_; rintro e x8 ⟨rfl, i8⟩; have k8 : Kept [] w3 x8 := k7.trans i8 (by simp)
  try go_wp2_with fail
  refine hK.out _ _ ?_ (fun hHeld => ?_)
  · (try dsimp only); (first | exact hF k9 | exact hF k8 | exact hF k7 | exact hF k6 | exact hF k5 | exact hF k4 | exact hF k3 | exact hF k1 | exact hF (Kept.refl [] w3).drew)
  clear hK K
  try simp only [Act.put, List.getElem_toArray, List.getElem_cons_succ, List.getElem_cons_zero, List.setIfInBounds_toArray, List.set_cons_zero, List.set_cons_succ]
  refine wpAnyH_take (i := 20) (v := ?_) rfl (by kernel_rfl) (by kernel_rfl) (by kernel_rfl) (fun _ _ _ h => h) (Or.inl ⟨by rfl, ?_⟩) (by assumption) ?_
  rotate_left
  · (intro wq hSw; (try dsimp only at hSw); go_simp; try with_reducible rfl)
  try simp only [Act.put, List.getElem_toArray, List.getElem_cons_succ, List.getElem_cons_zero, List.setIfInBounds_toArray, List.set_cons_zero, List.set_cons_succ]
  refine wpAnyH_take (i := 21) (v := ?_) rfl (by kernel_rfl) (by kernel_rfl) (by kernel_rfl) (fun _ _ _ h => h) (Or.inl ⟨by rfl, ?_⟩) (by assumption) ?_
  rotate_left
  · (intro wq hSw; (try dsimp only at hSw); go_simp; try with_reducible rfl)
  try simp only [Act.put, List.getElem_toArray, List.getElem_cons_succ, List.getElem_cons_zero, List.setIfInBounds_toArray, List.set_cons_zero, List.set_cons_succ]
  refine wpAnyH_ready (rs := [22]) (by kernel_rfl) (by simp) ?_
  refine AllReadyH.cons rfl (fun K hK => ?_) AllReadyH.nil
  go_simp
  refine (hKK.out x8 k8).mono ?_; rintro e x9 ⟨rfl, i9⟩; have k9 : Kept [] w3 x9 := k8.trans i9 (by simp)
  try go_wp2_with fail
  refine hK.out _ _ ?_ (fun hHeld => ?_)
  · (try dsimp only); (first | exact hF k9 | exact hF k8 | exact hF k7 | exact hF k6 | exact hF k5 | exact hF k4 | exact hF k3 | exact hF k1 | exact hF (Kept.refl [] w3).drew)
  clear hK K
  try simp only [Act.put, List.getElem_toArray, List.getElem_cons_succ, List.getElem_cons_zero, List.setIfInBounds_toArray, List.set_cons_zero, List.set_cons_succ]
  refine wpAnyH_take (i := 23) (v := ?_) rfl (by kernel_rfl) (by kernel_rfl) (by kernel_rfl) (fun _ _ _ h => h) (Or.inl ⟨by rfl, ?_⟩) (by assumption) ?_
  rotate_left
  · (intro wq hSw; (try dsimp only at hSw); go_simp; try with_reducible rfl)
  try simp only [Act.put, List.getElem_toArray, List.getElem_cons_succ, List.getElem_cons_zero, List.setIfInBounds_toArray, List.set_cons_zero, List.set_cons_succ]
  refine wpAnyH_take (i := 24) (v := ?_) rfl (by kernel_rfl) (by kernel_rfl) (by kernel_rfl) (fun _ _ _ h => h) (Or.inl ⟨by rfl, ?_⟩) (by assumption) ?_
  rotate_left
  · (intro wq hSw; (try dsimp only at hSw); go_simp; try with_reducible rfl)
  try simp only [Act.put, List.getElem_toArray, List.getElem_cons_succ, List.getElem_cons_zero, List.setIfInBounds_toArray, List.set_cons_zero, List.set_cons_succ]
  refine wpAnyH_done (by kernel_rfl) ?_ _
  go_wp2_with fail
  go_ret
  exact ⟨rfl, hk3.out.trans k9 (by simp)⟩

set_option maxHeartbeats 20000000 in
theorem LineLongs_lo (KN : Known6Is) (N : Nat) (h1 : 998 ≤ N) (h2 : N ≤ 1002) (h3 : ¬ N ≤ 1000) (w : World) (ht : Tabs w) :
    Calls Tryd.prog 7 #[.int .i64 (N : Int), .bool true] w fun e w' => e = .returned (.bool true) ∧ Kept [] w w' := by
  have ht0 := hide ht
  have i1 : ¬ ((N : Int) < 998) := by omega
  have i2 : ¬ (1002 < (N : Int)) := by omega
  have i3 : (1000 : Int) < (N : Int) := by omega
  have hM := hide (show longL N true = longL N true from rfl)
  have hlen := hide (long_len N true)
  have hus : Hid (usedI (longL N true) = N) := hide (by rw [long_used (by omega)]; simp)
  have hvl := hide (long_not h3 true)
  have hnn : ((N : Int) != (N : Int)) = false := by simp
  have hKn := hide (fun w1 (hk : Kept [] w w1) => KN w1 (ht.kept hk))
  clear ht KN
  go_enter Tryd.func7, Tryd.ntmps7
  go_wp2_with fail
  refine (rNew_any N (by omega) w).mono ?_
  rintro e u1 ⟨a1, n1, c1, rfl, ho1, hc1, hd1, hj1⟩
  obtain rfl : N = n1 := by have h : (newL N).length = n1 := ho1.rd.clen; simp [newL] at h; exact h
  obtain ⟨g, rfl, _⟩ := ho1.form (by omega)
  have hlt : g < u1.heap.size := (ho1.ge g (by simp [blk])).2
  have hge : w.heap.size ≤ g := (ho1.ge g (by simp [blk])).1
  replace hlt := hide hlt
  replace hge := hide hge
  obtain ⟨J, hJ⟩ : ∃ J, N = J + 1 := ⟨N - 1, by omega⟩
  have eJ : ((N : Int) - 1) = (J : Int) := by omega
  have eJ2 : (J : Int) < (N : Int) := by omega
  have hwJ : IntKind.i64.wrap ((N : Int) - 1) = (J : Int) := by rw [IntKind.wrap_i64]; omega
  have hJl : J < (newL N).length := by simp [newL]; omega
  have hJ1 := hide (show N - 1 = J by omega)
  replace hJ := hide hJ
  have hat : ∀ {w2 : World}, Kept [] u1 w2 → w2.cell? ⟨g, J * 16, none⟩ = some (.int .i32 0) ∧ w2.frozen? ⟨g, J * 16, none⟩ = false := fun hk => by have h := Own.cellAt rowC6 (l := newL N) (j := 0) (i := J) (v := .int .i32 0) (ho1.kept hk (by simp)) hJl (by simp [newL, kcL]; rfl); simpa using h
  have hon := hide ho1
  clear ho1
  go_upto_region 4 with (refine wpList_store_lin rfl rfl rfl u1.heap.size rfl (LinIn.new u1 none 0 0 false) (some ⟨g, 0, none⟩) N c1 false rfl ?_; intro v1 hb1 hg1)
  have hh1 : Kept [] u1 v1 := ((Kept.refl [] u1).alloc (.cells #[.slice none 0 0, .bool false] 27)).trans hg1 (by simp)
  obtain ⟨q0, q1⟩ := hb1.at
  obtain ⟨p0, p1⟩ := hat hh1
  have hne : u1.heap.size ≠ g := by have := hlt.out; omega
  have q2 : (v1.setCell ⟨g, J * 16, none⟩ (.int .i32 97)).cell? ⟨u1.heap.size, 0, none⟩ = some (.slice (some ⟨g, 0, none⟩) N c1) := by rw [World.cell?_setCell_other _ _ _ _ (by simp <;> omega)]; exact q0
  have q3 : (v1.setCell ⟨g, J * 16, none⟩ (.int .i32 97)).cell? ⟨u1.heap.size, 1, none⟩ = some (.bool false) := by rw [World.cell?_setCell_other _ _ _ _ (by simp <;> omega)]; exact q1
  clear hne
  go_wp2_with fail
  have hs1 : Kept [g] v1 (v1.setCell ⟨g, J * 16, none⟩ (.int .i32 97)) := (Kept.refl [g] v1).setCell (.inl (by simp)) _
  have hb := hide (hb1.kept hs1 (by have := hlt.out; simp; omega))
  have hk := hide ((hj1.trans hh1 (by simp)).trans hs1 (fun x hx => by simp at hx; subst hx; exact .inr hge.out))
  have hset := Own.setAt rowC6 (l := newL N) (i := J) (j := 0) (v := .int .i32 97) (d := eA) (hon.out.kept hh1 (by simp)) hJl (by decide) (by simp [newL]; rfl)
  rw [Nat.add_zero] at hset
  have hrd := hide (show Rd (v1.setCell ⟨g, J * 16, none⟩ (.int .i32 97)) (some ⟨g, 0, none⟩) N 16 (cellsV (longL N true)) by have h := hset.rd; unfold longL; rw [if_pos rfl, hJ1.out]; exact h)
  clear hset hs1 hb1 hg1 hh1 hj1 hon hat p0 p1 q0 q1
  generalize v1.setCell ⟨g, J * 16, none⟩ (.int .i32 97) = v2 at *
  generalize longL N true = M at *
  have hUs := Used6_any (some ⟨g, 0, none⟩) N c1 M false v2 hrd.out (by omega)
  rw [hus.out] at hUs
  refine hUs.mono ?_
  rintro e w3 ⟨rfl, hj3⟩
  clear hUs
  clear q2 q3
  have hk3 := hide (hk.out.trans hj3 (by simp))
  have hrd3 := hide (hrd.out.kept hj3 (by simp))
  have hb3 := hide (hb.out.kept hj3 (by simp))
  clear hk hrd hb hj3
  have hF : ∀ {w' : World}, Kept [] w3 w' → w'.cell? ⟨u1.heap.size, 0, none⟩ = some (.slice (some ⟨g, 0, none⟩) N c1) ∧ w'.cell? ⟨u1.heap.size, 1, none⟩ = some (.bool false) := fun hk => (hb3.out.kept hk (by simp)).at
  have hT := hide (fun w1 (hk : Kept [] w3 w1) => ht0.out.kept (hk3.out.trans hk (by simp)))
  have hR := hide (fun w1 (hk : Kept [] w3 w1) => hrd3.out.kept hk (by simp))
  have hKK := hide (fun w1 (hk : Kept [] w3 w1) => hKn.out w1 (hk3.out.trans hk (by simp)))
  have hVa := hide (fun w1 hk => Valid6_any (some ⟨g, 0, none⟩) N c1 M false w1 (hT.out w1 hk) (hR.out w1 hk) (by omega))
  rw [hvl.out] at hVa
  have hOf := hide (fun w1 hk => of6_ask Of6_any (some ⟨g, 0, none⟩) N c1 M false none 0 0 false [] 2 true w1 (hT.out w1 hk) (hR.out w1 hk) (by omega) hc1 hd1 (Rd.nil _ _ _) (by rw [ofL_no hvl.out]; simp))
  have hNe := hide (fun w1 => news_ask New6_any (N : Int) none 0 0 false [] 2 true w1 (Rd.nil _ _ _) (by rw [newR_no _ (by omega)]; simp))
  have hTr := hide (fun w1 hk => trims_ask Trim6_any (some ⟨g, 0, none⟩) N c1 M false none 0 0 false [] 2 true w1 (hT.out w1 hk) (hR.out w1 hk) (by omega) hc1 hd1 (Rd.nil _ _ _) (by rw [trimE_no hvl.out]; simp))
  obtain ⟨q0, q1⟩ := hF (Kept.refl [] w3)
  go_wp2_with fail
  refine (hVa.out w3 (Kept.refl [] w3)).mono ?_
  rintro e w4 ⟨rfl, k4⟩
  clear q0 q1
  obtain ⟨q0, q1⟩ := hF k4
  go_wp2_with fail
  refine (hOf.out w4 k4).mono ?_
  rintro e w5 ⟨rfl, j5⟩
  have k5 := k4.trans j5 (by simp)
  clear q0 q1
  obtain ⟨q0, q1⟩ := hF k5
  go_wp2_with fail
  refine (hNe.out w5).mono ?_
  rintro e w6 ⟨rfl, j6⟩
  have k6 := k5.trans j6 (by simp)
  clear q0 q1
  obtain ⟨q0, q1⟩ := hF k6
  go_wp2_with fail
  refine (hTr.out w6 k6).mono ?_
  rintro e w7 ⟨rfl, j7⟩
  have k7 := k6.trans j7 (by simp)
  go_wp2_with fail
  refine (hKK.out w7 k7).mono ?_
  rintro e w8 ⟨rfl, j8⟩
  go_wp2_with fail
  go_ret
  exact ⟨rfl, (hk3.out.trans k7 (by simp)).trans j8 (by simp)⟩

theorem LineLongs_walk (KN : Known6Is) (k : Int) (last : Bool) (w : World) (ht : Tabs w) :
    Calls Tryd.prog 7 #[.int .i64 k, .bool last] w fun e w' => e = .returned (.bool true) ∧ Kept [] w w' := by
  by_cases h : k < 998 ∨ 1002 < k
  · exact LineLongs_out KN k last h w ht
  · obtain ⟨N, rfl⟩ : ∃ N : Nat, k = N := ⟨k.toNat, by omega⟩
    by_cases h3 : N ≤ 1000
    · cases last with
      | false => exact LineLongs_ev KN N (by omega) (by omega) h3 w ht
      | true => exact LineLongs_lv KN N (by omega) (by omega) h3 w ht
    · cases last with
      | false => exact LineLongs_eo KN N (by omega) (by omega) h3 w ht
      | true => exact LineLongs_lo KN N (by omega) (by omega) h3 w ht
end Go.Proofs.YtkhdnaopdhnkaaaDoor
