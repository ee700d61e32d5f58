/- Layer 9: the reference's numbers and texts. -/
import Derived.Test.YtnkddhmhjnhgcabDoorPlPar
import Derived.Lib.ItoaLen
namespace Go.Proofs.YtnkddhmhjnhgcabDoor
open Go.RowKit Go.Sort
set_option linter.unusedVariables false
set_option linter.unusedSimpArgs false
set_option maxRecDepth 100000

theorem rValid_any (p : Pl) (w : World) : Calls Tryd.prog 6 #[.agg #[.int .i64 p.l, .int .i64 p.c]] w fun e w' => e = .returned (.bool (vP p)) ∧ Kept [] w w' := by
  have hR := hide (show vP p = decide (0 ≤ p.l ∧ p.l ≤ 1099511627776 ∧ 0 ≤ p.c ∧ p.c ≤ 1000) from rfl)
  generalize vP p = R at *
  obtain ⟨l, k⟩ := p
  by_cases h1 : 0 ≤ l <;> by_cases h2 : l ≤ 1099511627776 <;> by_cases h3 : 0 ≤ k <;> by_cases h4 : k ≤ 1000
  all_goals first
    | (exfalso; omega)
    | (go_enter Tryd.func6, Tryd.ntmps6
       go_wp2_with fail
       go_ret
       exact ⟨ret_bool (by rw [hR.out]; simp; omega), (Kept.refl [] w).alloc _⟩)
theorem str_one {d : Nat} (h : d < 10) : strOfNums [48 + (d : Int)] = ⟨[UInt8.ofNat (48 + d)].toArray⟩ := by
  have key : ∀ d : Fin 10, strOfNums [48 + ((d.val : Nat) : Int)] = ⟨[UInt8.ofNat (48 + d.val)].toArray⟩ := by decide +kernel
  exact key ⟨d, h⟩
theorem conv_one (r : Nat) (hr : r < 10) (W W' : World) (hk : Kept [] (W.alloc (.cells #[.int .u8 (48 + (r : Int))] 5)) W') : (convert 57 9 (.slice (some ⟨W.heap.size, 0, none⟩) 1 1)).run Tryd.prog W' = .ok (.string ⟨[UInt8.ofNat (48 + r)].toArray⟩) W' := by
  rw [← str_one hr]
  exact run_bytes_string W' _ _ _ Tryd.underlying57 Tryd.underlying5 Tryd.underlying9 _ 1 1 [48 + (r : Int)] (Rd.block (hk.heap (heap_alloc_new W _) (by simp)) rfl)
set_option maxHeartbeats 1000000 in
theorem rnum_step (u : Nat) (hu : u ≤ 1099511627776) (ih : 10 ≤ u → ∀ w, Calls Tryd.prog 22 #[.int .i64 ((u / 10 : Nat) : Int)] w fun e w' => e = .returned (.string ⟨(Lib.decDigits (u / 10)).toArray⟩) ∧ Kept [] w w') (w : World) :
    Calls Tryd.prog 22 #[.int .i64 (u : Int)] w fun e w' => e = .returned (.string ⟨(Lib.decDigits u).toArray⟩) ∧ Kept [] w w' := by
  by_cases h : u < 10
  · have hlt : (u : Int) < 10 := by omega
    have e1 : IntKind.i64.wrap (48 + (u : Int)) = 48 + (u : Int) := IntWalk.i64_in _ (by omega)
    have e2 : IntKind.u8.wrap (48 + (u : Int)) = 48 + (u : Int) := by rw [IntKind.wrap_u8]; omega
    rw [dec_small h]
    go_enter Tryd.func22, Tryd.ntmps22
    have hcv := conv_one u h w _ (Kept.refl [] _)
    generalize UInt8.ofNat (48 + u) = b at *
    go_wp2_with fail
    go_ret
    exact ⟨rfl, (Kept.refl [] w).alloc _⟩
  · have hlt : ¬ (u : Int) < 10 := by omega
    have hI := hide (ih (by omega))
    clear ih
    have d1 : Int.tdiv (u : Int) 10 = ((u / 10 : Nat) : Int) := rfl
    have d2 : Int.tmod (u : Int) 10 = ((u % 10 : Nat) : Int) := rfl
    have hq : u % 10 < 10 := Nat.mod_lt _ (by decide)
    have hq2 : u / 10 ≤ 1099511627776 := by omega
    rw [dec_big h]
    generalize u / 10 = q at *
    generalize u % 10 = r at *
    go_enter Tryd.func22, Tryd.ntmps22
    have e1 : IntKind.i64.wrap (48 + (r : Int)) = 48 + (r : Int) := IntWalk.i64_in _ (by omega)
    have e2 : IntKind.u8.wrap (48 + (r : Int)) = 48 + (r : Int) := by rw [IntKind.wrap_u8]; omega
    have e3 : IntKind.i64.wrap (q : Int) = (q : Int) := IntWalk.i64_in _ (by omega)
    have e4 : IntKind.i64.wrap (r : Int) = (r : Int) := IntWalk.i64_in _ (by omega)
    have hcv1 := conv_one r hq w _ (Kept.refl [] _).drew
    have hn1 : (⟨[UInt8.ofNat (48 + r)].toArray⟩ : ByteArray).size = 1 := by rw [ba_size]; rfl
    have hn2 := ba_size (Lib.decDigits q)
    have hn3 : (Lib.decDigits q).length ≤ 20 := by rw [Lib.decDigits_length]; exact Lib.nDigits_le20 q (by omega)
    have hn4 : ¬ (9223372036854775807 < (Lib.decDigits q).length + 1) := by omega
    have hba : (⟨(Lib.decDigits q).toArray⟩ ++ ⟨[UInt8.ofNat (48 + r)].toArray⟩ : ByteArray) = ⟨(Lib.decDigits q ++ [UInt8.ofNat (48 + r)]).toArray⟩ := by
      apply ByteArray.ext
      simp [ByteArray.data_append]
    have hcvK := hide (fun W W' hk => conv_one r hq W W' hk)
    generalize Lib.decDigits q = D at *
    generalize UInt8.ofNat (48 + r) = b at *
    go_upto_region 3 with fail
    refine wp_region_held_drew (S := (fun _ => True)) (by kernel_rfl) ?_ (fun hHeld => ?_)
    · (try dsimp only); (try trivial)
    refine wpAnyH_take (i := 0) (v := ?_) rfl (by kernel_rfl) (by kernel_rfl) (by kernel_rfl) (fun _ _ _ h => h) (Or.inl ⟨by rfl, ?_⟩) (by assumption) ?_
    rotate_left
    · (intro wq hSw; (try dsimp only at hSw); go_simp; try with_reducible rfl)
    try simp only [Act.put, List.getElem_toArray, List.getElem_cons_zero, List.setIfInBounds_toArray, List.set_cons_zero, List.set_cons_succ]
    refine wpAnyH_take (i := 1) (v := ?_) rfl (by kernel_rfl) (by kernel_rfl) (by kernel_rfl) (fun _ _ _ h => h) (Or.inl ⟨by rfl, ?_⟩) (by assumption) ?_
    rotate_left
    · (intro wq hSw; (try dsimp only at hSw); go_simp; try with_reducible rfl)
    try simp only [Act.put, List.getElem_toArray, List.getElem_cons_succ, List.getElem_cons_zero, List.setIfInBounds_toArray, List.set_cons_zero, List.set_cons_succ]
    refine wpAnyH_take (i := 3) (v := ?_) rfl (by kernel_rfl) (by kernel_rfl) (by kernel_rfl) (fun _ _ _ h => h) (Or.inl ⟨by rfl, ?_⟩) (by assumption) ?_
    rotate_left
    · (intro wq hSw; (try dsimp only at hSw); go_simp; try with_reducible rfl)
    try simp only [Act.put, List.getElem_toArray, List.getElem_cons_succ, List.getElem_cons_zero, List.setIfInBounds_toArray, List.set_cons_zero, List.set_cons_succ]
    refine wpAnyH_take (i := 4) (v := ?_) rfl (by kernel_rfl) (by kernel_rfl) (by kernel_rfl) (fun _ _ _ h => h) (Or.inl ⟨by rfl, ?_⟩) (by assumption) ?_
    rotate_left
    · (intro wq hSw; (try dsimp only at hSw); go_simp; try with_reducible rfl)
    try simp only [Act.put, List.getElem_toArray, List.getElem_cons_succ, List.getElem_cons_zero, List.setIfInBounds_toArray, List.set_cons_zero, List.set_cons_succ]
    refine wpAnyH_take (i := 5) (v := ?_) rfl (by kernel_rfl) (by kernel_rfl) (by kernel_rfl) (fun _ _ _ h => h) (Or.inl ⟨by rfl, ?_⟩) (by assumption) ?_
    rotate_left
    · (intro wq hSw; (try dsimp only at hSw); go_simp; try with_reducible rfl)
    try simp only [Act.put, List.getElem_toArray, List.getElem_cons_succ, List.getElem_cons_zero, List.setIfInBounds_toArray, List.set_cons_zero, List.set_cons_succ]
    refine wpAnyH_take (i := 6) (v := ?_) rfl (by kernel_rfl) (by kernel_rfl) (by kernel_rfl) (fun _ _ _ h => h) (Or.inl ⟨by rfl, ?_⟩) (by assumption) ?_
    rotate_left
    · (intro wq hSw; (try dsimp only at hSw); go_simp; try with_reducible rfl)
    try simp only [Act.put, List.getElem_toArray, List.getElem_cons_succ, List.getElem_cons_zero, List.setIfInBounds_toArray, List.set_cons_zero, List.set_cons_succ]
    refine wpAnyH_ready (rs := [2, 7]) (by kernel_rfl) (by simp) ?_
    refine AllReadyH.cons rfl (fun K hK => ?_) (AllReadyH.cons rfl (fun K hK => ?_) AllReadyH.nil)
    · go_simp
      refine (hI.out _).mono ?_; rintro e w1 ⟨rfl, j1⟩; have hcv := hcvK.out w1 _ (Kept.refl [] _); have kf := ((Kept.refl [] w).drew.trans j1 (by simp)).alloc (.cells #[.int .u8 (48 + (r : Int))] 5)
      try go_wp2_with fail
      refine hK.out _ _ ?_ (fun hHeld => ?_)
      · (try dsimp only); (try trivial)
      clear hK K
      try simp only [Act.put, List.getElem_toArray, List.getElem_cons_succ, List.getElem_cons_zero, List.setIfInBounds_toArray, List.set_cons_zero, List.set_cons_succ]
      refine wpAnyH_ready (rs := [7]) (by kernel_rfl) (by simp) ?_
      refine AllReadyH.cons rfl (fun K hK => ?_) AllReadyH.nil
      go_simp
      try go_wp2_with fail
      refine hK.out _ _ ?_ (fun hHeld => ?_)
      · (try dsimp only); (try trivial)
      clear hK K
      try simp only [Act.put, List.getElem_toArray, List.getElem_cons_succ, List.getElem_cons_zero, List.setIfInBounds_toArray, List.set_cons_zero, List.set_cons_succ]
      refine wpAnyH_ready (rs := [8]) (by kernel_rfl) (by simp) ?_
      refine AllReadyH.cons rfl (fun K hK => ?_) AllReadyH.nil
      go_simp
      try go_wp2_with fail
      refine hK.out _ _ ?_ (fun hHeld => ?_)
      · (try dsimp only); (try trivial)
      clear hK K
      try simp only [Act.put, List.getElem_toArray, List.getElem_cons_succ, List.getElem_cons_zero, List.setIfInBounds_toArray, List.set_cons_zero, List.set_cons_succ]
      refine wpAnyH_take (i := 9) (v := ?_) rfl (by kernel_rfl) (by kernel_rfl) (by kernel_rfl) (fun _ _ _ h => h) (Or.inl ⟨by rfl, ?_⟩) (by assumption) ?_
      rotate_left
      · (intro wq hSw; (try dsimp only at hSw); go_simp; try with_reducible rfl)
      try simp only [Act.put, List.getElem_toArray, List.getElem_cons_succ, List.getElem_cons_zero, List.setIfInBounds_toArray, List.set_cons_zero, List.set_cons_succ]
      refine wpAnyH_take (i := 10) (v := ?_) rfl (by kernel_rfl) (by kernel_rfl) (by kernel_rfl) (fun _ _ _ h => h) (Or.inl ⟨by rfl, ?_⟩) (by assumption) ?_
      rotate_left
      · (intro wq hSw; (try dsimp only at hSw); go_simp; try with_reducible rfl)
      try simp only [Act.put, List.getElem_toArray, List.getElem_cons_succ, List.getElem_cons_zero, List.setIfInBounds_toArray, List.set_cons_zero, List.set_cons_succ]
      refine wpAnyH_done (by kernel_rfl) ?_ _
      (go_wp2_with fail; go_ret; exact ⟨rfl, kf⟩)
    · go_simp
      try go_wp2_with fail
      refine hK.out _ _ ?_ (fun hHeld => ?_)
      · (try dsimp only); (try trivial)
      clear hK K
      try simp only [Act.put, List.getElem_toArray, List.getElem_cons_succ, List.getElem_cons_zero, List.setIfInBounds_toArray, List.set_cons_zero, List.set_cons_succ]
      refine wpAnyH_ready (rs := [2, 8]) (by kernel_rfl) (by simp) ?_
      refine AllReadyH.cons rfl (fun K hK => ?_) (AllReadyH.cons rfl (fun K hK => ?_) AllReadyH.nil)
      · go_simp
        refine (hI.out _).mono ?_; rintro e w1 ⟨rfl, j1⟩; have hcv := hcvK.out w w1 ((Kept.refl [] _).drew.trans j1 (by simp)); have kf := ((Kept.refl [] w).alloc (.cells #[.int .u8 (48 + (r : Int))] 5)).drew.trans j1 (by simp)
        try go_wp2_with fail
        refine hK.out _ _ ?_ (fun hHeld => ?_)
        · (try dsimp only); (try trivial)
        clear hK K
        try simp only [Act.put, List.getElem_toArray, List.getElem_cons_succ, List.getElem_cons_zero, List.setIfInBounds_toArray, List.set_cons_zero, List.set_cons_succ]
        refine wpAnyH_ready (rs := [8]) (by kernel_rfl) (by simp) ?_
        refine AllReadyH.cons rfl (fun K hK => ?_) AllReadyH.nil
        go_simp
        try go_wp2_with fail
        refine hK.out _ _ ?_ (fun hHeld => ?_)
        · (try dsimp only); (try trivial)
        clear hK K
        try simp only [Act.put, List.getElem_toArray, List.getElem_cons_succ, List.getElem_cons_zero, List.setIfInBounds_toArray, List.set_cons_zero, List.set_cons_succ]
        refine wpAnyH_take (i := 9) (v := ?_) rfl (by kernel_rfl) (by kernel_rfl) (by kernel_rfl) (fun _ _ _ h => h) (Or.inl ⟨by rfl, ?_⟩) (by assumption) ?_
        rotate_left
        · (intro wq hSw; (try dsimp only at hSw); go_simp; try with_reducible rfl)
        try simp only [Act.put, List.getElem_toArray, List.getElem_cons_succ, List.getElem_cons_zero, List.setIfInBounds_toArray, List.set_cons_zero, List.set_cons_succ]
        refine wpAnyH_take (i := 10) (v := ?_) rfl (by kernel_rfl) (by kernel_rfl) (by kernel_rfl) (fun _ _ _ h => h) (Or.inl ⟨by rfl, ?_⟩) (by assumption) ?_
        rotate_left
        · (intro wq hSw; (try dsimp only at hSw); go_simp; try with_reducible rfl)
        try simp only [Act.put, List.getElem_toArray, List.getElem_cons_succ, List.getElem_cons_zero, List.setIfInBounds_toArray, List.set_cons_zero, List.set_cons_succ]
        refine wpAnyH_done (by kernel_rfl) ?_ _
        (go_wp2_with fail; go_ret; exact ⟨rfl, kf⟩)
      · go_simp
        try go_wp2_with fail
        refine hK.out _ _ ?_ (fun hHeld => ?_)
        · (try dsimp only); (try trivial)
        clear hK K
        try simp only [Act.put, List.getElem_toArray, List.getElem_cons_succ, List.getElem_cons_zero, List.setIfInBounds_toArray, List.set_cons_zero, List.set_cons_succ]
        refine wpAnyH_ready (rs := [2]) (by kernel_rfl) (by simp) ?_
        refine AllReadyH.cons rfl (fun K hK => ?_) AllReadyH.nil
        go_simp
        refine (hI.out _).mono ?_; rintro e w1 ⟨rfl, j1⟩; have kf := ((Kept.refl [] w).alloc (.cells #[.int .u8 (48 + (r : Int))] 5)).drew.trans j1 (by simp)
        try go_wp2_with fail
        refine hK.out _ _ ?_ (fun hHeld => ?_)
        · (try dsimp only); (try trivial)
        clear hK K
        try simp only [Act.put, List.getElem_toArray, List.getElem_cons_succ, List.getElem_cons_zero, List.setIfInBounds_toArray, List.set_cons_zero, List.set_cons_succ]
        refine wpAnyH_take (i := 9) (v := ?_) rfl (by kernel_rfl) (by kernel_rfl) (by kernel_rfl) (fun _ _ _ h => h) (Or.inl ⟨by rfl, ?_⟩) (by assumption) ?_
        rotate_left
        · (intro wq hSw; (try dsimp only at hSw); go_simp; try with_reducible rfl)
        try simp only [Act.put, List.getElem_toArray, List.getElem_cons_succ, List.getElem_cons_zero, List.setIfInBounds_toArray, List.set_cons_zero, List.set_cons_succ]
        refine wpAnyH_take (i := 10) (v := ?_) rfl (by kernel_rfl) (by kernel_rfl) (by kernel_rfl) (fun _ _ _ h => h) (Or.inl ⟨by rfl, ?_⟩) (by assumption) ?_
        rotate_left
        · (intro wq hSw; (try dsimp only at hSw); go_simp; try with_reducible rfl)
        try simp only [Act.put, List.getElem_toArray, List.getElem_cons_succ, List.getElem_cons_zero, List.setIfInBounds_toArray, List.set_cons_zero, List.set_cons_succ]
        refine wpAnyH_done (by kernel_rfl) ?_ _
        (go_wp2_with fail; go_ret; exact ⟨rfl, kf⟩)
theorem rnumber_any (u : Nat) : u ≤ 1099511627776 → ∀ w, Calls Tryd.prog 22 #[.int .i64 (u : Int)] w fun e w' => e = .returned (.string ⟨(Lib.decDigits u).toArray⟩) ∧ Kept [] w w' := by
  induction u using Nat.strongRecOn with
  | _ u ih => exact fun hu w => rnum_step u hu (fun h w => ih (u / 10) (by omega) (by omega) w) w
theorem rnum_int (n : Int) (h0 : 0 ≤ n) (h1 : n ≤ 1099511627776) (w : World) : Calls Tryd.prog 22 #[.int .i64 n] w fun e w' => e = .returned (.string ⟨(decB n).toArray⟩) ∧ Kept [] w w' := by
  have := rnumber_any n.toNat (by omega) w
  rw [show ((n.toNat : Nat) : Int) = n by omega] at this
  exact this
set_option maxHeartbeats 1000000 in
theorem rText_any (p : Pl) (hv0 : vP p = true) (w : World) : Calls Tryd.prog 8 #[.agg #[.int .i64 p.l, .int .i64 p.c]] w fun e w' => e = .returned (.string ⟨(textL p).toArray⟩) ∧ Kept [] w w' := by
  have hv := (vP_iff p).1 hv0
  have i1 := hide (fun w => rnum_int p.l (by omega) (by omega) w)
  have i2 := hide (fun w => rnum_int p.c (by omega) (by omega) w)
  have n1 := Lib.itoa_length_le p.l (by omega) (by omega)
  have n2 := Lib.itoa_length_le p.c (by omega) (by omega)
  rw [itoa_nat hv.1] at n1
  rw [itoa_nat hv.2.2.1] at n2
  unfold textL
  clear hv0 hv
  generalize decB p.l = A at *
  generalize decB p.c = B at *
  have hk0 : Kept [] w (w.alloc (.cells #[.int .i64 p.l, .int .i64 p.c] 23)) := (Kept.refl [] w).alloc _
  have x0 := PlB.new w p
  obtain ⟨l, c⟩ := p
  go_enter Tryd.func8, Tryd.ntmps8
  go_upto_region 1 with fail
  obtain ⟨W0, hW0⟩ : ∃ x : World, x = w.alloc (.cells #[.int .i64 l, .int .i64 c] 23) := ⟨_, rfl⟩
  simp only at hk0 x0
  rw [← hW0] at hk0 x0 ⊢
  clear hW0
  have c0 := x0.c0
  have c1 := x0.c1
  simp only at c0 c1
  generalize w.heap.size = b at *
  have hz1 : (⟨A.toArray⟩ : ByteArray).size = A.length := ba_size A
  have hz2 : (⟨B.toArray⟩ : ByteArray).size = B.length := ba_size B
  have s1 : ¬ (9223372036854775807 < A.length + 1) := by omega
  have s2 : ¬ (9223372036854775807 < A.length + 1 + B.length) := by omega
  refine wp_region_held_drew (S := (fun w' => w'.cell? ⟨b, 0, none⟩ = some (.int .i64 l) ∧ w'.cell? ⟨b, 1, none⟩ = some (.int .i64 c))) (by kernel_rfl) ?_ (fun hHeld => ?_)
  · (try dsimp only); (first | exact ⟨k3.cell c0 (by simp), k3.cell c1 (by simp)⟩ | exact ⟨k2.cell c0 (by simp), k2.cell c1 (by simp)⟩ | exact ⟨((Kept.refl [] W0).drew).cell c0 (by simp), ((Kept.refl [] W0).drew).cell c1 (by simp)⟩)
  refine wpAnyH_take (i := 0) (v := ?_) rfl (by kernel_rfl) (by kernel_rfl) (by kernel_rfl) (fun _ _ _ h => h) (Or.inl ⟨by rfl, ?_⟩) (by assumption) ?_
  rotate_left
  · (intro wq hSw; (try dsimp only at hSw); go_simp; try with_reducible rfl)
  try simp only [Act.put, List.getElem_toArray, List.getElem_cons_zero, List.setIfInBounds_toArray, List.set_cons_zero, List.set_cons_succ]
  refine wpAnyH_take (i := 1) (v := ?_) rfl (by kernel_rfl) (by kernel_rfl) (by kernel_rfl) (fun _ _ _ h => h) (Or.inl ⟨by rfl, ?_⟩) (by assumption) ?_
  rotate_left
  · (intro wq hSw; (try dsimp only at hSw); go_simp; try with_reducible rfl)
  try simp only [Act.put, List.getElem_toArray, List.getElem_cons_succ, List.getElem_cons_zero, List.setIfInBounds_toArray, List.set_cons_zero, List.set_cons_succ]
  refine wpAnyH_take (i := 4) (v := ?_) rfl (by kernel_rfl) (by kernel_rfl) (by kernel_rfl) (fun _ _ _ h => h) (Or.inl ⟨by rfl, ?_⟩) (by assumption) ?_
  rotate_left
  · (intro wq hSw; (try dsimp only at hSw); go_simp; try with_reducible rfl)
  try simp only [Act.put, List.getElem_toArray, List.getElem_cons_succ, List.getElem_cons_zero, List.setIfInBounds_toArray, List.set_cons_zero, List.set_cons_succ]
  refine wpAnyH_take (i := 5) (v := ?_) rfl (by kernel_rfl) (by kernel_rfl) (by kernel_rfl) (fun _ _ _ h => h) (Or.inl ⟨by rfl, ?_⟩) (by assumption) ?_
  rotate_left
  · (intro wq hSw; (try dsimp only at hSw); go_simp; try with_reducible rfl)
  try simp only [Act.put, List.getElem_toArray, List.getElem_cons_succ, List.getElem_cons_zero, List.setIfInBounds_toArray, List.set_cons_zero, List.set_cons_succ]
  refine wpAnyH_ready (rs := [2]) (by kernel_rfl) (by simp) ?_
  refine AllReadyH.cons rfl (fun K hK => ?_) AllReadyH.nil
  go_simp
  refine (i1.out _).mono ?_; rintro e w2 ⟨rfl, j2⟩; have k2 : Kept [] W0 w2 := (Kept.refl [] W0).drew.trans j2 (by simp)
  try go_wp2_with fail
  refine hK.out _ _ ?_ (fun hHeld => ?_)
  · (try dsimp only); (first | exact ⟨k3.cell c0 (by simp), k3.cell c1 (by simp)⟩ | exact ⟨k2.cell c0 (by simp), k2.cell c1 (by simp)⟩ | exact ⟨((Kept.refl [] W0).drew).cell c0 (by simp), ((Kept.refl [] W0).drew).cell c1 (by simp)⟩)
  clear hK K
  try simp only [Act.put, List.getElem_toArray, List.getElem_cons_succ, List.getElem_cons_zero, List.setIfInBounds_toArray, List.set_cons_zero, List.set_cons_succ]
  refine wpAnyH_take (i := 3) (v := ?_) rfl (by kernel_rfl) (by kernel_rfl) (by kernel_rfl) (fun _ _ _ h => h) (Or.inl ⟨by rfl, ?_⟩) (by assumption) ?_
  rotate_left
  · (intro wq hSw; (try dsimp only at hSw); go_simp; try with_reducible rfl)
  try simp only [Act.put, List.getElem_toArray, List.getElem_cons_succ, List.getElem_cons_zero, List.setIfInBounds_toArray, List.set_cons_zero, List.set_cons_succ]
  refine wpAnyH_ready (rs := [6]) (by kernel_rfl) (by simp) ?_
  refine AllReadyH.cons rfl (fun K hK => ?_) AllReadyH.nil
  go_simp
  refine (i2.out _).mono ?_; rintro e w3 ⟨rfl, j3⟩; have k3 : Kept [] W0 w3 := k2.trans j3 (by simp)
  try go_wp2_with fail
  refine hK.out _ _ ?_ (fun hHeld => ?_)
  · (try dsimp only); (first | exact ⟨k3.cell c0 (by simp), k3.cell c1 (by simp)⟩ | exact ⟨k2.cell c0 (by simp), k2.cell c1 (by simp)⟩ | exact ⟨((Kept.refl [] W0).drew).cell c0 (by simp), ((Kept.refl [] W0).drew).cell c1 (by simp)⟩)
  clear hK K
  try simp only [Act.put, List.getElem_toArray, List.getElem_cons_succ, List.getElem_cons_zero, List.setIfInBounds_toArray, List.set_cons_zero, List.set_cons_succ]
  refine wpAnyH_take (i := 7) (v := ?_) rfl (by kernel_rfl) (by kernel_rfl) (by kernel_rfl) (fun _ _ _ h => h) (Or.inl ⟨by rfl, ?_⟩) (by assumption) ?_
  rotate_left
  · (intro wq hSw; (try dsimp only at hSw); go_simp; try with_reducible rfl)
  try simp only [Act.put, List.getElem_toArray, List.getElem_cons_succ, List.getElem_cons_zero, List.setIfInBounds_toArray, List.set_cons_zero, List.set_cons_succ]
  refine wpAnyH_take (i := 8) (v := ?_) rfl (by kernel_rfl) (by kernel_rfl) (by kernel_rfl) (fun _ _ _ h => h) (Or.inl ⟨by rfl, ?_⟩) (by assumption) ?_
  rotate_left
  · (intro wq hSw; (try dsimp only at hSw); go_simp; try with_reducible rfl)
  try simp only [Act.put, List.getElem_toArray, List.getElem_cons_succ, List.getElem_cons_zero, List.setIfInBounds_toArray, List.set_cons_zero, List.set_cons_succ]
  refine wpAnyH_done (by kernel_rfl) ?_ _
  go_wp2_with fail
  go_ret
  refine ⟨(?_ : Ending.returned (.string (⟨A.toArray⟩ ++ ⟨#[58]⟩ ++ ⟨B.toArray⟩)) = _), hk0.trans k3 (by simp)⟩
  rw [ba_text]
end Go.Proofs.YtnkddhmhjnhgcabDoor
