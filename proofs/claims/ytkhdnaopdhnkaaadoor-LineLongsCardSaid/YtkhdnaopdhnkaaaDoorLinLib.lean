/- What package line calls of the library: bits.Mul of a small number, slices.Repeat of one cell; emptyCells, validColumns. -/
import Derived.Test.YtkhdnaopdhnkaaaDoorLinMem
import Derived.Test.YtkhdnaopdhnkaaaDoorPenMath
import Derived.Test.YtkhdnaopdhnkaaaDoorCelLeaf
import Derived.Laws.CopyRow
namespace Go.Proofs.YtkhdnaopdhnkaaaDoor
open Go.RowKit
set_option linter.unusedVariables false
set_option maxRecDepth 100000

theorem validColumns_any (n : Int) (w : World) : Calls Tryd.prog 41 #[.int .i64 n] w fun e w' => e = .returned (.bool (decide (0 ≤ n ∧ n ≤ 1000))) ∧ w' = w := by
  by_cases h0 : 0 ≤ n
  · go_enter Tryd.func41, Tryd.ntmps41
    go_wp2_with fail
    go_ret
    exact ⟨ret_bool (by simp [h0]), rfl⟩
  · have h1 : n < 0 := by omega
    go_enter Tryd.func41, Tryd.ntmps41
    go_wp2_with fail
    go_ret
    exact ⟨ret_bool (by simp <;> omega), rfl⟩

set_option maxHeartbeats 2000000 in
theorem Mul64_one (n : Nat) (hn : n ≤ 1000000) (w : World) : Calls Tryd.prog 87 #[.int .u64 1, .int .u64 (n : Int)] w fun e w' => e = .returned (.tuple #[.int .u64 0, .int .u64 (n : Int)]) ∧ w' = w := by
  have h1 : bits .and .u64 1 4294967295 = 1 := by rw [and64 32 (by decide) (by decide) (by decide) (by decide)]; rfl
  have h2 : bits .and .u64 (n : Int) 4294967295 = n := by rw [and64 32 (by decide) (by decide) (by omega) (by omega)]; omega
  have h3 : (n : Int) / 4294967296 = 0 := by omega
  have h4 : IntKind.u64.wrap (n : Int) = n := by rw [IntKind.wrap_u64]; omega
  have h5 : bits .and .u64 0 4294967295 = 0 := by rw [and64 32 (by decide) (by decide) (by decide) (by decide)]; rfl
  go_enter Tryd.func87, Tryd.ntmps87
  go_wp2_with fail
  refine bodyPost_ret (v := .tuple #[.int .u64 0, .int .u64 (n : Int)]) (by simp [results, Tryd.results87, go_sem]) rfl ?_
  exact ⟨rfl, rfl⟩

set_option maxHeartbeats 2000000 in
theorem Mul_one (n : Nat) (hn : n ≤ 1000000) (w : World) : Calls Tryd.prog 74 #[.int .u64 1, .int .u64 (n : Int)] w fun e w' => e = .returned (.tuple #[.int .u64 0, .int .u64 (n : Int)]) ∧ w' = w := by
  go_enter Tryd.func74, Tryd.ntmps74
  go_wp2_with fail
  refine (Mul64_one n hn w).mono ?_
  rintro e w1 ⟨rfl, rfl⟩
  go_wp2_with fail
  refine bodyPost_ret (v := .tuple #[.int .u64 0, .int .u64 (n : Int)]) (by simp [results, Tryd.results74, go_sem]) rfl ?_
  exact ⟨rfl, rfl⟩

/-- A block that is so many cells. -/
def CelBlk (w : World) (g : Nat) (L : List Cl) : Prop := w.heap[g]? = some (.cells (cellsV L).toArray 60 (0, 0))
theorem CelBlk.own {w : World} {g base : Nat} {L : List Cl} (h : CelBlk w g L) (hb : base ≤ g) (hm : L.length ≤ maxLen) : Own w base 60 (some ⟨g, 0, none⟩) L.length L.length 16 (cellsV L) :=
  ⟨cellsV_len L, .inr ⟨g, L.length, _, rfl, hb, h, Nat.le_refl _, hm, by simp [cellsV_len], List.take_of_length_le (by simp [cellsV_len])⟩⟩
theorem Own.blk6 {w : World} {g n base : Nat} {L : List Cl} (h : Own w base 60 (some ⟨g, 0, none⟩) n n 16 (cellsV L)) : CelBlk w g L := by
  have hl := h.1
  rcases h.2 with ⟨hv, _⟩ | ⟨g', cap, cur, hv, hb, hg, hnc, hcm, hsz, ht⟩
  · cases hv
  · injection hv with h1 h2 h3
    injection h1 with h1
    injection h1 with h1 _ _
    subst h1 h3
    have hc : cur = (cellsV L).toArray := by
      rw [← ht, List.take_of_length_le (by simp [hsz])]
    rw [CelBlk, ← hc]
    exact hg
theorem run_copyC (w : World) (ty : TypeId) (g i dLen dCap b so sLen sCap m : Nat) (L M : List Cl) (hg : CelBlk w g L) (hm : m = Nat.min sLen dLen) (hM : M.length = m)
    (hsrc : ∀ j v, (cellsV M)[j]? = some v → w.cell? ⟨b, so + j, none⟩ = some v) (hfit : i + m ≤ L.length) :
    (Builtin.copy_ #[22, 22] ty #[.slice (some ⟨g, i * 16, none⟩) dLen dCap, .slice (some ⟨b, so, none⟩) sLen sCap]).run Tryd.prog w =
      .ok (.int .i64 m) (w.setRow g (cellsV (L.take i ++ M ++ L.drop (i + m))).toArray) := by
  have hl := run_loadCells_list (P := Tryd.prog) w ⟨b, so, none⟩ (cellsV M) (fun j v hv => by
    have hadd : (⟨b, so, none⟩ : Addr).add j = ⟨b, so + j, none⟩ := by unfold Addr.add; split <;> simp_all
    rw [hadd]
    exact hsrc j v hv)
  have hst := run_storeCells_at Tryd.prog g (i * 16) 60 (cellsV M) 0 _ w hg (by simp [cellsV_len]; omega) (cellsV_one M)
  have he : (cellsV L).take (i * 16 + 0) ++ cellsV M ++ (cellsV L).drop (i * 16 + 0 + (cellsV M).length) = cellsV (L.take i ++ M ++ L.drop (i + m)) := by
    have e1 : cellsV L = cellsV (L.take i) ++ cellsV (L.drop i) := by rw [← cellsV_app, List.take_append_drop]
    have e2 : cellsV L = cellsV (L.take (i + m)) ++ cellsV (L.drop (i + m)) := by rw [← cellsV_app, List.take_append_drop]
    have l1 : (cellsV (L.take i)).length = i * 16 := by rw [cellsV_len, List.length_take, Nat.min_eq_left (by omega)]
    have l2 : (cellsV (L.take (i + m))).length = i * 16 + 0 + (cellsV M).length := by rw [cellsV_len, List.length_take, Nat.min_eq_left (by omega), cellsV_len, hM]; omega
    rw [cellsV_app, cellsV_app]
    congr 1
    · congr 1
      rw [e1, List.take_append_of_le_length (by omega), List.take_of_length_le (by omega)]
    · conv => lhs; rw [e2]
      rw [List.drop_append_of_le_length (by omega), List.drop_of_length_le (by omega), List.nil_append]
  rw [← he]
  have hsz : (sizeOf 60).run Tryd.prog w = .ok 16 w := by kernel_rfl
  have hlen : Nat.min sLen dLen * 16 = (cellsV M).length := by rw [cellsV_len, hM, hm]
  simp only at hst
  simp [Builtin.copy_, run_underlying Tryd.underlying22, Builtin.lenOf, Builtin.firstCells, hsz, hlen, hl, hst, Result.andThen]
  simp [goInt, hm]
theorem wp_copyC {o : Oper} {A : Act} {w : World} {K : Act → World → Prop} {Q : Exit → Act → World → Prop} {d s : Operand} (ho : o.op = .call { callee := .builtin .copy, args := #[d, s], argTypes := #[22, 22] })
    (g i dLen dCap b so sLen sCap m : Nat) (L M : List Cl) (hd : A.eval d = .slice (some ⟨g, i * 16, none⟩) dLen dCap) (hs : A.eval s = .slice (some ⟨b, so, none⟩) sLen sCap) (hg : CelBlk w g L) (hm : m = Nat.min sLen dLen) (hM : M.length = m)
    (hsrc : ∀ j v, (cellsV M)[j]? = some v → w.cell? ⟨b, so + j, none⟩ = some v) (hfit : i + m ≤ L.length)
    (h : ∀ w', CelBlk w' g (L.take i ++ M ++ L.drop (i + m)) → Kept [g] w w' → K (A.put o.dst (.int .i64 m)) w') : o.wp Tryd.prog A w K Q := by
  have hrun := run_copyC w o.type g i dLen dCap b so sLen sCap m L M hg hm hM hsrc hfit
  unfold Oper.wp execOp
  simp only [ho, resolve, invoke, builtin, Sem.run_bind, Sem.run_pure, Result.andThen_ok, List.map_toArray, List.map_cons, List.map_nil, hs, hd, hrun]
  exact h _ (setRow_heap w g _ _ _ _ hg) ((Kept.refl [g] w).setRow (.inl (by simp)) _)
theorem wpList_copyC {ops : Array Oper} {rest : List Oper} {o : Oper} {A : Act} {w : World} {Q : Exit → Act → World → Prop} {d s : Operand} (hgd : o.guard = none) (ho : o.op = .call { callee := .builtin .copy, args := #[d, s], argTypes := #[22, 22] })
    (g i dLen dCap b so sLen sCap m : Nat) (L M : List Cl) (hd : A.eval d = .slice (some ⟨g, i * 16, none⟩) dLen dCap) (hs : A.eval s = .slice (some ⟨b, so, none⟩) sLen sCap) (hg : CelBlk w g L) (hm : m = Nat.min sLen dLen) (hM : M.length = m)
    (hsrc : ∀ j v, (cellsV M)[j]? = some v → w.cell? ⟨b, so + j, none⟩ = some v) (hfit : i + m ≤ L.length)
    (h : ∀ w', CelBlk w' g (L.take i ++ M ++ L.drop (i + m)) → Kept [g] w w' → wpList Tryd.prog ops Q rest (A.put o.dst (.int .i64 m)) w') : wpList Tryd.prog ops Q (o :: rest) A w :=
  wpList_plain hgd fun _ hK => wp_copyC ho g i dLen dCap b so sLen sCap m L M hd hs hg hm hM hsrc hfit (fun w' h2 h3 => hK _ _ (h w' h2 h3))

theorem rep_next (x z : Cl) (N i m : Nat) (h : i + m ≤ N) : (List.replicate i x ++ List.replicate (N - i) z).take i ++ List.replicate m x ++ (List.replicate i x ++ List.replicate (N - i) z).drop (i + m) = List.replicate (i + m) x ++ List.replicate (N - (i + m)) z := by
  rw [List.take_left' (by simp), List.drop_append, List.drop_of_length_le (by simp), List.nil_append, List.replicate_append_replicate, List.length_replicate, Nat.add_sub_cancel_left, List.drop_replicate]
  congr 2
  omega

set_option maxHeartbeats 4000000 in
theorem Repeat_one (x : Cl) (b o c : Nat) (N : Nat) (hN : N ≤ 2000) (w : World) (hr : Rd w (some ⟨b, o, none⟩) 1 16 (cellsV [x])) :
    Calls Tryd.prog 63 #[.slice (some ⟨b, o, none⟩) 1 c, .int .i64 (N : Int)] w fun e w' => ∃ a' c', e = .returned (.slice a' N c') ∧ Own w' w.heap.size 60 a' N c' 16 (cellsV (List.replicate N x)) ∧ Kept [] w w' := by
  have hw : IntKind.u64.wrap (N : Int) = N := by rw [IntKind.wrap_u64]; omega
  have hw2 : IntKind.i64.wrap (N : Int) = N := by rw [IntKind.wrap_i64]; omega
  have hM := hide (fun w => Mul_one N (by omega) w)
  have hH := hide hr
  clear hr
  go_enter Tryd.func63, Tryd.ntmps63
  go_wp2_with fail
  refine (hM.out w).mono ?_
  rintro e w1 ⟨rfl, rfl⟩
  have hz : (madeCells (Value.agg #[.int .i32 0, .int .i32 0, .int .i32 0, .int .i32 0, .int .i64 0, .int .i64 0, .int .u8 0, .int .u8 0, .int .u8 0, .int .u8 0, .int .i64 0, .int .u8 0, .int .u8 0, .int .u8 0, .int .u8 0, .int .u8 0]).cells (N * 16)).toList = cellsV (List.replicate N zeroK) := made_is rowC6 (d := zeroK) rfl N
  have h1m : min 1 N = Nat.min 1 N := rfl
  obtain ⟨i0, hi0⟩ : ∃ i0, i0 = Nat.min 1 N := ⟨_, rfl⟩
  have hi1 : i0 ≤ N := by rw [hi0]; exact Nat.min_le_right _ _
  have hi2 : 0 < N → 0 < i0 := fun h => by rw [hi0]; show 0 < min 1 N; omega
  have hi3 : i0 ≤ 1 := by rw [hi0]; exact Nat.min_le_left _ _
  have hsrc0 : ∀ (w2 : World), Kept [] w1 w2 → ∀ j v, (cellsV (List.replicate i0 x))[j]? = some v → w2.cell? ⟨b, o + j, none⟩ = some v := fun w2 hk j v hv => by
    have hrk := hH.out.kept hk (by simp)
    rcases Nat.le_one_iff_eq_zero_or_eq_one.1 hi3 with h | h
    · rw [h] at hv; cases hv
    · rw [h] at hv
      rcases hrk.2 with h0 | ⟨b', o', ha, hc⟩
      · cases h0
      · injection ha with ha
        injection ha with q1 q2 _
        subst q1 q2
        exact hc j v hv
  clear h1m
  replace hi0 := hide hi0
  go_upto_region 7 with (refine wpList_mkF ?_ rfl elCell rfl rfl rfl rfl rfl (by omega) (Nat.le_refl _); intro w2 ho2 hk2; rw [hz] at ho2; have hB := Own.blk6 ho2)
  go_upto_region 8 with (refine wpList_copyC rfl rfl w1.heap.size 0 N N b o 1 c i0 (List.replicate N zeroK) (List.replicate i0 x) rfl rfl hB hi0.out (by simp) (hsrc0 _ hk2) (by simp <;> omega) ?_; intro w3 hB3 hk3)
  go_wp2_with fail
  have hL0 := rep_next x zeroK N 0 i0 (by omega)
  simp only [List.replicate_zero, List.nil_append, Nat.sub_zero, Nat.zero_add] at hL0
  have hB3 : Hid (CelBlk w3 w1.heap.size (List.replicate i0 x ++ List.replicate (N - i0) zeroK)) := hide (by rw [← hL0]; simpa using hB3)
  have hk3 : Kept [] w1 w3 := hk2.trans hk3 (by simp)
  go_loopg [8, 34, 35, 36, 37, 38, 39, 40, 41, 42, 43, 44, 45, 46] N (fun kx s8 s34 s35 s36 s37 s38 s39 s40 s41 s42 s43 s44 s45 s46 wr => ∃ i : Nat, s8 = .int .i64 i ∧ (0 < N → 0 < i) ∧ i ≤ N ∧ N - i ≤ kx ∧ Hid (CelBlk wr w1.heap.size (List.replicate i x ++ List.replicate (N - i) zeroK)) ∧ Kept [] w1 wr)
  case atStart => exact ⟨i0, rfl, hi2, hi1, by omega, hB3, hk3⟩
  case round =>
    obtain ⟨i, rfl, hi0', hi, hg, hB, hkr⟩ := hrel
    by_cases hlt : i < N
    · have hin : (i : Int) < (N : Int) := by omega
      have hip : 0 < i := hi0' (by omega)
      obtain ⟨m, hm⟩ : ∃ m, m = Nat.min i (N - i) := ⟨_, rfl⟩
      have hm1 : m ≤ i := by rw [hm]; exact Nat.min_le_left _ _
      have hm2 : m ≤ N - i := by rw [hm]; exact Nat.min_le_right _ _
      have hm3 : 0 < m := by rw [hm]; show 0 < min i (N - i); omega
      replace hm := hide hm
      have e1 : ∀ w, (Instr.slice 22 (.slice (some ⟨w1.heap.size, 0, none⟩) N N) (some (.int .i64 (i : Int))) none none).run Tryd.prog w = .ok (.slice (some ⟨w1.heap.size, i * 16, none⟩) (N - i) (N - i)) w := fun w => by
        rw [run_slice_l (P := Tryd.prog) w 22 _ N N Tryd.underlying22 .i64 i (by omega) (by omega), sz6]
        simp [Result.andThen, sliced, Addr.add]
        rw [if_neg (by omega), if_neg (by omega)]
      have e2 : ∀ w, (Instr.slice 22 (.slice (some ⟨w1.heap.size, 0, none⟩) N N) none (some (.int .i64 (i : Int))) none).run Tryd.prog w = .ok (.slice (some ⟨w1.heap.size, 0, none⟩) i N) w := fun w => by
        rw [run_slice_h (P := Tryd.prog) w 22 _ N N Tryd.underlying22 .i64 i (by omega) (by omega), sz6]
        simp [Result.andThen, sliced, Addr.add]
      have hsrc : ∀ j v, (cellsV (List.replicate m x))[j]? = some v → wr.drew.cell? ⟨w1.heap.size, 0 + j, none⟩ = some v := fun j v hv => by
        have hb2 : wr.drew.heap[w1.heap.size]? = _ := hB.out
        rw [cell_of_row wr.drew w1.heap.size (0 + j) _ _ _ hb2, Nat.zero_add, List.getElem?_toArray, cellsV_app]
        have e : List.replicate i x = List.replicate m x ++ List.replicate (i - m) x := by rw [List.replicate_append_replicate]; congr 1; omega
        rw [e, cellsV_app, List.append_assoc, List.getElem?_append_left (by have := (List.getElem?_eq_some_iff.1 hv).1; exact this)]
        exact hv
      have hnx := rep_next x zeroK N i m (by omega)
      have hwr : IntKind.i64.wrap ((i : Int) + (m : Int)) = ((i + m : Nat) : Int) := by rw [IntKind.wrap_i64]; omega
      go_upto_region 9 with fail
      refine wp_region_held_drew (S := (fun w' => True)) (by kernel_rfl) ?_ (fun hHeld => ?_)
      · (try dsimp only); (first | done | trivial)
      refine wpAnyH_take (i := 0) (v := ?_) rfl (by kernel_rfl) (by kernel_rfl) (by kernel_rfl) (fun _ _ _ h => h) (Or.inl ⟨by rfl, ?_⟩) (by assumption) ?_
      rotate_left
      · (intro wq hSw; (try dsimp only at hSw); go_simp; try with_reducible rfl)
      try simp only [Act.put, List.getElem_toArray, List.getElem_cons_zero, List.setIfInBounds_toArray, List.set_cons_zero, List.set_cons_succ]
      refine wpAnyH_take (i := 1) (v := ?_) rfl (by kernel_rfl) (by kernel_rfl) (by kernel_rfl) (fun _ _ _ h => h) (Or.inl ⟨by rfl, ?_⟩) (by assumption) ?_
      rotate_left
      · (intro wq hSw; (try dsimp only at hSw); go_simp; try with_reducible rfl)
      try simp only [Act.put, List.getElem_toArray, List.getElem_cons_succ, List.getElem_cons_zero, List.setIfInBounds_toArray, List.set_cons_zero, List.set_cons_succ]
      refine wpAnyH_take (i := 2) (v := ?_) rfl (by kernel_rfl) (by kernel_rfl) (by kernel_rfl) (fun _ _ _ h => h) (Or.inl ⟨by rfl, ?_⟩) (by assumption) ?_
      rotate_left
      · (intro wq hSw; (try dsimp only at hSw); go_simp; try with_reducible rfl)
      try simp only [Act.put, List.getElem_toArray, List.getElem_cons_succ, List.getElem_cons_zero, List.setIfInBounds_toArray, List.set_cons_zero, List.set_cons_succ]
      refine wpAnyH_take (i := 3) (v := ?_) rfl (by kernel_rfl) (by kernel_rfl) (by kernel_rfl) (fun _ _ _ h => h) (Or.inl ⟨by rfl, ?_⟩) (by assumption) ?_
      rotate_left
      · (intro wq hSw; (try dsimp only at hSw); go_simp; try with_reducible rfl)
      try simp only [Act.put, List.getElem_toArray, List.getElem_cons_succ, List.getElem_cons_zero, List.setIfInBounds_toArray, List.set_cons_zero, List.set_cons_succ]
      refine wpAnyH_take (i := 4) (v := ?_) rfl (by kernel_rfl) (by kernel_rfl) (by kernel_rfl) (fun _ _ _ h => h) (Or.inl ⟨by rfl, ?_⟩) (by assumption) ?_
      rotate_left
      · (intro wq hSw; (try dsimp only at hSw); go_simp; try with_reducible rfl)
      try simp only [Act.put, List.getElem_toArray, List.getElem_cons_succ, List.getElem_cons_zero, List.setIfInBounds_toArray, List.set_cons_zero, List.set_cons_succ]
      refine wpAnyH_take (i := 5) (v := ?_) rfl (by kernel_rfl) (by kernel_rfl) (by kernel_rfl) (fun _ _ _ h => h) (Or.inl ⟨by rfl, ?_⟩) (by assumption) ?_
      rotate_left
      · (intro wq hSw; (try dsimp only at hSw); go_simp; try with_reducible rfl)
      try simp only [Act.put, List.getElem_toArray, List.getElem_cons_succ, List.getElem_cons_zero, List.setIfInBounds_toArray, List.set_cons_zero, List.set_cons_succ]
      refine wpAnyH_take (i := 6) (v := ?_) rfl (by kernel_rfl) (by kernel_rfl) (by kernel_rfl) (fun _ _ _ h => h) (Or.inl ⟨by rfl, ?_⟩) (by assumption) ?_
      rotate_left
      · (intro wq hSw; (try dsimp only at hSw); go_simp; try with_reducible rfl)
      try simp only [Act.put, List.getElem_toArray, List.getElem_cons_succ, List.getElem_cons_zero, List.setIfInBounds_toArray, List.set_cons_zero, List.set_cons_succ]
      refine wpAnyH_ready (rs := [7]) (by kernel_rfl) (by simp) ?_
      refine AllReadyH.cons rfl (fun K hK => ?_) AllReadyH.nil
      rw [if_pos (by rfl)]
      refine wp_copyC rfl w1.heap.size i (N - i) (N - i) w1.heap.size 0 i N m (List.replicate i x ++ List.replicate (N - i) zeroK) (List.replicate m x) rfl rfl hB.out hm.out (by simp) hsrc (by simp <;> omega) ?_; intro w5 hB5 hk5
      refine hK.out _ _ ?_ (fun hHeld => ?_)
      · (try dsimp only); (first | done | trivial)
      clear hK K
      try simp only [Act.put, List.getElem_toArray, List.getElem_cons_succ, List.getElem_cons_zero, List.setIfInBounds_toArray, List.set_cons_zero, List.set_cons_succ]
      refine wpAnyH_take (i := 8) (v := ?_) rfl (by kernel_rfl) (by kernel_rfl) (by kernel_rfl) (fun _ _ _ h => h) (Or.inl ⟨by rfl, ?_⟩) (by assumption) ?_
      rotate_left
      · (intro wq hSw; (try dsimp only at hSw); go_simp; try with_reducible rfl)
      try simp only [Act.put, List.getElem_toArray, List.getElem_cons_succ, List.getElem_cons_zero, List.setIfInBounds_toArray, List.set_cons_zero, List.set_cons_succ]
      refine wpAnyH_take (i := 9) (v := ?_) rfl (by kernel_rfl) (by kernel_rfl) (by kernel_rfl) (fun _ _ _ h => h) (Or.inl ⟨by rfl, ?_⟩) (by assumption) ?_
      rotate_left
      · (intro wq hSw; (try dsimp only at hSw); go_simp; try with_reducible rfl)
      try simp only [Act.put, List.getElem_toArray, List.getElem_cons_succ, List.getElem_cons_zero, List.setIfInBounds_toArray, List.set_cons_zero, List.set_cons_succ]
      refine wpAnyH_done (by kernel_rfl) ?_ _
      have hB6 : Hid (CelBlk w5 w1.heap.size (List.replicate (i + m) x ++ List.replicate (N - (i + m)) zeroK)) := hide (by rw [← hnx]; exact hB5)
      have hk6 : Kept [] w1 w5 := hkr.drew.trans hk5 (by simp)
      clear hB5 hnx hsrc e1 e2
      go_wp2_with fail
      go_roundg (N - (i + m))
      case measure => omega
      case rel => exact ⟨i + m, by push_cast; rfl, by omega, by omega, Nat.le_refl _, hB6, hk6⟩
    · obtain rfl : i = N := by omega
      go_wp2_with fail
      go_ret
      refine ⟨some ⟨w1.heap.size, 0, none⟩, i, rfl, ?_, hkr⟩
      have h := hB.out
      rw [Nat.sub_self, List.replicate_zero, List.append_nil] at h
      have h2 := CelBlk.own h (Nat.le_refl _) (by simp [maxLen]; omega)
      rwa [List.length_replicate] at h2

/-- So many empty cells, in a slice of the call's own. -/
theorem emptyCells_any (N : Nat) (hN : N ≤ 2000) (w : World) :
    Calls Tryd.prog 50 #[.int .i64 (N : Int)] w fun e w' => ∃ a' c', e = .returned (.slice a' N c') ∧ Own w' w.heap.size 60 a' N c' 16 (cellsV (newL N)) ∧ Kept [] w w' := by
  have hBl := hide (fun w1 => Blank_any zeroP w1)
  go_enter Tryd.func50, Tryd.ntmps50
  go_wp2_with fail
  refine (hBl.out w).mono ?_
  rintro e w1 ⟨rfl, hk1⟩
  have hrd := (CelIn.new w1 eC).rd
  have hk2 : Kept [] w (w1.alloc (.cells #[.int .i32 eC.r, .int .i32 eC.m0, .int .i32 eC.m1, .int .i32 eC.m2, .int .i64 eC.w, .int .i64 eC.p.f.k, .int .u8 eC.p.f.i, .int .u8 eC.p.f.r, .int .u8 eC.p.f.g, .int .u8 eC.p.f.b, .int .i64 eC.p.b.k, .int .u8 eC.p.b.i, .int .u8 eC.p.b.r, .int .u8 eC.p.b.g, .int .u8 eC.p.b.b, .int .u8 eC.p.fl] 60)) := hk1.alloc _
  have hrep := hide (Repeat_one eC w1.heap.size 0 1 N hN _ hrd)
  clear hrd
  go_wp2_with fail
  refine hrep.out.mono ?_
  rintro e w3 ⟨a', c', rfl, ho3, hk3⟩
  go_wp2_with fail
  go_ret
  exact ⟨a', c', rfl, ho3.base hk2.size, hk2.trans hk3 (by simp)⟩
end Go.Proofs.YtkhdnaopdhnkaaaDoor
