/- The program's functions of layer 7: New, Push, Get, Pop. The program's functions of layer 7: Get, Pop. The program's functions of layer 7: Set, Drop. The program's functions of layer 7: Lines, Copy. -/
import Derived.Test.YtnkddhmhjnhgcaaGreatDoorSgA
import Derived.Test.YtnkddhmhjnhgcaaGreatDoorLnsMem
import Derived.Test.YtnkddhmhjnhgcaaGreatDoorQuick
namespace Go.Proofs.YtnkddhmhjnhgcaaGreatDoor
open Go.RowKit
set_option linter.unusedVariables false
set_option maxRecDepth 100000

section
variable {w : World} {b : Nat} {s : Sh} {a : Option Addr} {n c : Nat} {vs : List LnA}
theorem PgIs.ptr (h : PgIs w b s a n c vs) : PtrS w (some ⟨b, 0, none⟩) s.places s.gone a n c := .inr ⟨b, rfl, h.box⟩
theorem PgIs.keep {w' : World} (h : PgIs w b s a n c vs) (hk : Kept [] w w') : PgIs w' b s a n c vs := h.kept hk (by simp)
theorem made_pg (h : PgIs w b s a n c vs) : Calls Tryz.prog 65 #[.pointer (some ⟨b, 0, none⟩)] w fun e w' => e = .returned (.bool true) ∧ Kept [] w w' := made_any _ _ _ _ _ _ _ h.ptr true (by simp; have := h.p1; omega)
theorem room_pg (h : PgIs w b s a n c vs) : Calls Tryz.prog 71 #[.pointer (some ⟨b, 0, none⟩)] w fun e w' => e = .returned (.int .i64 (s.room : Nat)) ∧ Kept [] w w' := by
  have h1 := h.ok.1
  have h2 := h.llen
  have h3 := h.p2
  have e : ((s.room : Nat) : Int) = (s.places : Int) - (s.gone : Int) - (n : Int) := by unfold Sh.room; omega
  rw [e]
  exact Room_any _ _ _ _ _ _ _ h.ptr (by omega) (by omega) (by omega)
theorem len_pg (h : PgIs w b s a n c vs) : Calls Tryz.prog 57 #[.pointer (some ⟨b, 0, none⟩)] w fun e w' => e = .returned (.int .i64 (s.ls.length : Nat)) ∧ Kept [] w w' := by
  rw [h.llen]
  exact Len_any _ _ _ _ _ _ _ h.ptr
theorem cap_pg (h : PgIs w b s a n c vs) : Calls Tryz.prog 77 #[.pointer (some ⟨b, 0, none⟩)] w fun e w' => e = .returned (.int .i64 (s.places : Nat)) ∧ Kept [] w w' := Cap_any _ _ _ _ _ _ _ h.ptr
theorem gone_pg (h : PgIs w b s a n c vs) : Calls Tryz.prog 64 #[.pointer (some ⟨b, 0, none⟩)] w fun e w' => e = .returned (.int .i64 (s.gone : Nat)) ∧ Kept [] w w' := Gone_any _ _ _ _ _ _ _ h.ptr
end
def NewRet (k : Int) (w : World) (e : Ending) (w' : World) : Prop := Kept [] w w' ∧ ((1 ≤ k ∧ k ≤ 1024) → ∃ b B, e = .returned (.tuple #[.pointer (some ⟨b, 0, none⟩), .int .i64 0]) ∧ PG w' b ⟨k.toNat, 0, []⟩ B ∧ ∀ y ∈ B, w.heap.size ≤ y) ∧ (¬ (1 ≤ k ∧ k ≤ 1024) → e = .returned (.tuple #[.pointer none, .int .i64 2]))
set_option maxHeartbeats 1000000 in
theorem NewS_any (k : Int) (w : World) : Calls Tryz.prog 72 #[.int .i64 k] w (NewRet k w) := by
  by_cases h1 : k < 1
  · go_enter Tryz.func72, Tryz.ntmps72
    go_wp2_with fail
    refine bodyPost_ret (v := .tuple #[.pointer none, .int .i64 2]) (by simp [results, Tryz.results72, go_sem]) rfl ?_
    exact ⟨Kept.refl _ _, fun h => absurd h (by omega), fun _ => rfl⟩
  · by_cases h2 : k > 1024
    · go_enter Tryz.func72, Tryz.ntmps72
      go_wp2_with fail
      refine bodyPost_ret (v := .tuple #[.pointer none, .int .i64 2]) (by simp [results, Tryz.results72, go_sem]) rfl ?_
      exact ⟨Kept.refl _ _, fun h => absurd h (by omega), fun _ => rfl⟩
    · obtain ⟨m, rfl⟩ : ∃ m : Nat, k = m := ⟨k.toNat, by omega⟩
      have hb := SgIn.new w m 0 none 0 0
      have hk := (Kept.refl [] w).alloc (.cells #[.int .i64 m, .int .i64 0, .slice none 0 0] 102)
      go_enter Tryz.func72, Tryz.ntmps72
      go_wp2_with fail
      refine bodyPost_ret (v := .tuple #[.pointer (some ⟨w.heap.size, 0, none⟩), .int .i64 0]) (by simp [results, Tryz.results72, go_sem]) rfl ?_
      exact ⟨hk, fun _ => ⟨w.heap.size, [w.heap.size], rfl, PG.start _ _ m (by omega) (by omega) hb, by simp⟩, fun h => absurd ⟨by omega, by omega⟩ h⟩

theorem szLn' : ∀ w, (sizeOf (Tryz.prog.elem 30)).run Tryz.prog w = .ok 2 w := fun w => by kernel_rfl
/-- The field lines is read. -/
theorem wp_load_sgL {op : Oper} {A : Act} {w : World} {K : Act → World → Prop} {Q : Exit → Act → World → Prop} {x : Operand} (ho : op.op = .load 30 x) (b : Nat) (hx : A.eval x = .pointer (some ⟨b, 2, none⟩)) {p g : Int} {a : Option Addr} {n c : Nat} (hb : SgIn w b p g a n c)
    (h : K (A.put op.dst (.slice a n c)) w) : op.wp Tryz.prog A w K Q := by
  have hc := hb.at.2.2
  have hrun : (Instr.loadAt 30 (.pointer (some ⟨b, 2, none⟩))).run Tryz.prog w = .ok (.slice a n c) w := by
    have hq : (Tryz.prog.info? 30).map (·.size) = some 1 := by kernel_rfl
    go_simp
  unfold Oper.wp execOp
  simp only [ho, hx, Sem.run_bind, Sem.run_pure, Result.andThen_ok, hrun]
  exact h

set_option maxHeartbeats 4000000 in
theorem PushS_any (w : World) (b : Nat) (s : Sh) (a : Option Addr) (n c : Nat) (vs : List LnA) (h : PgIs w b s a n c vs) (a1 : Option Addr) (n1 c1 : Nat) (x : Ln) (ht : Tabs w) (hr1 : Rd w a1 n1 16 (cellsV x.l)) :
    Calls Tryz.prog 55 #[.pointer (some ⟨b, 0, none⟩), .agg #[.slice a1 n1 c1, .bool x.s]] w fun e w' => ∃ B', e = .returned (.int .i64 (pushS s x).2) ∧ PG w' b (pushS s x).1 B' ∧ Kept (pgB b a c vs) w w' ∧ ∀ y ∈ B', y ∈ pgB b a c vs ∨ w.heap.size ≤ y := by
  have hbad : ∀ (w' : World) (e : Ending) (z : Int), pushS s x = (s, z) → e = .returned (.int .i64 z) → Kept [] w w' → ∃ B', e = .returned (.int .i64 (pushS s x).2) ∧ PG w' b (pushS s x).1 B' ∧ Kept (pgB b a c vs) w w' ∧ ∀ y ∈ B', y ∈ pgB b a c vs ∨ w.heap.size ≤ y := fun w' e z he hz hk => ⟨pgB b a c vs, by rw [he, hz], by rw [he]; exact ⟨a, n, c, vs, h.keep hk, rfl⟩, hk.mono (by simp), fun y hy => .inl hy⟩
  replace hbad := hide hbad
  obtain ⟨W0, hW0⟩ : ∃ z : World, z = w.alloc (.cells #[.slice a1 n1 c1, .bool x.s] 36) := ⟨_, rfl⟩
  have hk0 : Kept [] w W0 := by rw [hW0]; exact (Kept.refl [] w).alloc _
  have hl0 : Hid (LinIn W0 w.heap.size a1 n1 c1 x.s) := hide (by rw [hW0]; exact LinIn.new w a1 n1 c1 x.s)
  have hM := hide (made_pg (h.keep hk0))
  have hV := hide (fun w1 (hk : Kept [] W0 w1) => ValidL_any a1 n1 c1 x.l x.s w1 (ht.kept (hk0.trans hk (by simp))) (hr1.kept (hk0.trans hk (by simp)) (by simp)))
  have hRo := hide (fun w1 (hk : Kept [] W0 w1) => room_pg (h.keep (hk0.trans hk (by simp))))
  have hR1 := hide hr1
  have hH := hide h
  clear ht hr1 h
  go_enter Tryz.func55, Tryz.ntmps55
  go_upto_region 1 with fail
  rw [← hW0]
  clear hW0
  go_wp2_with fail
  refine hM.out.mono ?_
  rintro e w1 ⟨rfl, hk1⟩
  obtain ⟨q0, q1⟩ := (hl0.out.kept hk1 (by simp)).at
  go_wp2_with fail
  refine (hV.out w1 hk1).mono ?_
  rintro e w2 ⟨rfl, hj2⟩
  have hk2 := hk1.trans hj2 (by simp)
  clear q0 q1
  by_cases hv : validL x.l = false
  · rw [hv]
    go_wp2_with fail
    go_ret
    exact hbad.out _ _ _ (by unfold pushS; rw [if_pos hv]) rfl (hk0.trans hk2 (by simp))
  · have hv' : validL x.l = true := by simpa using hv
    rw [hv']
    replace hv := hide hv
    have hvh := hide hv'
    clear hv'
    go_wp2_with fail
    refine (hRo.out w2 hk2).mono ?_
    rintro e w3 ⟨rfl, hj3⟩
    have hk3 := hk2.trans hj3 (by simp)
    by_cases hroom : s.room = 0
    · rw [hroom]
      go_wp2_with fail
      go_ret
      exact hbad.out _ _ _ (by unfold pushS; rw [if_neg hv.out, if_pos hroom]) rfl (hk0.trans hk3 (by simp))
    · have hrm : ((((s.room : Nat) : Int)) == 0) = false := by simp; omega
      have hrh := hide hroom
      clear hroom
      generalize s.room = m at hrm
      have hB : ∀ {w' : World}, Kept [] w3 w' → SgIn w' b s.places s.gone a n c := fun hk => hH.out.box.kept ((hk0.trans hk3 (by simp)).trans hk (by simp)) (by simp)
      have hF : ∀ {w' : World}, Kept [] w3 w' → w'.cell? ⟨w.heap.size, 0, none⟩ = some (.slice a1 n1 c1) ∧ w'.cell? ⟨w.heap.size, 1, none⟩ = some (.bool x.s) := fun hk => (hl0.out.kept (hk3.trans hk (by simp)) (by simp)).at
      have hw3 := hk0.trans hk3 (by simp)
      have hn1 : n1 ≤ 1000 := by have h1 := valid_len hvh.out; have h2 := hR1.out.clen; omega
      have hn : n ≤ 1024 := by have h1 := hH.out.ok.1; have h2 := hH.out.llen; have h3 := hH.out.p2; omega
      have hltC : ∀ y ∈ blkC a c, y < w.heap.size := hH.out.mid.lt (by decide)
      have hblt := hH.out.box.lt
      have hs3 := hw3.size
      have hCp := hide (fun w1 (hk : Kept [] w3 w1) => CopyL_any a1 n1 c1 x.l x.s w1 (hR1.out.kept (hw3.trans hk (by simp)) (by simp)) hn1)
      have hMd := hide (fun w1 (hk : Kept [] w3 w1) => hH.out.mid.kept (hw3.trans hk (by simp)) (by simp))
      go_upto_region 7 with fail
      refine wp_region_held_drew (S := (fun w' => w'.cell? ⟨w.heap.size, 0, none⟩ = some (.slice a1 n1 c1) ∧ w'.cell? ⟨w.heap.size, 1, none⟩ = some (.bool x.s))) (by kernel_rfl) ?_ (fun hHeld => ?_)
      · (try dsimp only); (first | exact hF7 | exact hF6 | exact hF k5 | exact hF k4 | exact hF (Kept.refl [] w3).drew)
      refine wpAnyH_take (i := 0) (v := ?_) rfl (by kernel_rfl) (by kernel_rfl) (by kernel_rfl) (fun _ _ _ h => h) (Or.inl ⟨by rfl, ?_⟩) (by assumption) ?_
      rotate_left
      · (intro wq hSw; (try dsimp only at hSw); go_simp; try with_reducible rfl)
      try simp only [Act.put, List.getElem_toArray, List.getElem_cons_zero, List.setIfInBounds_toArray, List.set_cons_zero, List.set_cons_succ]
      refine wpAnyH_take (i := 1) (v := ?_) rfl (by kernel_rfl) (by kernel_rfl) (by kernel_rfl) (fun _ _ _ h => h) (Or.inl ⟨by rfl, ?_⟩) (by assumption) ?_
      rotate_left
      · (intro wq hSw; (try dsimp only at hSw); go_simp; try with_reducible rfl)
      try simp only [Act.put, List.getElem_toArray, List.getElem_cons_succ, List.getElem_cons_zero, List.setIfInBounds_toArray, List.set_cons_zero, List.set_cons_succ]
      refine wpAnyH_take (i := 2) (v := ?_) rfl (by kernel_rfl) (by kernel_rfl) (by kernel_rfl) (fun _ _ _ h => h) (Or.inl ⟨by rfl, ?_⟩) (by assumption) ?_
      rotate_left
      · (intro wq hSw; (try dsimp only at hSw); go_simp; try with_reducible rfl)
      try simp only [Act.put, List.getElem_toArray, List.getElem_cons_succ, List.getElem_cons_zero, List.setIfInBounds_toArray, List.set_cons_zero, List.set_cons_succ]
      refine wpAnyH_take (i := 3) (v := ?_) rfl (by kernel_rfl) (by kernel_rfl) (by kernel_rfl) (fun _ _ _ h => h) (Or.inl ⟨by rfl, ?_⟩) (by assumption) ?_
      rotate_left
      · (intro wq hSw; (try dsimp only at hSw); go_simp; try with_reducible rfl)
      try simp only [Act.put, List.getElem_toArray, List.getElem_cons_succ, List.getElem_cons_zero, List.setIfInBounds_toArray, List.set_cons_zero, List.set_cons_succ]
      refine wpAnyH_take (i := 5) (v := ?_) rfl (by kernel_rfl) (by kernel_rfl) (by kernel_rfl) (fun _ _ _ h => h) (Or.inl ⟨by rfl, ?_⟩) (by assumption) ?_
      rotate_left
      · (intro wq hSw; (try dsimp only at hSw); go_simp; try with_reducible rfl)
      try simp only [Act.put, List.getElem_toArray, List.getElem_cons_succ, List.getElem_cons_zero, List.setIfInBounds_toArray, List.set_cons_zero, List.set_cons_succ]
      refine wpAnyH_ready (rs := [4, 6]) (by kernel_rfl) (by simp) ?_
      refine AllReadyH.cons rfl (fun K hK => ?_) (AllReadyH.cons rfl (fun K hK => ?_) AllReadyH.nil)
      · rw [if_pos (by rfl)]
        refine wp_load_sgL rfl b rfl (by first | exact hB k5 | exact hB k4 | exact hB (Kept.refl [] w3).drew) ?_
        refine hK.out _ _ ?_ (fun hHeld => ?_)
        · (try dsimp only); (first | exact hF7 | exact hF6 | exact hF k5 | exact hF k4 | exact hF (Kept.refl [] w3).drew)
        clear hK K
        try simp only [Act.put, List.getElem_toArray, List.getElem_cons_succ, List.getElem_cons_zero, List.setIfInBounds_toArray, List.set_cons_zero, List.set_cons_succ]
        refine wpAnyH_ready (rs := [6]) (by kernel_rfl) (by simp) ?_
        refine AllReadyH.cons rfl (fun K hK => ?_) AllReadyH.nil
        go_simp
        refine (hCp.out _ (Kept.refl [] w3).drew).mono ?_; rintro e w4 ⟨a4, n4, c4, rfl, ho4, h4a, h4b, hj4⟩; have k4 : Kept [] w3 w4 := (Kept.refl [] w3).drew.trans hj4 (by simp)
        try go_wp2_with fail
        refine hK.out _ _ ?_ (fun hHeld => ?_)
        · (try dsimp only); (first | exact hF7 | exact hF6 | exact hF k5 | exact hF k4 | exact hF (Kept.refl [] w3).drew)
        clear hK K
        try simp only [Act.put, List.getElem_toArray, List.getElem_cons_succ, List.getElem_cons_zero, List.setIfInBounds_toArray, List.set_cons_zero, List.set_cons_succ]
        refine wpAnyH_ready (rs := [7]) (by kernel_rfl) (by simp) ?_
        refine AllReadyH.cons rfl (fun K hK => ?_) AllReadyH.nil
        rw [if_pos (by rfl)]
        refine wp_bsLn 1 _ rfl [⟨a4, n4, c4, x.s⟩] rfl (by decide) (by decide) (by kernel_rfl) ?_; intro g5 w5 hg5 hr5 hj5; have k5 : Kept [] w3 w5 := k4.trans hj5 (by simp)
        refine hK.out _ _ ?_ (fun hHeld => ?_)
        · (try dsimp only); (first | exact hF7 | exact hF6 | exact hF k5 | exact hF k4 | exact hF (Kept.refl [] w3).drew)
        clear hK K
        try simp only [Act.put, List.getElem_toArray, List.getElem_cons_succ, List.getElem_cons_zero, List.setIfInBounds_toArray, List.set_cons_zero, List.set_cons_succ]
        refine wpAnyH_ready (rs := [8]) (by kernel_rfl) (by simp) ?_
        refine AllReadyH.cons rfl (fun K hK => ?_) AllReadyH.nil
        rw [if_pos (by rfl)]
        refine wp_app_mid ?_ elLine rfl rfl (hMd.out w5 k5) rfl hr5 (rowsV_oneCell rowLn _) (by decide) (by omega); intro a6 c6 w6 hm6 hj6 hat6; have hF6 := And.intro (hj6.cell (hF k5).1 (fun hm => by have := hltC _ hm; simp at this)) (hj6.cell (hF k5).2 (fun hm => by have := hltC _ hm; simp at this))
        refine hK.out _ _ ?_ (fun hHeld => ?_)
        · (try dsimp only); (first | exact hF7 | exact hF6 | exact hF k5 | exact hF k4 | exact hF (Kept.refl [] w3).drew)
        clear hK K
        try simp only [Act.put, List.getElem_toArray, List.getElem_cons_succ, List.getElem_cons_zero, List.setIfInBounds_toArray, List.set_cons_zero, List.set_cons_succ]
        refine wpAnyH_take (i := 9) (v := ?_) rfl (by kernel_rfl) (by kernel_rfl) (by kernel_rfl) (fun _ _ _ h => h) (Or.inl ⟨by rfl, ?_⟩) (by assumption) ?_
        rotate_left
        · (intro wq hSw; (try dsimp only at hSw); go_simp; try with_reducible rfl)
        try simp only [Act.put, List.getElem_toArray, List.getElem_cons_succ, List.getElem_cons_zero, List.setIfInBounds_toArray, List.set_cons_zero, List.set_cons_succ]
        refine wpAnyH_take (i := 10) (v := ?_) rfl (by kernel_rfl) (by kernel_rfl) (by kernel_rfl) (fun _ _ _ h => h) (Or.inl ⟨by rfl, ?_⟩) (by assumption) ?_
        rotate_left
        · (intro wq hSw; (try dsimp only at hSw); go_simp; try with_reducible rfl)
        try simp only [Act.put, List.getElem_toArray, List.getElem_cons_succ, List.getElem_cons_zero, List.setIfInBounds_toArray, List.set_cons_zero, List.set_cons_succ]
        refine wpAnyH_ready (rs := [11]) (by kernel_rfl) (by simp) ?_
        refine AllReadyH.cons rfl (fun K hK => ?_) AllReadyH.nil
        rw [if_pos (by rfl)]
        refine wp_store_sgL rfl rfl b rfl ((hB k5).kept hj6 hH.out.d1) a6 (n + 1) c6 rfl ?_; intro w7 hb7 hj7; have hF7 := And.intro (hj7.cell hF6.1 (by simp; omega)) (hj7.cell hF6.2 (by simp; omega))
        refine hK.out _ _ ?_ (fun hHeld => ?_)
        · (try dsimp only); (first | exact hF7 | exact hF6 | exact hF k5 | exact hF k4 | exact hF (Kept.refl [] w3).drew)
        clear hK K
        try simp only [Act.put, List.getElem_toArray, List.getElem_cons_succ, List.getElem_cons_zero, List.setIfInBounds_toArray, List.set_cons_zero, List.set_cons_succ]
        refine wpAnyH_done (by kernel_rfl) ?_ _
        go_wp2_with fail; go_ret; have hp := hH.out.pushed hvh.out hrh.out (show w.heap.size ≤ w3.drew.heap.size from hs3) ho4 (hw3.trans k4 (by simp)) hj5 (by rw [rowsV_app]; exact hm6) hj6 hat6 hb7 hj7; obtain ⟨B', p1, p2, p3⟩ := hp; exact ⟨B', by unfold pushS; rw [if_neg hv.out, if_neg hrh.out]; rfl, p1, p2, p3⟩
      · go_simp
        refine (hCp.out _ (Kept.refl [] w3).drew).mono ?_; rintro e w4 ⟨a4, n4, c4, rfl, ho4, h4a, h4b, hj4⟩; have k4 : Kept [] w3 w4 := (Kept.refl [] w3).drew.trans hj4 (by simp)
        try go_wp2_with fail
        refine hK.out _ _ ?_ (fun hHeld => ?_)
        · (try dsimp only); (first | exact hF7 | exact hF6 | exact hF k5 | exact hF k4 | exact hF (Kept.refl [] w3).drew)
        clear hK K
        try simp only [Act.put, List.getElem_toArray, List.getElem_cons_succ, List.getElem_cons_zero, List.setIfInBounds_toArray, List.set_cons_zero, List.set_cons_succ]
        refine wpAnyH_ready (rs := [4, 7]) (by kernel_rfl) (by simp) ?_
        refine AllReadyH.cons rfl (fun K hK => ?_) (AllReadyH.cons rfl (fun K hK => ?_) AllReadyH.nil)
        · rw [if_pos (by rfl)]
          refine wp_load_sgL rfl b rfl (by first | exact hB k5 | exact hB k4 | exact hB (Kept.refl [] w3).drew) ?_
          refine hK.out _ _ ?_ (fun hHeld => ?_)
          · (try dsimp only); (first | exact hF7 | exact hF6 | exact hF k5 | exact hF k4 | exact hF (Kept.refl [] w3).drew)
          clear hK K
          try simp only [Act.put, List.getElem_toArray, List.getElem_cons_succ, List.getElem_cons_zero, List.setIfInBounds_toArray, List.set_cons_zero, List.set_cons_succ]
          refine wpAnyH_ready (rs := [7]) (by kernel_rfl) (by simp) ?_
          refine AllReadyH.cons rfl (fun K hK => ?_) AllReadyH.nil
          rw [if_pos (by rfl)]
          refine wp_bsLn 1 _ rfl [⟨a4, n4, c4, x.s⟩] rfl (by decide) (by decide) (by kernel_rfl) ?_; intro g5 w5 hg5 hr5 hj5; have k5 : Kept [] w3 w5 := k4.trans hj5 (by simp)
          refine hK.out _ _ ?_ (fun hHeld => ?_)
          · (try dsimp only); (first | exact hF7 | exact hF6 | exact hF k5 | exact hF k4 | exact hF (Kept.refl [] w3).drew)
          clear hK K
          try simp only [Act.put, List.getElem_toArray, List.getElem_cons_succ, List.getElem_cons_zero, List.setIfInBounds_toArray, List.set_cons_zero, List.set_cons_succ]
          refine wpAnyH_ready (rs := [8]) (by kernel_rfl) (by simp) ?_
          refine AllReadyH.cons rfl (fun K hK => ?_) AllReadyH.nil
          rw [if_pos (by rfl)]
          refine wp_app_mid ?_ elLine rfl rfl (hMd.out w5 k5) rfl hr5 (rowsV_oneCell rowLn _) (by decide) (by omega); intro a6 c6 w6 hm6 hj6 hat6; have hF6 := And.intro (hj6.cell (hF k5).1 (fun hm => by have := hltC _ hm; simp at this)) (hj6.cell (hF k5).2 (fun hm => by have := hltC _ hm; simp at this))
          refine hK.out _ _ ?_ (fun hHeld => ?_)
          · (try dsimp only); (first | exact hF7 | exact hF6 | exact hF k5 | exact hF k4 | exact hF (Kept.refl [] w3).drew)
          clear hK K
          try simp only [Act.put, List.getElem_toArray, List.getElem_cons_succ, List.getElem_cons_zero, List.setIfInBounds_toArray, List.set_cons_zero, List.set_cons_succ]
          refine wpAnyH_take (i := 9) (v := ?_) rfl (by kernel_rfl) (by kernel_rfl) (by kernel_rfl) (fun _ _ _ h => h) (Or.inl ⟨by rfl, ?_⟩) (by assumption) ?_
          rotate_left
          · (intro wq hSw; (try dsimp only at hSw); go_simp; try with_reducible rfl)
          try simp only [Act.put, List.getElem_toArray, List.getElem_cons_succ, List.getElem_cons_zero, List.setIfInBounds_toArray, List.set_cons_zero, List.set_cons_succ]
          refine wpAnyH_take (i := 10) (v := ?_) rfl (by kernel_rfl) (by kernel_rfl) (by kernel_rfl) (fun _ _ _ h => h) (Or.inl ⟨by rfl, ?_⟩) (by assumption) ?_
          rotate_left
          · (intro wq hSw; (try dsimp only at hSw); go_simp; try with_reducible rfl)
          try simp only [Act.put, List.getElem_toArray, List.getElem_cons_succ, List.getElem_cons_zero, List.setIfInBounds_toArray, List.set_cons_zero, List.set_cons_succ]
          refine wpAnyH_ready (rs := [11]) (by kernel_rfl) (by simp) ?_
          refine AllReadyH.cons rfl (fun K hK => ?_) AllReadyH.nil
          rw [if_pos (by rfl)]
          refine wp_store_sgL rfl rfl b rfl ((hB k5).kept hj6 hH.out.d1) a6 (n + 1) c6 rfl ?_; intro w7 hb7 hj7; have hF7 := And.intro (hj7.cell hF6.1 (by simp; omega)) (hj7.cell hF6.2 (by simp; omega))
          refine hK.out _ _ ?_ (fun hHeld => ?_)
          · (try dsimp only); (first | exact hF7 | exact hF6 | exact hF k5 | exact hF k4 | exact hF (Kept.refl [] w3).drew)
          clear hK K
          try simp only [Act.put, List.getElem_toArray, List.getElem_cons_succ, List.getElem_cons_zero, List.setIfInBounds_toArray, List.set_cons_zero, List.set_cons_succ]
          refine wpAnyH_done (by kernel_rfl) ?_ _
          go_wp2_with fail; go_ret; have hp := hH.out.pushed hvh.out hrh.out (show w.heap.size ≤ w3.drew.heap.size from hs3) ho4 (hw3.trans k4 (by simp)) hj5 (by rw [rowsV_app]; exact hm6) hj6 hat6 hb7 hj7; obtain ⟨B', p1, p2, p3⟩ := hp; exact ⟨B', by unfold pushS; rw [if_neg hv.out, if_neg hrh.out]; rfl, p1, p2, p3⟩
        · rw [if_pos (by rfl)]
          refine wp_bsLn 1 _ rfl [⟨a4, n4, c4, x.s⟩] rfl (by decide) (by decide) (by kernel_rfl) ?_; intro g5 w5 hg5 hr5 hj5; have k5 : Kept [] w3 w5 := k4.trans hj5 (by simp)
          refine hK.out _ _ ?_ (fun hHeld => ?_)
          · (try dsimp only); (first | exact hF7 | exact hF6 | exact hF k5 | exact hF k4 | exact hF (Kept.refl [] w3).drew)
          clear hK K
          try simp only [Act.put, List.getElem_toArray, List.getElem_cons_succ, List.getElem_cons_zero, List.setIfInBounds_toArray, List.set_cons_zero, List.set_cons_succ]
          refine wpAnyH_ready (rs := [4]) (by kernel_rfl) (by simp) ?_
          refine AllReadyH.cons rfl (fun K hK => ?_) AllReadyH.nil
          rw [if_pos (by rfl)]
          refine wp_load_sgL rfl b rfl (by first | exact hB k5 | exact hB k4 | exact hB (Kept.refl [] w3).drew) ?_
          refine hK.out _ _ ?_ (fun hHeld => ?_)
          · (try dsimp only); (first | exact hF7 | exact hF6 | exact hF k5 | exact hF k4 | exact hF (Kept.refl [] w3).drew)
          clear hK K
          try simp only [Act.put, List.getElem_toArray, List.getElem_cons_succ, List.getElem_cons_zero, List.setIfInBounds_toArray, List.set_cons_zero, List.set_cons_succ]
          refine wpAnyH_ready (rs := [8]) (by kernel_rfl) (by simp) ?_
          refine AllReadyH.cons rfl (fun K hK => ?_) AllReadyH.nil
          rw [if_pos (by rfl)]
          refine wp_app_mid ?_ elLine rfl rfl (hMd.out w5 k5) rfl hr5 (rowsV_oneCell rowLn _) (by decide) (by omega); intro a6 c6 w6 hm6 hj6 hat6; have hF6 := And.intro (hj6.cell (hF k5).1 (fun hm => by have := hltC _ hm; simp at this)) (hj6.cell (hF k5).2 (fun hm => by have := hltC _ hm; simp at this))
          refine hK.out _ _ ?_ (fun hHeld => ?_)
          · (try dsimp only); (first | exact hF7 | exact hF6 | exact hF k5 | exact hF k4 | exact hF (Kept.refl [] w3).drew)
          clear hK K
          try simp only [Act.put, List.getElem_toArray, List.getElem_cons_succ, List.getElem_cons_zero, List.setIfInBounds_toArray, List.set_cons_zero, List.set_cons_succ]
          refine wpAnyH_take (i := 9) (v := ?_) rfl (by kernel_rfl) (by kernel_rfl) (by kernel_rfl) (fun _ _ _ h => h) (Or.inl ⟨by rfl, ?_⟩) (by assumption) ?_
          rotate_left
          · (intro wq hSw; (try dsimp only at hSw); go_simp; try with_reducible rfl)
          try simp only [Act.put, List.getElem_toArray, List.getElem_cons_succ, List.getElem_cons_zero, List.setIfInBounds_toArray, List.set_cons_zero, List.set_cons_succ]
          refine wpAnyH_take (i := 10) (v := ?_) rfl (by kernel_rfl) (by kernel_rfl) (by kernel_rfl) (fun _ _ _ h => h) (Or.inl ⟨by rfl, ?_⟩) (by assumption) ?_
          rotate_left
          · (intro wq hSw; (try dsimp only at hSw); go_simp; try with_reducible rfl)
          try simp only [Act.put, List.getElem_toArray, List.getElem_cons_succ, List.getElem_cons_zero, List.setIfInBounds_toArray, List.set_cons_zero, List.set_cons_succ]
          refine wpAnyH_ready (rs := [11]) (by kernel_rfl) (by simp) ?_
          refine AllReadyH.cons rfl (fun K hK => ?_) AllReadyH.nil
          rw [if_pos (by rfl)]
          refine wp_store_sgL rfl rfl b rfl ((hB k5).kept hj6 hH.out.d1) a6 (n + 1) c6 rfl ?_; intro w7 hb7 hj7; have hF7 := And.intro (hj7.cell hF6.1 (by simp; omega)) (hj7.cell hF6.2 (by simp; omega))
          refine hK.out _ _ ?_ (fun hHeld => ?_)
          · (try dsimp only); (first | exact hF7 | exact hF6 | exact hF k5 | exact hF k4 | exact hF (Kept.refl [] w3).drew)
          clear hK K
          try simp only [Act.put, List.getElem_toArray, List.getElem_cons_succ, List.getElem_cons_zero, List.setIfInBounds_toArray, List.set_cons_zero, List.set_cons_succ]
          refine wpAnyH_done (by kernel_rfl) ?_ _
          go_wp2_with fail; go_ret; have hp := hH.out.pushed hvh.out hrh.out (show w.heap.size ≤ w3.drew.heap.size from hs3) ho4 (hw3.trans k4 (by simp)) hj5 (by rw [rowsV_app]; exact hm6) hj6 hat6 hb7 hj7; obtain ⟨B', p1, p2, p3⟩ := hp; exact ⟨B', by unfold pushS; rw [if_neg hv.out, if_neg hrh.out]; rfl, p1, p2, p3⟩
end Go.Proofs.YtnkddhmhjnhgcaaGreatDoor
namespace Go.Proofs.YtnkddhmhjnhgcaaGreatDoor
open Go.RowKit
set_option linter.unusedVariables false
set_option maxRecDepth 100000

/-- One of the lines is stored. -/
theorem wpList_store_rowM {ops : Array Oper} {rest : List Oper} {op : Oper} {A : Act} {w : World} {Q : Exit → Act → World → Prop} {x y : Operand} (ho : op.op = .store 36 x y) (hgd : op.guard = none) (hd : op.dst = none) {g o n c : Nat} {vs : List LnA} (hm : Mid w (some ⟨g, o, none⟩) n c 2 (rowsV lnV vs)) (i : Nat) (hi : i < vs.length)
    (hx : A.eval x = .pointer (some ⟨g, o + i * 2, none⟩)) (v : LnA) (hy : A.eval y = .agg #[.slice v.a v.n v.c, .bool v.s]) (h : ∀ w', Mid w' (some ⟨g, o, none⟩) n c 2 (rowsV lnV (vs.set i v)) → Kept [g] w w' → wpList Tryz.prog ops Q rest A w') : wpList Tryz.prog ops Q (op :: rest) A w := by
  refine wpList_store_mid hgd 36 x y ho g (o + i * 2) #[.slice v.a v.n v.c, .bool v.s] hx hy (hm.thereAt rowLn i hi) (by kernel_rfl) (oneLin v.a v.n v.c v.s) ?_
  rw [hd]
  exact h _ (hm.setRow rowLn i hi v) (kept_setCells g _ _ _)
/-- What a function returns that returns a line of its own and a number. -/
def GetRet (s : Sh) (i : Int) (w : World) (e : Ending) (w' : World) : Prop := ∃ a n c, e = .returned (.tuple #[.agg #[.slice a n c, .bool (getS s i).1.s], .int .i64 (getS s i).2]) ∧ Own w' w.heap.size 86 a n c 16 (cellsV (getS s i).1.l) ∧ n ≤ c ∧ c ≤ maxLen ∧ Kept [] w w'
set_option maxHeartbeats 4000000 in
theorem GetS_any (w : World) (b : Nat) (s : Sh) (a : Option Addr) (n c : Nat) (vs : List LnA) (h : PgIs w b s a n c vs) (i : Int) :
    Calls Tryz.prog 58 #[.pointer (some ⟨b, 0, none⟩), .int .i64 i] w (GetRet s i w) := by
  obtain ⟨W0, hW0⟩ : ∃ z : World, z = w.alloc (.cells #[.slice none 0 0, .bool false] 36) := ⟨_, rfl⟩
  have hk0 : Kept [] w W0 := by rw [hW0]; exact (Kept.refl [] w).alloc _
  have hz0 : Hid (LinIn W0 w.heap.size none 0 0 false) := hide (by rw [hW0]; exact LinIn.new w none 0 0 false)
  have hM := hide (made_pg (h.keep hk0))
  have hl := h.llen
  have hvl := h.vlen
  by_cases hi : 0 ≤ i ∧ i < (n : Int)
  · have hHas := hide (fun w1 (hk : Kept [] W0 w1) => has_any b _ _ a n c i w1 (h.keep (hk0.trans hk (by simp))).box true (by simpa using hi))
    obtain ⟨d, rfl⟩ : ∃ d : Nat, i = d := ⟨i.toNat, by omega⟩
    have hdn : d < n := by omega
    have hdl : d < s.ls.length := by omega
    have hdv : d < vs.length := by omega
    obtain ⟨g, o, rfl⟩ := h.mid.rd.rowAddr rowLn (by omega)
    have hbox := hide (fun w1 (hk : Kept [] W0 w1) => (h.keep (hk0.trans hk (by simp))).box.at)
    have hrow := hide (fun w1 (hk : Kept [] W0 w1) => (h.keep (hk0.trans hk (by simp))).mid.rd.row rowLn d hdv)
    have hat := hide (fun w1 (hk : Kept [] W0 w1) => (h.keep (hk0.trans hk (by simp))).lns.get d hdv hdl)
    have hlen := hide (valid_len (h.ok.2 _ (List.getElem_mem hdl)))
    have hgd : getS s (d : Int) = (s.ls[d], 0) := by
      unfold getS
      rw [if_neg (by omega)]
      simp [hdl]
    unfold GetRet
    rw [hgd]
    clear hgd hi
    generalize s.ls[d] = y at *
    generalize vs[d] = v at *
    have hdi : (d : Int) < (n : Int) := by omega
    clear h
    go_enter Tryz.func58, Tryz.ntmps58
    go_upto_region 1 with fail
    rw [← hW0]
    clear hW0
    go_wp2_with fail
    refine hM.out.mono ?_
    rintro e w1 ⟨rfl, hk1⟩
    go_wp2_with fail
    refine (hHas.out w1 hk1).mono ?_
    rintro e w2 ⟨rfl, hj2⟩
    have hk2 := hk1.trans hj2 (by simp)
    obtain ⟨q0, q1, q2⟩ := hbox.out w2 hk2
    go_upto_region 5 with fail
    go_wp2_with (refine wpList_load_mid rfl 36 _ rfl g (o + d * 2) rfl (lnV v) _ (hrow.out w2 hk2) Tryz.underlying36 rfl (by kernel_rfl) ?_)
    have hA := hat.out w2 hk2
    refine (CopyL_any v.a v.n v.c y.l v.s w2 hA.rd (by rw [← hA.len]; exact hlen.out)).mono ?_
    rintro e w3 ⟨a3, n3, c3, rfl, ho3, h3a, h3b, hj3⟩
    have hk3 := hk2.trans hj3 (by simp)
    go_wp2_with (refine wpList_store_lin rfl rfl rfl w.heap.size rfl (hz0.out.kept hk3 (by simp)) a3 n3 c3 v.s rfl ?_; intro w7 hb7 hk7)
    refine bodyPost_ret (results_lin2 rfl rfl hb7 rfl) rfl ?_
    have hs0 := hz0.out.lt
    have hs2 := hk2.size
    refine ⟨a3, n3, c3, by rw [hA.s]; rfl, (ho3.base (by omega)).kept hk7 (fun y hy hm => ?_), h3a, h3b, (hk0.trans hk3 (by simp)).trans hk7 (by simp)⟩
    simp at hm
    have := (ho3.ge y hy).1
    omega
  · have hHas := hide (fun w1 (hk : Kept [] W0 w1) => has_any b _ _ a n c i w1 (h.keep (hk0.trans hk (by simp))).box false (by simpa using hi))
    have hgd : getS s i = (noLn, 3) := by unfold getS; rw [if_pos (by omega)]
    unfold GetRet
    rw [hgd]
    clear h hgd hi
    go_enter Tryz.func58, Tryz.ntmps58
    go_upto_region 1 with fail
    rw [← hW0]
    clear hW0
    go_wp2_with fail
    refine hM.out.mono ?_
    rintro e w1 ⟨rfl, hk1⟩
    go_wp2_with fail
    refine (hHas.out w1 hk1).mono ?_
    rintro e w2 ⟨rfl, hj2⟩
    have hk2 := hk1.trans hj2 (by simp)
    go_wp2_with (refine wpList_store_lin rfl rfl rfl w.heap.size rfl (hz0.out.kept hk2 (by simp)) none 0 0 false rfl ?_; intro w7 hb7 hk7)
    refine bodyPost_ret (results_lin2 rfl rfl hb7 rfl) rfl ?_
    exact ⟨none, 0, 0, rfl, Own.nil _ _ _ _, Nat.le_refl _, Nat.zero_le _, (hk0.trans hk2 (by simp)).trans hk7 (by simp)⟩

/-- What Pop returns: a line that the page has forgotten. -/
def PopRet (b : Nat) (s : Sh) (B : List Nat) (w : World) (e : Ending) (w' : World) : Prop := ∃ B' a n c, e = .returned (.tuple #[.agg #[.slice a n c, .bool (popS s).2.1.s], .int .i64 (popS s).2.2]) ∧ LnAt w' ⟨a, n, c, (popS s).2.1.s⟩ (popS s).2.1 ∧ OwnL w' ⟨a, n, c, (popS s).2.1.s⟩ ∧ (∀ y ∈ blk a, y ∉ B' ∧ (y ∈ B ∨ w.heap.size ≤ y)) ∧ PG w' b (popS s).1 B' ∧ Kept B w w' ∧ ∀ y ∈ B', y ∈ B ∨ w.heap.size ≤ y
set_option maxHeartbeats 4000000 in
theorem PopS_any (w : World) (b : Nat) (s : Sh) (a : Option Addr) (n c : Nat) (vs : List LnA) (h : PgIs w b s a n c vs) :
    Calls Tryz.prog 60 #[.pointer (some ⟨b, 0, none⟩)] w (PopRet b s (pgB b a c vs) w) := by
  obtain ⟨W0, hW0⟩ : ∃ z : World, z = w.alloc (.cells #[.slice none 0 0, .bool false] 36) := ⟨_, rfl⟩
  have hk0 : Kept [] w W0 := by rw [hW0]; exact (Kept.refl [] w).alloc _
  have hz0 : Hid (LinIn W0 w.heap.size none 0 0 false) := hide (by rw [hW0]; exact LinIn.new w none 0 0 false)
  have hM := hide (made_pg (h.keep hk0))
  have hl := h.llen
  have hvl := h.vlen
  have hbox := hide (fun w1 (hk : Kept [] W0 w1) => (h.keep (hk0.trans hk (by simp))).box)
  by_cases hn : n = 0
  · have hp : popS s = (s, noLn, 9) := by unfold popS; rw [if_pos (List.eq_nil_of_length_eq_zero (by omega))]
    have hH := hide h
    unfold PopRet
    rw [hp]
    subst hn
    clear h hp
    go_enter Tryz.func60, Tryz.ntmps60
    go_upto_region 1 with fail
    rw [← hW0]
    clear hW0
    go_wp2_with fail
    refine hM.out.mono ?_
    rintro e w1 ⟨rfl, hk1⟩
    obtain ⟨q0, q1, q2⟩ := (hbox.out w1 hk1).at
    go_wp2_with (refine wpList_store_lin rfl rfl rfl w.heap.size rfl (hz0.out.kept hk1 (by simp)) none 0 0 false rfl ?_; intro w7 hb7 hk7)
    refine bodyPost_ret (results_lin2 rfl rfl hb7 rfl) rfl ?_
    have hk : Kept [] w w7 := (hk0.trans hk1 (by simp)).trans hk7 (by simp)
    exact ⟨_, none, 0, 0, rfl, noA_at _, noA_own _, fun y hy => by simp [blk] at hy, ⟨a, 0, c, vs, hH.out.keep hk, rfl⟩, hk.mono (by simp), fun y hy => .inl hy⟩
  · have hne : s.ls ≠ [] := fun h0 => by rw [h0] at hl; simp at hl; omega
    have hp : popS s = (⟨s.places, s.gone, s.ls.dropLast⟩, s.ls.getLastD noLn, 0) := by unfold popS; rw [if_neg hne]
    have hdl : n - 1 < s.ls.length := by omega
    have hdv : n - 1 < vs.length := by omega
    have hlast : s.ls.getLastD noLn = s.ls[n - 1] := by
      rw [List.getLastD_eq_getLast?, List.getLast?_eq_getElem?, hl, List.getElem?_eq_getElem hdl, Option.getD_some]
    rw [hlast] at hp
    obtain ⟨g, o, rfl⟩ := h.mid.rd.rowAddr rowLn (by omega)
    have hH := hide h
    have hok := hide (by have := pop_ok h.ok; rw [hp] at this; exact this)
    have hrow := hide (fun w1 (hk : Kept [] W0 w1) => (h.keep (hk0.trans hk (by simp))).mid.rd.row rowLn (n - 1) hdv)
    have hmid := hide (fun w1 (hk : Kept [] w w1) => (h.keep hk).mid)
    have hat := hide (h.lns.get (n - 1) hdv hdl)
    have hvm := hide (List.getElem_mem hdv)
    have hc0 : c ≠ 0 := by have := h.mid.caps.1; omega
    have hvd : vs.dropLast = vs.take (n - 1) := by rw [List.dropLast_eq_take, hvl]
    have hld : s.ls.dropLast = s.ls.take (n - 1) := by rw [List.dropLast_eq_take, hl]
    have hsplit := hide (self_split hdv)
    have hap := hide h.d4
    unfold PopRet
    rw [hp]
    have hnn : (((n : Int)) == 0) = false := by simp; omega
    have hw1 : IntKind.i64.wrap ((n : Int) - 1) = ((n - 1 : Nat) : Int) := by rw [IntKind.wrap_i64]; have := hH.out.ok.1; have := hH.out.p2; omega
    have hw2 : wrap64 ((n : Int) - 1) = ((n - 1 : Nat) : Int) := by unfold wrap64; have := hH.out.ok.1; have := hH.out.p2; omega
    have hcut := hide (mid_slice_h (P := Tryz.prog) rowLn Tryz.underlying30 szLn' w _ n c (n - 1) vs h.mid (by omega))
    have hdi : ((n - 1 : Nat) : Int) < (n : Int) := by omega
    have hcutr := hcut.out.1
    have hnv := hide (rfl : (n - 1) = n - 1)
    clear h hp hlast
    generalize hyy : s.ls[n - 1] = y at *
    generalize hvv : vs[n - 1] = v at *
    replace hyy := hide hyy
    replace hvv := hide hvv
    replace hvd := hide hvd
    replace hld := hide hld
    replace hvl := hide hvl
    replace hl := hide hl
    generalize hmm : n - 1 = m at *
    replace hmm := hide hmm
    go_enter Tryz.func60, Tryz.ntmps60
    go_upto_region 1 with fail
    rw [← hW0]
    clear hW0
    go_wp2_with fail
    refine hM.out.mono ?_
    rintro e w1 ⟨rfl, hk1⟩
    obtain ⟨q0, q1, q2⟩ := (hbox.out w1 hk1).at
    go_upto_region 6 with fail
    go_upto_region 7 with (first | refine wpList_load_mid rfl 36 _ rfl g (o + m * 2) rfl (lnV v) _ (hrow.out w1 hk1) Tryz.underlying36 rfl (by kernel_rfl) ?_ | refine wpList_store_lin rfl rfl rfl w1.heap.size rfl (LinIn.new w1 none 0 0 false) v.a v.n v.c v.s rfl ?_; intro w2 hb2 hj2)
    have hh2 : Kept [] w1 w2 := ((Kept.refl [] w1).alloc (.cells #[.slice none 0 0, .bool false] 36)).trans hj2 (by simp)
    have hk2 := hk1.trans hh2 (by simp)
    have hw2 := hk0.trans hk2 (by simp)
    clear q0 q1 q2
    obtain ⟨q0, q1, q2⟩ := (hbox.out w2 hk2).at
    go_upto_region 8 with (refine wpList_store_rowM rfl rfl rfl (hmid.out w2 hw2) m hdv rfl noA rfl ?_; intro w3 hm3 hj3)
    have hbg : b ≠ g := fun e => hH.out.d1 (by unfold blkC; rw [if_neg hc0]; simp [blk, e])
    have hb3 := (hbox.out w2 hk2).kept hj3 (by simpa using hbg)
    have hs0 := hk0.size
    have hs2 := hw2.size
    have hgw : g < w.heap.size := hH.out.mid.lt (by decide) g (by unfold blkC; rw [if_neg hc0]; simp [blk])
    have hbw := hH.out.box.lt
    have hs1 := hk1.size
    have hl3 := hb2.kept hj3 (by simp; omega)
    clear q0 q1 q2
    obtain ⟨q0, q1, q2⟩ := hb3.at
    go_upto_region 9 with (refine wpList_store_sgL rfl rfl rfl b rfl hb3 (some ⟨g, o, none⟩) m c rfl ?_; intro w4 hb4 hj4)
    have hl4 := hl3.kept hj4 (by simp; omega)
    have hz1 : w.heap.size < W0.heap.size := hz0.out.lt
    have hz4 := ((hz0.out.kept hk2 (by simp)).kept hj3 (by simp; omega)).kept hj4 (by simp; omega)
    clear q0 q1 q2
    obtain ⟨q0, q1⟩ := hl4.at
    go_wp2_with (refine wpList_store_lin rfl rfl rfl w.heap.size rfl hz4 v.a v.n v.c v.s rfl ?_; intro w5 hb5 hj5)
    refine bodyPost_ret (results_lin2 rfl rfl hb5 rfl) rfl ?_
    have hC : blkC (some ⟨g, o, none⟩) c = [g] := by unfold blkC; rw [if_neg hc0]; rfl
    have hk3 : Kept [g] w w3 := (hw2.mono (by simp)).trans hj3 (fun y hy => .inl hy)
    have hk4 : Kept (b :: blkC (some ⟨g, o, none⟩) c) w w4 := by
      rw [hC]
      exact (hk3.mono (fun y hy => .inl (by simp at hy; simp [hy]))).trans hj4 (fun y hy => .inl (by simp at hy; simp [hy]))
    have hk5 : Kept (b :: blkC (some ⟨g, o, none⟩) c) w w5 := hk4.trans hj5 (fun y hy => .inr (by simp at hy; omega))
    have hm5 : Mid w5 (some ⟨g, o, none⟩) m c 2 (rowsV lnV vs.dropLast) := by
      have h1 := hcut.out.2 w3 _ hm3
      rw [List.take_set_of_le (Nat.le_refl _), ← hvd.out] at h1
      exact (h1.kept hj4 (fun y hy hm => by rw [hC] at hy; simp at hy hm; omega)).kept hj5 (fun y hy hm => by rw [hC] at hy; simp at hy hm; omega)
    have hb5' := hb4.kept hj5 (by simp; omega)
    have hpg : PgIs w5 b ⟨s.places, s.gone, s.ls.dropLast⟩ (some ⟨g, o, none⟩) m c vs.dropLast := hH.out.cut (List.dropLast_sublist _) (fun w' hw' => by
      show LnsAt w' vs.dropLast s.ls.dropLast
      rw [hvd.out, hld.out]
      exact hw'.take m) rfl hok.out (fun y hy => hy) hm5 hb5' hk5
    have hnotL : ∀ y ∈ blk v.a, y ∉ blkL vs.dropLast := fun y hy hm => by
      have h4 := hap.out
      unfold Apart at h4
      rw [hsplit.out, List.pairwise_append] at h4
      rw [hvd.out] at hm
      obtain ⟨u, hu, hm⟩ := blkL_mem.1 hm
      exact h4.2.2 u hu v (by simp) y hm hy
    have hinL : ∀ y ∈ blk v.a, y ∈ blkL vs := fun y hy => blkL_mem.2 ⟨v, hvm.out, hy⟩
    have hnS : ∀ y ∈ blk v.a, y ∉ b :: blkC (some ⟨g, o, none⟩) c := fun y hy hm => by
      rcases List.mem_cons.1 hm with rfl | hm
      · exact hH.out.d2 (hinL _ hy)
      · exact hH.out.d3 _ hm (hinL _ hy)
    have hvs : v.s = y.s := hat.out.s
    have hsub : ∀ z ∈ pgB b (some ⟨g, o, none⟩) c vs.dropLast, z ∈ pgB b (some ⟨g, o, none⟩) c vs := fun z hz => by
      rcases pgB_mem.1 hz with hz | hz | hz
      · exact pgB_mem.2 (.inl hz)
      · exact pgB_mem.2 (.inr (.inl hz))
      · exact pgB_mem.2 (.inr (.inr (blkL_sub (fun u hu => (List.dropLast_sublist _).subset hu) z hz)))
    refine ⟨pgB b (some ⟨g, o, none⟩) c vs.dropLast, v.a, v.n, v.c, by rw [hvs]; rfl, ?_, ?_, fun z hz => ⟨fun hm => ?_, .inl (pgB_mem.2 (.inr (.inr (hinL z hz))))⟩, ⟨_, m, c, _, hpg, rfl⟩, hk5.mono (fun z hz => .inl ?_), fun z hz => .inl (hsub z hz)⟩
    · have := hat.out.kept hk5 (fun z hz => hnS z (by unfold blkN at hz; split at hz; cases hz; exact hz))
      exact ⟨this.rd, rfl, this.nc, this.cm⟩
    · exact (hH.out.own v hvm.out).kept hk5 hnS
    · rcases pgB_mem.1 hm with rfl | hm | hm
      · exact hnS _ hz (by simp)
      · exact hnS _ hz (List.mem_cons_of_mem _ hm)
      · exact hnotL z hz hm
    · rcases List.mem_cons.1 hz with rfl | hz
      · exact pgB_mem.2 (.inl rfl)
      · exact pgB_mem.2 (.inr (.inl hz))
end Go.Proofs.YtnkddhmhjnhgcaaGreatDoor
namespace Go.Proofs.YtnkddhmhjnhgcaaGreatDoor
open Go.RowKit
set_option linter.unusedVariables false
set_option maxRecDepth 100000

theorem wp_store_rowM {op : Oper} {A : Act} {w : World} {K : Act → World → Prop} {Q : Exit → Act → World → Prop} {x y : Operand} (ho : op.op = .store 36 x y) (hd : op.dst = none) {g o n c : Nat} {vs : List LnA} (hm : Mid w (some ⟨g, o, none⟩) n c 2 (rowsV lnV vs)) (i : Nat) (hi : i < vs.length)
    (hx : A.eval x = .pointer (some ⟨g, o + i * 2, none⟩)) (v : LnA) (hy : A.eval y = .agg #[.slice v.a v.n v.c, .bool v.s]) (h : ∀ w', Mid w' (some ⟨g, o, none⟩) n c 2 (rowsV lnV (vs.set i v)) → Kept [g] w w' → K A w') : op.wp Tryz.prog A w K Q := by
  refine wp_store_mid 36 x y ho g (o + i * 2) #[.slice v.a v.n v.c, .bool v.s] hx hy (hm.thereAt rowLn i hi) (by kernel_rfl) (oneLin v.a v.n v.c v.s) ?_
  rw [hd]
  exact h _ (hm.setRow rowLn i hi v) (kept_setCells g _ _ _)
def SetRet (b : Nat) (r : Sh × Int) (B : List Nat) (w : World) (e : Ending) (w' : World) : Prop := ∃ B', e = .returned (.int .i64 r.2) ∧ PG w' b r.1 B' ∧ Kept B w w' ∧ ∀ y ∈ B', y ∈ B ∨ w.heap.size ≤ y
theorem PgIs.same {w w' : World} {b : Nat} {s : Sh} {a : Option Addr} {n c : Nat} {vs : List LnA} (h : PgIs w b s a n c vs) (z : Int) (hk : Kept [] w w') : SetRet b (s, z) (pgB b a c vs) w (.returned (.int .i64 z)) w' := ⟨pgB b a c vs, rfl, ⟨a, n, c, vs, h.keep hk, rfl⟩, hk.mono (by simp), fun y hy => .inl hy⟩

set_option maxHeartbeats 4000000 in
theorem SetS_any (w : World) (b : Nat) (s : Sh) (a : Option Addr) (n c : Nat) (vs : List LnA) (h : PgIs w b s a n c vs) (i : Int) (a1 : Option Addr) (n1 c1 : Nat) (x : Ln) (ht : Tabs w) (hr1 : Rd w a1 n1 16 (cellsV x.l)) :
    Calls Tryz.prog 48 #[.pointer (some ⟨b, 0, none⟩), .int .i64 i, .agg #[.slice a1 n1 c1, .bool x.s]] w (SetRet b (setS s i x) (pgB b a c vs) w) := by
  obtain ⟨W0, hW0⟩ : ∃ z : World, z = w.alloc (.cells #[.slice a1 n1 c1, .bool x.s] 36) := ⟨_, rfl⟩
  have hk0 : Kept [] w W0 := by rw [hW0]; exact (Kept.refl [] w).alloc _
  have hl0 : Hid (LinIn W0 w.heap.size a1 n1 c1 x.s) := hide (by rw [hW0]; exact LinIn.new w a1 n1 c1 x.s)
  have hM := hide (made_pg (h.keep hk0))
  have hl := h.llen
  have hV := hide (fun w1 (hk : Kept [] W0 w1) => ValidL_any a1 n1 c1 x.l x.s w1 (ht.kept (hk0.trans hk (by simp))) (hr1.kept (hk0.trans hk (by simp)) (by simp)))
  have hR1 := hide hr1
  have hsame := hide (fun (z : Int) w1 hk => h.same z (w' := w1) hk)
  clear ht hr1
  by_cases hv : validL x.l = false
  · have e0 : setS s i x = (s, 2) := by unfold setS; rw [if_pos hv]
    rw [e0]
    rw [hv] at hV
    clear h hl e0
    go_enter Tryz.func48, Tryz.ntmps48
    go_upto_region 1 with fail
    rw [← hW0]
    clear hW0
    go_wp2_with fail
    refine hM.out.mono ?_
    rintro e w1 ⟨rfl, hk1⟩
    obtain ⟨q0, q1⟩ := (hl0.out.kept hk1 (by simp)).at
    go_wp2_with fail
    refine (hV.out w1 hk1).mono ?_
    rintro e w2 ⟨rfl, hj2⟩
    go_wp2_with fail
    go_ret
    exact hsame.out 2 _ ((hk0.trans hk1 (by simp)).trans hj2 (by simp))
  · have hv' : validL x.l = true := by simpa using hv
    rw [hv'] at hV
    have hvh := hide hv'
    have hvn := hide hv
    clear hv hv'
    by_cases hi : 0 ≤ i ∧ i < (n : Int)
    · have hHas := hide (fun w1 (hk : Kept [] W0 w1) => has_any b _ _ a n c i w1 (h.keep (hk0.trans hk (by simp))).box true (by simpa using hi))
      obtain ⟨d, rfl⟩ : ∃ d : Nat, i = d := ⟨i.toNat, by omega⟩
      have hdn : d < n := by omega
      have hdv : d < vs.length := by rw [h.vlen]; exact hdn
      obtain ⟨g, o, rfl⟩ := h.mid.rd.rowAddr rowLn (by omega)
      have hdi : (d : Int) < (n : Int) := by omega
      have e0 : (setS s (d : Int) x).2 = 0 := by unfold setS; rw [if_neg hvn.out, if_neg (by omega)]
      have hH := hide h
      unfold SetRet
      rw [e0]
      generalize hpost : (setS s (d : Int) x).1 = s' at *
      replace hpost := hide hpost
      clear h hl e0 hi
      go_enter Tryz.func48, Tryz.ntmps48
      go_upto_region 1 with fail
      rw [← hW0]
      clear hW0
      go_wp2_with fail
      refine hM.out.mono ?_
      rintro e w1 ⟨rfl, hk1⟩
      obtain ⟨q0, q1⟩ := (hl0.out.kept hk1 (by simp)).at
      go_wp2_with fail
      refine (hV.out w1 hk1).mono ?_
      rintro e w2 ⟨rfl, hj2⟩
      have hk2 := hk1.trans hj2 (by simp)
      clear q0 q1
      go_wp2_with fail
      refine (hHas.out w2 hk2).mono ?_
      rintro e w3 ⟨rfl, hj3⟩
      have hk3 := hk2.trans hj3 (by simp)
      have hw3 := hk0.trans hk3 (by simp)
      have hs3 := hw3.size
      have hn1 : n1 ≤ 1000 := by have h1 := valid_len hvh.out; have h2 := hR1.out.clen; omega
      have hc0 : c ≠ 0 := by have := hH.out.mid.caps.1; omega
      have hC : blkC (some ⟨g, o, none⟩) c = [g] := by unfold blkC; rw [if_neg hc0]; rfl
      have hbg : b ≠ g := fun e => hH.out.d1 (by rw [hC, e]; simp)
      have hgw : g < w.heap.size := hH.out.mid.lt (by decide) g (by rw [hC]; simp)
      have hF : ∀ {w' : World}, Kept [] w3 w' → (w'.cell? ⟨w.heap.size, 0, none⟩ = some (.slice a1 n1 c1) ∧ w'.cell? ⟨w.heap.size, 1, none⟩ = some (.bool x.s)) ∧ w'.cell? ⟨b, 2, none⟩ = some (.slice (some ⟨g, o, none⟩) n c) := fun hk => ⟨(hl0.out.kept (hk3.trans hk (by simp)) (by simp)).at, (hH.out.box.kept (hw3.trans hk (by simp)) (by simp)).at.2.2⟩
      have hCp := hide (fun w1 (hk : Kept [] w3 w1) => CopyL_any a1 n1 c1 x.l x.s w1 (hR1.out.kept (hw3.trans hk (by simp)) (by simp)) hn1)
      have hMd := hide (fun w1 (hk : Kept [] w3 w1) => hH.out.mid.kept (hw3.trans hk (by simp)) (by simp))
      go_upto_region 7 with fail
      refine wp_region_held_drew (S := (fun w' => (w'.cell? ⟨w.heap.size, 0, none⟩ = some (.slice a1 n1 c1) ∧ w'.cell? ⟨w.heap.size, 1, none⟩ = some (.bool x.s)) ∧ w'.cell? ⟨b, 2, none⟩ = some (.slice (some ⟨g, o, none⟩) n c))) (by kernel_rfl) ?_ (fun hHeld => ?_)
      · (try dsimp only); (first | exact hF5 | exact hF k4 | exact hF (Kept.refl [] w3).drew)
      refine wpAnyH_take (i := 0) (v := ?_) rfl (by kernel_rfl) (by kernel_rfl) (by kernel_rfl) (fun _ _ _ h => h) (Or.inl ⟨by rfl, ?_⟩) (by assumption) ?_
      rotate_left
      · (intro wq hSw; (try dsimp only at hSw); go_simp; try with_reducible rfl)
      try simp only [Act.put, List.getElem_toArray, List.getElem_cons_zero, List.setIfInBounds_toArray, List.set_cons_zero, List.set_cons_succ]
      refine wpAnyH_take (i := 1) (v := ?_) rfl (by kernel_rfl) (by kernel_rfl) (by kernel_rfl) (fun _ _ _ h => h) (Or.inl ⟨by rfl, ?_⟩) (by assumption) ?_
      rotate_left
      · (intro wq hSw; (try dsimp only at hSw); go_simp; try with_reducible rfl)
      try simp only [Act.put, List.getElem_toArray, List.getElem_cons_succ, List.getElem_cons_zero, List.setIfInBounds_toArray, List.set_cons_zero, List.set_cons_succ]
      refine wpAnyH_take (i := 2) (v := ?_) rfl (by kernel_rfl) (by kernel_rfl) (by kernel_rfl) (fun _ _ _ h => h) (Or.inl ⟨by rfl, ?_⟩) (by assumption) ?_
      rotate_left
      · (intro wq hSw; (try dsimp only at hSw); go_simp; try with_reducible rfl)
      try simp only [Act.put, List.getElem_toArray, List.getElem_cons_succ, List.getElem_cons_zero, List.setIfInBounds_toArray, List.set_cons_zero, List.set_cons_succ]
      refine wpAnyH_take (i := 3) (v := ?_) rfl (by kernel_rfl) (by kernel_rfl) (by kernel_rfl) (fun _ _ _ h => h) (Or.inl ⟨by rfl, ?_⟩) (by assumption) ?_
      rotate_left
      · (intro wq hSw; (try dsimp only at hSw); go_simp; try with_reducible rfl)
      try simp only [Act.put, List.getElem_toArray, List.getElem_cons_succ, List.getElem_cons_zero, List.setIfInBounds_toArray, List.set_cons_zero, List.set_cons_succ]
      refine wpAnyH_take (i := 4) (v := ?_) rfl (by kernel_rfl) (by kernel_rfl) (by kernel_rfl) (fun _ _ _ h => h) (Or.inl ⟨by rfl, ?_⟩) (by assumption) ?_
      rotate_left
      · (intro wq hSw; (try dsimp only at hSw); go_simp; try with_reducible rfl)
      try simp only [Act.put, List.getElem_toArray, List.getElem_cons_succ, List.getElem_cons_zero, List.setIfInBounds_toArray, List.set_cons_zero, List.set_cons_succ]
      refine wpAnyH_take (i := 5) (v := ?_) rfl (by kernel_rfl) (by kernel_rfl) (by kernel_rfl) (fun _ _ _ h => h) (Or.inl ⟨by rfl, ?_⟩) (by assumption) ?_
      rotate_left
      · (intro wq hSw; (try dsimp only at hSw); go_simp; try with_reducible rfl)
      try simp only [Act.put, List.getElem_toArray, List.getElem_cons_succ, List.getElem_cons_zero, List.setIfInBounds_toArray, List.set_cons_zero, List.set_cons_succ]
      refine wpAnyH_ready (rs := [6]) (by kernel_rfl) (by simp) ?_
      refine AllReadyH.cons rfl (fun K hK => ?_) AllReadyH.nil
      go_simp
      refine (hCp.out _ (Kept.refl [] w3).drew).mono ?_; rintro e w4 ⟨a4, n4, c4, rfl, ho4, h4a, h4b, hj4⟩; have k4 : Kept [] w3 w4 := (Kept.refl [] w3).drew.trans hj4 (by simp)
      try go_wp2_with fail
      refine hK.out _ _ ?_ (fun hHeld => ?_)
      · (try dsimp only); (first | exact hF5 | exact hF k4 | exact hF (Kept.refl [] w3).drew)
      clear hK K
      try simp only [Act.put, List.getElem_toArray, List.getElem_cons_succ, List.getElem_cons_zero, List.setIfInBounds_toArray, List.set_cons_zero, List.set_cons_succ]
      refine wpAnyH_take (i := 7) (v := ?_) rfl (by kernel_rfl) (by kernel_rfl) (by kernel_rfl) (fun _ _ _ h => h) (Or.inl ⟨by rfl, ?_⟩) (by assumption) ?_
      rotate_left
      · (intro wq hSw; (try dsimp only at hSw); go_simp; try with_reducible rfl)
      try simp only [Act.put, List.getElem_toArray, List.getElem_cons_succ, List.getElem_cons_zero, List.setIfInBounds_toArray, List.set_cons_zero, List.set_cons_succ]
      refine wpAnyH_ready (rs := [8]) (by kernel_rfl) (by simp) ?_
      refine AllReadyH.cons rfl (fun K hK => ?_) AllReadyH.nil
      rw [if_pos (by rfl)]
      refine wp_store_rowM rfl rfl (hMd.out w4 k4) d hdv rfl ⟨a4, n4, c4, x.s⟩ rfl ?_; intro w5 hm5 hj5; have hF5 := And.intro (And.intro (hj5.cell (hF k4).1.1 (by simp; omega)) (hj5.cell (hF k4).1.2 (by simp; omega))) (hj5.cell (hF k4).2 (by simpa using hbg))
      refine hK.out _ _ ?_ (fun hHeld => ?_)
      · (try dsimp only); (first | exact hF5 | exact hF k4 | exact hF (Kept.refl [] w3).drew)
      clear hK K
      try simp only [Act.put, List.getElem_toArray, List.getElem_cons_succ, List.getElem_cons_zero, List.setIfInBounds_toArray, List.set_cons_zero, List.set_cons_succ]
      refine wpAnyH_done (by kernel_rfl) ?_ _
      go_wp2_with fail
      go_ret
      have hp := hH.out.setted hvh.out hdn (show w.heap.size ≤ w3.drew.heap.size from hs3) ho4 (hw3.trans k4 (by simp)) hm5 (by rw [hC]; exact hj5)
      rw [hpost.out] at hp
      obtain ⟨B', p1, p2, p3⟩ := hp
      exact ⟨B', rfl, p1, p2, p3⟩
    · have hHas := hide (fun w1 (hk : Kept [] W0 w1) => has_any b _ _ a n c i w1 (h.keep (hk0.trans hk (by simp))).box false (by simpa using hi))
      have e0 : setS s i x = (s, 3) := by unfold setS; rw [if_neg hvn.out, if_pos (by omega)]
      rw [e0]
      clear h hl e0 hi
      go_enter Tryz.func48, Tryz.ntmps48
      go_upto_region 1 with fail
      rw [← hW0]
      clear hW0
      go_wp2_with fail
      refine hM.out.mono ?_
      rintro e w1 ⟨rfl, hk1⟩
      obtain ⟨q0, q1⟩ := (hl0.out.kept hk1 (by simp)).at
      go_wp2_with fail
      refine (hV.out w1 hk1).mono ?_
      rintro e w2 ⟨rfl, hj2⟩
      have hk2 := hk1.trans hj2 (by simp)
      clear q0 q1
      go_wp2_with fail
      refine (hHas.out w2 hk2).mono ?_
      rintro e w3 ⟨rfl, hj3⟩
      have hk3 := hk2.trans hj3 (by simp)
      go_wp2_with fail
      go_ret
      exact hsame.out 3 _ (hk0.trans hk3 (by simp))

set_option maxHeartbeats 4000000 in
theorem DropS_any (w : World) (b : Nat) (s : Sh) (a : Option Addr) (n c : Nat) (vs : List LnA) (h : PgIs w b s a n c vs) (k : Int) :
    Calls Tryz.prog 61 #[.pointer (some ⟨b, 0, none⟩), .int .i64 k] w (SetRet b (dropS s k) (pgB b a c vs) w) := by
  have hM := hide (made_pg h)
  have hl := h.llen
  have hsame := hide (fun (z : Int) w1 hk => h.same z (w' := w1) hk)
  have hbox := hide (fun w1 (hk : Kept [] w w1) => (h.keep hk).box)
  by_cases hk0 : k < 0
  · have e0 : dropS s k = (s, 3) := by unfold dropS; rw [if_pos (by omega)]
    rw [e0]
    clear h hl e0
    go_enter Tryz.func61, Tryz.ntmps61
    go_wp2_with fail
    refine hM.out.mono ?_
    rintro e w1 ⟨rfl, hk1⟩
    obtain ⟨q0, q1, q2⟩ := (hbox.out w1 hk1).at
    go_wp2_with fail
    go_ret
    exact hsame.out 3 _ hk1
  · by_cases hkn : (n : Int) < k
    · have e0 : dropS s k = (s, 3) := by unfold dropS; rw [if_pos (by omega)]
      rw [e0]
      clear h hl e0
      go_enter Tryz.func61, Tryz.ntmps61
      go_wp2_with fail
      refine hM.out.mono ?_
      rintro e w1 ⟨rfl, hk1⟩
      obtain ⟨q0, q1, q2⟩ := (hbox.out w1 hk1).at
      go_wp2_with fail
      go_ret
      exact hsame.out 3 _ hk1
    · obtain ⟨d, rfl⟩ : ∃ d : Nat, k = d := ⟨k.toNat, by omega⟩
      have hdn : d ≤ n := by omega
      have hcp := h.mid.caps
      have hH := hide h
      have e0 : dropS s (d : Int) = (⟨s.places, s.gone + d, s.ls.drop d⟩, 0) := by unfold dropS; rw [if_neg (by omega)]; simp
      have hok := hide (by have := drop_ok (n := (d : Int)) h.ok; rw [e0] at this; exact this)
      obtain ⟨hcut1, _⟩ := mid_slice_h (P := Tryz.prog) rowLn Tryz.underlying30 szLn' w a n c d vs h.mid hdn
      obtain ⟨a2, hcut2, ha2, hmid2⟩ := mid_slice_l (P := Tryz.prog) rowLn Tryz.underlying30 szLn' a n c d hdn hcp.1 hcp.2
      have hgs : s.gone + d ≤ 1024 := by have h1 := h.ok.1; have h3 := h.p2; omega
      have hw1 : IntKind.i64.wrap ((s.gone : Int) + (d : Int)) = (s.gone : Int) + (d : Int) := by rw [IntKind.wrap_i64]; omega
      have hw2 : wrap64 ((s.gone : Int) + (d : Int)) = (s.gone : Int) + (d : Int) := by unfold wrap64; omega
      have hmid2 := hide hmid2
      rw [e0]
      clear h hl e0
      go_enter Tryz.func61, Tryz.ntmps61
      go_wp2_with fail
      refine hM.out.mono ?_
      rintro e w1 ⟨rfl, hk1⟩
      obtain ⟨q0, q1, q2⟩ := (hbox.out w1 hk1).at
      obtain ⟨w2, hcl, hm2, hj2⟩ := run_clear_mid (P := Tryz.prog) rowLn elLine Tryz.zeroValue36 (d := noA) rfl w1 a n c d vs (hH.out.mid.kept hk1 (by simp)) hdn
      go_upto_region 6 with fail
      have hb2 := (hbox.out w1 hk1).kept hj2 hH.out.d1
      clear q0 q1 q2
      obtain ⟨q0, q1, q2⟩ := hb2.at
      go_upto_region 7 with (refine wpList_store_sgL rfl rfl rfl b rfl hb2 a2 (n - d) (c - d) rfl ?_; intro w4 hb4 hj4)
      clear q0 q1 q2
      obtain ⟨q0, q1, q2⟩ := hb4.at
      have f1 := hb4.froz 1
      have hb5 := hide (hb4.setGone ((s.gone : Int) + (d : Int)))
      have hj5 := hide ((Kept.refl [b] w4).setCell (p := ⟨b, 1, none⟩) (.inl (by simp)) (.int .i64 ((s.gone : Int) + (d : Int))))
      go_wp2_with fail
      go_ret
      have hk4 : Kept (b :: blkC a c) w w4 := ((hk1.mono (by simp)).trans hj2 (fun y hy => .inl (List.mem_cons_of_mem _ hy))).trans hj4 (fun y hy => .inl (by simp at hy; simp [hy]))
      have hk5 := hk4.trans hj5.out (fun y hy => .inl (by simp at hy; simp [hy]))
      have hm4 := (hmid2.out w2 _ hm2).kept hj4 (fun y hy hm => by simp at hm; subst hm; exact hH.out.d1 (ha2 _ hy))
      have hm5 := hm4.kept hj5.out (fun y hy hm => by simp at hm; subst hm; exact hH.out.d1 (ha2 _ hy))
      rw [List.drop_append_of_le_length (by simp), List.drop_replicate, Nat.sub_self] at hm5
      have hpg : PgIs _ b ⟨s.places, s.gone + d, s.ls.drop d⟩ a2 (n - d) (c - d) (vs.drop d) := hH.out.cut (List.drop_sublist _ _) (fun w' hw' => hw'.drop d) rfl hok.out ha2 hm5 (by have := hb5.out; push_cast; exact this) hk5
      refine ⟨pgB b a2 (c - d) (vs.drop d), rfl, ⟨_, _, _, _, hpg, rfl⟩, hk5.mono (fun y hy => .inl ?_), fun y hy => .inl ?_⟩
      · rcases List.mem_cons.1 hy with rfl | hy
        · exact pgB_mem.2 (.inl rfl)
        · exact pgB_mem.2 (.inr (.inl hy))
      · rcases pgB_mem.1 hy with hy | hy | hy
        · exact pgB_mem.2 (.inl hy)
        · exact pgB_mem.2 (.inr (.inl (ha2 y hy)))
        · exact pgB_mem.2 (.inr (.inr (blkL_sub (fun u hu => (List.drop_sublist _ _).subset hu) y hy)))
end Go.Proofs.YtnkddhmhjnhgcaaGreatDoor
namespace Go.Proofs.YtnkddhmhjnhgcaaGreatDoor
open Go.RowKit
set_option linter.unusedVariables false
set_option maxRecDepth 100000

/-- What Lines returns: lines of the call's own, in a slice of its own. -/
structure Fresh (base : Nat) (w : World) (g n : Nat) (vs : List LnA) (ls : List Ln) : Prop where
  ge : base ≤ g
  mid : Mid w (some ⟨g, 0, none⟩) n n 2 (rowsV lnV vs)
  lns : LnsAt w vs ls
  own : ∀ v ∈ vs, ∃ x, Own w base 86 v.a v.n v.c 16 (cellsV x) ∧ x.length ≤ 1000
  d3 : ∀ v ∈ vs, g ∉ blk v.a
  d4 : Apart vs
def LinesRet (s : Sh) (w : World) (e : Ending) (w' : World) : Prop := ∃ g n vs, e = .returned (.slice (some ⟨g, 0, none⟩) n n) ∧ Fresh w.heap.size w' g n vs s.ls ∧ Kept [] w w'
theorem made_ln (n : Nat) : (madeCells (Value.agg #[.slice none 0 0, .bool false]).cells (n * 2)).toList = rowsV lnV (List.replicate n noA) := made_is (f := lnV) (k := 2) rowLn (d := noA) (cs := (Value.agg #[.slice none 0 0, .bool false]).cells) rfl n
set_option maxHeartbeats 4000000 in
theorem LinesS_any (w : World) (b : Nat) (s : Sh) (a : Option Addr) (n c : Nat) (vs : List LnA) (h : PgIs w b s a n c vs) :
    Calls Tryz.prog 70 #[.pointer (some ⟨b, 0, none⟩)] w (LinesRet s w) := by
  have hM := hide (made_pg h)
  have hl := hide h.llen
  have hvl := hide h.vlen
  have hn : n ≤ 1024 := by have h1 := h.ok.1; have h2 := h.llen; have h3 := h.p2; omega
  have hbox := hide (fun w1 (hk : Kept [] w w1) => (h.keep hk).box)
  have hR := hide (fun w1 (hk : Kept [] w w1) => h.keep hk)
  have hok := hide (fun x (hx : x ∈ s.ls) => valid_len (h.ok.2 x hx))
  clear h
  go_enter Tryz.func70, Tryz.ntmps70
  go_wp2_with fail
  refine hM.out.mono ?_
  rintro e w1 ⟨rfl, hk1⟩
  obtain ⟨q0, q1, q2⟩ := (hbox.out w1 hk1).at
  have hs1 := hk1.size
  go_upto_region 4 with (refine wpList_mkF (n := n) (base := w.heap.size) ?_ rfl elLine rfl rfl rfl rfl rfl (by omega) hs1; intro w2 ho2 hj2)
  have hk2 := hide (hk1.trans hj2 (by simp))
  have hm2 := hide (by have := ho2.mid; rw [made_ln] at this; exact this : Mid w2 (some ⟨w1.heap.size, 0, none⟩) n n 2 (rowsV lnV (List.replicate n noA)))
  have hge := hide (show w.heap.size ≤ w1.heap.size from hs1)
  have hglt := hide (show w1.heap.size < w2.heap.size from (ho2.ge _ (by simp [blk])).2)
  clear q0 q1 q2 ho2 hs1
  obtain ⟨q0, q1, q2⟩ := (hbox.out w2 hk2.out).at
  generalize w1.heap.size = g at *
  clear hM
  go_wp2_with fail
  go_loopg [4, 5, 20, 21, 22, 23, 24, 25, 26, 27, 28, 29, 30] n (fun kx s4 s5 s20 s21 s22 s23 s24 s25 s26 s27 s28 s29 s30 wr => ∃ k : Nat, s20 = .int .i64 k ∧ k ≤ n ∧ n - k ≤ kx ∧ Kept [] w wr ∧ Hid (g < wr.heap.size) ∧ Hid (∃ us : List LnA, us.length = k ∧ Mid wr (some ⟨g, 0, none⟩) n n 2 (rowsV lnV (us ++ List.replicate (n - k) noA)) ∧ LnsAt wr us (s.ls.take k) ∧ (∀ v ∈ us, ∃ x, Own wr w.heap.size 86 v.a v.n v.c 16 (cellsV x) ∧ x.length ≤ 1000) ∧ (∀ v ∈ us, g ∉ blk v.a) ∧ Apart us))
  case atStart => exact ⟨0, rfl, Nat.zero_le _, by omega, hk2.out, hglt, hide ⟨[], rfl, hm2.out, .nil, fun v hv => (by cases hv), fun v hv => (by cases hv), List.Pairwise.nil⟩⟩
  case round =>
    obtain ⟨k, rfl, hk, hg, hkr, hgr, hus⟩ := hrel
    by_cases hlt : k < n
    · have hkv : k < vs.length := by rw [hvl.out]; exact hlt
      have hkl : k < s.ls.length := by rw [hl.out]; exact hlt
      have hkn : (k : Int) < (n : Int) := by omega
      obtain ⟨gg, oo, rfl⟩ := (hR.out wr hkr).mid.rd.rowAddr rowLn (by rw [hvl.out]; omega)
      have hrow := hide (fun w1 (hk : Kept [] w w1) => (hR.out w1 hk).mid.rd.row rowLn k hkv)
      have hat := hide (fun w1 (hk : Kept [] w w1) => (hR.out w1 hk).lns.get k hkv hkl)
      have hlen := hide (hok.out _ (List.getElem_mem hkl))
      have htk := hide (List.take_succ_eq_append_getElem hkl : s.ls.take (k + 1) = s.ls.take k ++ [s.ls[k]])
      generalize s.ls[k] = y at *
      generalize vs[k] = v at *
      go_upto_region 6 with fail
      go_upto_region 7 with (first | refine wpList_load_mid rfl 36 _ rfl gg (oo + k * 2) rfl (lnV v) _ (hrow.out wr hkr) Tryz.underlying36 rfl (by kernel_rfl) ?_ | refine wpList_store_lin rfl rfl rfl wr.heap.size rfl (LinIn.new wr none 0 0 false) v.a v.n v.c v.s rfl ?_; intro w3 hb3 hj3)
      have hh3 : Kept [] wr w3 := ((Kept.refl [] wr).alloc (.cells #[.slice none 0 0, .bool false] 36)).trans hj3 (by simp)
      have hk3 := hkr.trans hh3 (by simp)
      obtain ⟨p0, p1⟩ := hb3.at
      have hA := hide (hat.out w3 hk3)
      go_wp2_with fail
      refine (CopyL_any v.a v.n v.c y.l v.s w3 hA.out.rd (by rw [← hA.out.len]; exact hlen.out)).mono ?_
      rintro e w4 ⟨a4, n4, c4, rfl, ho4, h4a, h4b, hj4⟩
      have hh4 := hh3.trans hj4 (by simp)
      have hk4 := hkr.trans hh4 (by simp)
      obtain ⟨us, u1, u2, u3, u4, u5, u6⟩ := hus.out
      have hm4 := u2.kept hh4 (by simp)
      have hkk : k < (us ++ List.replicate (n - k) noA).length := by rw [List.length_append, u1, List.length_replicate]; omega
      go_wp2_with (refine wpList_store_rowM rfl rfl rfl hm4 k hkk (by rw [Nat.zero_add]; rfl) ⟨a4, n4, c4, v.s⟩ rfl ?_; intro w5 hm5 hj5)
      go_roundg (n - (k + 1))
      case measure => omega
      case rel =>
        have hgr := hgr.out
        have hs4 := hh4.size
        have hsr := hkr.size
        have hge4 : ∀ y ∈ blk a4, wr.heap.size ≤ y := fun y hy => Nat.le_trans hh3.size (ho4.ge y hy).1
        have hk5 : Kept [g] wr w5 := (hh4.mono (by simp)).trans hj5 (fun y hy => .inl hy)
        have ho5 : Own w5 w.heap.size 86 a4 n4 c4 16 (cellsV y.l) := (ho4.base (Nat.le_trans hsr hh3.size)).kept hj5 (fun y hy hm => by simp at hm; have := hge4 y hy; omega)
        have hset : (us ++ List.replicate (n - k) noA).set k ⟨a4, n4, c4, v.s⟩ = (us ++ [⟨a4, n4, c4, v.s⟩]) ++ List.replicate (n - (k + 1)) noA := by
          rw [List.set_append_right _ _ (by omega), u1, Nat.sub_self, show n - k = (n - (k + 1)) + 1 by omega, List.replicate_succ, List.set_cons_zero, List.append_assoc]
          rfl
        rw [hset] at hm5
        have hnS : ∀ u ∈ us, ∀ z ∈ blk u.a, z ∉ [g] := fun u hu z hz hm => by simp at hm; subst hm; exact u5 u hu hz
        refine ⟨k + 1, by push_cast; rfl, by omega, Nat.le_refl _, hk4.trans hj5 (fun z hz => .inr (by simp at hz; subst hz; have := hge.out; omega)), hide (Nat.lt_of_lt_of_le hgr hk5.size), hide ⟨us ++ [⟨a4, n4, c4, v.s⟩], by simp [u1], hm5, ?_, fun u hu => ?_, fun u hu => ?_, ?_⟩⟩
        · rw [htk.out]
          refine (u3.kept hk5 (fun z hz => ?_)).app (.cons ⟨ho5.rd, hA.out.s, ho5.caps.1, ho5.caps.2⟩ .nil)
          obtain ⟨u, hu, hz⟩ := blkL_mem.1 (blks_L z hz)
          exact hnS u hu z hz
        · rcases List.mem_append.1 hu with hu | hu
          · obtain ⟨x, h1, h2⟩ := u4 u hu
            exact ⟨x, h1.kept hk5 (hnS u hu), h2⟩
          · simp only [List.mem_singleton] at hu
            subst hu
            exact ⟨y.l, ho5, hlen.out⟩
        · rcases List.mem_append.1 hu with hu | hu
          · exact u5 u hu
          · simp only [List.mem_singleton] at hu
            subst hu
            intro hm
            have := hge4 g hm
            omega
        · refine u6.app (Apart.one _) (fun z hz hm => ?_)
          rw [blkL_one] at hm
          obtain ⟨u, hu, hz⟩ := blkL_mem.1 hz
          obtain ⟨x, h1, _⟩ := u4 u hu
          have h2 := (h1.ge z hz).2
          have h3 := hge4 z hm
          omega
    · obtain rfl : k = n := by omega
      go_wp2_with fail
      go_ret
      obtain ⟨us, u1, u2, u3, u4, u5, u6⟩ := hus.out
      rw [Nat.sub_self, List.replicate_zero, List.append_nil] at u2
      rw [List.take_of_length_le (Nat.le_of_eq hl.out)] at u3
      exact ⟨g, k, us, rfl, ⟨hge.out, u2, u3, u4, u5, u6⟩, hkr⟩

def CopyRet (s : Sh) (w : World) (e : Ending) (w' : World) : Prop := ∃ b' B', e = .returned (.pointer (some ⟨b', 0, none⟩)) ∧ PG w' b' s B' ∧ (∀ y ∈ B', w.heap.size ≤ y) ∧ Kept [] w w'
set_option maxHeartbeats 4000000 in
theorem CopyS_any (w : World) (b : Nat) (s : Sh) (a : Option Addr) (n c : Nat) (vs : List LnA) (h : PgIs w b s a n c vs) :
    Calls Tryz.prog 53 #[.pointer (some ⟨b, 0, none⟩)] w (CopyRet s w) := by
  have hM := hide (made_pg h)
  have hbox := hide (fun w1 (hk : Kept [] w w1) => (h.keep hk).box)
  have hL := hide (fun w1 (hk : Kept [] w w1) => LinesS_any w1 b s a n c vs (h.keep hk))
  have hok := hide h.ok
  have hp1 := hide h.p1
  have hp2 := hide h.p2
  have hl := hide h.llen
  clear h
  go_enter Tryz.func53, Tryz.ntmps53
  go_wp2_with fail
  refine hM.out.mono ?_
  rintro e w1 ⟨rfl, hk1⟩
  go_upto_region 3 with fail
  have hF : ∀ {w' : World}, Kept [] w1 w' → w'.cell? ⟨b, 0, none⟩ = some (.int .i64 s.places) ∧ w'.cell? ⟨b, 1, none⟩ = some (.int .i64 s.gone) ∧ w'.cell? ⟨b, 2, none⟩ = some (.slice a n c) := fun hk => (hbox.out _ (hk1.trans hk (by simp))).at
  refine wp_region_held_drew (S := (fun w' => w'.cell? ⟨b, 0, none⟩ = some (.int .i64 s.places) ∧ w'.cell? ⟨b, 1, none⟩ = some (.int .i64 s.gone) ∧ w'.cell? ⟨b, 2, none⟩ = some (.slice a n c))) (by kernel_rfl) ?_ (fun hHeld => ?_)
  · (try dsimp only); (first | exact hF (k2.alloc _) | exact hF k2 | exact hF (Kept.refl [] w1).drew)
  refine wpAnyH_take (i := 0) (v := ?_) rfl (by kernel_rfl) (by kernel_rfl) (by kernel_rfl) (fun _ _ _ h => h) (Or.inl ⟨by rfl, ?_⟩) (by assumption) ?_
  rotate_left
  · (intro wq hSw; (try dsimp only at hSw); go_simp; try with_reducible rfl)
  try simp only [Act.put, List.getElem_toArray, List.getElem_cons_zero, List.setIfInBounds_toArray, List.set_cons_zero, List.set_cons_succ]
  refine wpAnyH_take (i := 1) (v := ?_) rfl (by kernel_rfl) (by kernel_rfl) (by kernel_rfl) (fun _ _ _ h => h) (Or.inl ⟨by rfl, ?_⟩) (by assumption) ?_
  rotate_left
  · (intro wq hSw; (try dsimp only at hSw); go_simp; try with_reducible rfl)
  try simp only [Act.put, List.getElem_toArray, List.getElem_cons_succ, List.getElem_cons_zero, List.setIfInBounds_toArray, List.set_cons_zero, List.set_cons_succ]
  refine wpAnyH_take (i := 2) (v := ?_) rfl (by kernel_rfl) (by kernel_rfl) (by kernel_rfl) (fun _ _ _ h => h) (Or.inl ⟨by rfl, ?_⟩) (by assumption) ?_
  rotate_left
  · (intro wq hSw; (try dsimp only at hSw); go_simp; try with_reducible rfl)
  try simp only [Act.put, List.getElem_toArray, List.getElem_cons_succ, List.getElem_cons_zero, List.setIfInBounds_toArray, List.set_cons_zero, List.set_cons_succ]
  refine wpAnyH_take (i := 3) (v := ?_) rfl (by kernel_rfl) (by kernel_rfl) (by kernel_rfl) (fun _ _ _ h => h) (Or.inl ⟨by rfl, ?_⟩) (by assumption) ?_
  rotate_left
  · (intro wq hSw; (try dsimp only at hSw); go_simp; try with_reducible rfl)
  try simp only [Act.put, List.getElem_toArray, List.getElem_cons_succ, List.getElem_cons_zero, List.setIfInBounds_toArray, List.set_cons_zero, List.set_cons_succ]
  refine wpAnyH_take (i := 4) (v := ?_) rfl (by kernel_rfl) (by kernel_rfl) (by kernel_rfl) (fun _ _ _ h => h) (Or.inl ⟨by rfl, ?_⟩) (by assumption) ?_
  rotate_left
  · (intro wq hSw; (try dsimp only at hSw); go_simp; try with_reducible rfl)
  try simp only [Act.put, List.getElem_toArray, List.getElem_cons_succ, List.getElem_cons_zero, List.setIfInBounds_toArray, List.set_cons_zero, List.set_cons_succ]
  refine wpAnyH_take (i := 5) (v := ?_) rfl (by kernel_rfl) (by kernel_rfl) (by kernel_rfl) (fun _ _ _ h => h) (Or.inl ⟨by rfl, ?_⟩) (by assumption) ?_
  rotate_left
  · (intro wq hSw; (try dsimp only at hSw); go_simp; try with_reducible rfl)
  try simp only [Act.put, List.getElem_toArray, List.getElem_cons_succ, List.getElem_cons_zero, List.setIfInBounds_toArray, List.set_cons_zero, List.set_cons_succ]
  refine wpAnyH_take (i := 6) (v := ?_) rfl (by kernel_rfl) (by kernel_rfl) (by kernel_rfl) (fun _ _ _ h => h) (Or.inl ⟨by rfl, ?_⟩) (by assumption) ?_
  rotate_left
  · (intro wq hSw; (try dsimp only at hSw); go_simp; try with_reducible rfl)
  try simp only [Act.put, List.getElem_toArray, List.getElem_cons_succ, List.getElem_cons_zero, List.setIfInBounds_toArray, List.set_cons_zero, List.set_cons_succ]
  refine wpAnyH_take (i := 7) (v := ?_) rfl (by kernel_rfl) (by kernel_rfl) (by kernel_rfl) (fun _ _ _ h => h) (Or.inl ⟨by rfl, ?_⟩) (by assumption) ?_
  rotate_left
  · (intro wq hSw; (try dsimp only at hSw); go_simp; try with_reducible rfl)
  try simp only [Act.put, List.getElem_toArray, List.getElem_cons_succ, List.getElem_cons_zero, List.setIfInBounds_toArray, List.set_cons_zero, List.set_cons_succ]
  refine wpAnyH_take (i := 8) (v := ?_) rfl (by kernel_rfl) (by kernel_rfl) (by kernel_rfl) (fun _ _ _ h => h) (Or.inl ⟨by rfl, ?_⟩) (by assumption) ?_
  rotate_left
  · (intro wq hSw; (try dsimp only at hSw); go_simp; try with_reducible rfl)
  try simp only [Act.put, List.getElem_toArray, List.getElem_cons_succ, List.getElem_cons_zero, List.setIfInBounds_toArray, List.set_cons_zero, List.set_cons_succ]
  refine wpAnyH_ready (rs := [9]) (by kernel_rfl) (by simp) ?_
  refine AllReadyH.cons rfl (fun K hK => ?_) AllReadyH.nil
  go_simp
  refine (hL.out _ (hk1.trans (Kept.refl [] w1).drew (by simp))).mono ?_; rintro e w2 ⟨g, m, us, rfl, hfr, hj2⟩; have k2 : Kept [] w1 w2 := (Kept.refl [] w1).drew.trans hj2 (by simp)
  try go_wp2_with fail
  refine hK.out _ _ ?_ (fun hHeld => ?_)
  · (try dsimp only); (first | exact hF (k2.alloc _) | exact hF k2 | exact hF (Kept.refl [] w1).drew)
  clear hK K
  try simp only [Act.put, List.getElem_toArray, List.getElem_cons_succ, List.getElem_cons_zero, List.setIfInBounds_toArray, List.set_cons_zero, List.set_cons_succ]
  refine wpAnyH_take (i := 10) (v := ?_) rfl (by kernel_rfl) (by kernel_rfl) (by kernel_rfl) (fun _ _ _ h => h) (Or.inl ⟨by rfl, ?_⟩) (by assumption) ?_
  rotate_left
  · (intro wq hSw; (try dsimp only at hSw); go_simp; try with_reducible rfl)
  try simp only [Act.put, List.getElem_toArray, List.getElem_cons_succ, List.getElem_cons_zero, List.setIfInBounds_toArray, List.set_cons_zero, List.set_cons_succ]
  refine wpAnyH_ready (rs := [11]) (by kernel_rfl) (by simp) ?_
  refine AllReadyH.cons rfl (fun K hK => ?_) AllReadyH.nil
  go_simp
  try go_wp2_with fail
  refine hK.out _ _ ?_ (fun hHeld => ?_)
  · (try dsimp only); (first | exact hF (k2.alloc _) | exact hF k2 | exact hF (Kept.refl [] w1).drew)
  clear hK K
  try simp only [Act.put, List.getElem_toArray, List.getElem_cons_succ, List.getElem_cons_zero, List.setIfInBounds_toArray, List.set_cons_zero, List.set_cons_succ]
  refine wpAnyH_take (i := 12) (v := ?_) rfl (by kernel_rfl) (by kernel_rfl) (by kernel_rfl) (fun _ _ _ h => h) (Or.inl ⟨by rfl, ?_⟩) (by assumption) ?_
  rotate_left
  · (intro wq hSw; (try dsimp only at hSw); go_simp; try with_reducible rfl)
  try simp only [Act.put, List.getElem_toArray, List.getElem_cons_succ, List.getElem_cons_zero, List.setIfInBounds_toArray, List.set_cons_zero, List.set_cons_succ]
  refine wpAnyH_done (by kernel_rfl) ?_ _
  go_wp2_with fail
  go_ret
  have hk3 := (Kept.refl [] w2).alloc (.cells #[.int .i64 s.places, .int .i64 s.gone, .slice (some ⟨g, 0, none⟩) m m] 102)
  have hbx := SgIn.new w2 s.places s.gone (some ⟨g, 0, none⟩) m m
  have hs1 := hk1.size
  have hs2 : w1.heap.size ≤ w2.heap.size := k2.size
  have hgC : ∀ y ∈ blkC (some ⟨g, 0, none⟩) m, y = g ∧ y < w2.heap.size := fun y hy => by
    have h1 := hfr.mid.lt (by decide) y hy
    unfold blkC at hy
    split at hy
    · cases hy
    · exact ⟨by simpa [blk] using hy, h1⟩
  have hgL : ∀ y ∈ blkL us, w1.heap.size ≤ y ∧ y < w2.heap.size := fun y hy => by
    obtain ⟨u, hu, hy⟩ := blkL_mem.1 hy
    obtain ⟨x, h1, _⟩ := hfr.own u hu
    exact h1.ge y hy
  have hge : w1.heap.size ≤ g := hfr.ge
  refine ⟨w2.heap.size, pgB w2.heap.size (some ⟨g, 0, none⟩) m us, rfl, ⟨_, _, _, us, ⟨hbx, hfr.mid.kept hk3 (by simp), hfr.lns.kept hk3 (by simp), fun v hv => ?_, fun hm => ?_, fun hm => ?_, fun y hy hm => ?_, hfr.d4, hok.out, hp1.out, hp2.out⟩, rfl⟩, fun y hy => ?_, (hk1.trans k2 (by simp)).trans hk3 (by simp)⟩
  · obtain ⟨x, h1, _⟩ := hfr.own v hv
    exact ⟨x, (h1.kept hk3 (by simp)).base (Nat.zero_le _)⟩
  · have := (hgC _ hm).2; omega
  · have := (hgL _ hm).2; omega
  · obtain ⟨u, hu, hm⟩ := blkL_mem.1 hm
    obtain ⟨rfl, _⟩ := hgC _ hy
    exact hfr.d3 u hu hm
  · rcases pgB_mem.1 hy with rfl | hy | hy
    · omega
    · have := (hgC _ hy).1; omega
    · have := (hgL _ hy).1; omega
end Go.Proofs.YtnkddhmhjnhgcaaGreatDoor
