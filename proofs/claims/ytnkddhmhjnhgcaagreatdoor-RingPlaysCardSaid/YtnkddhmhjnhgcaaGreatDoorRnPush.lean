/- The program's Push, Limit and Clear of layer 8. -/
import Derived.Test.YtnkddhmhjnhgcaaGreatDoorRnEvict
namespace Go.Proofs.YtnkddhmhjnhgcaaGreatDoor
open Go.RowKit
set_option linter.unusedVariables false
set_option maxRecDepth 100000

theorem PG.push {w : World} {b : Nat} {s : Sh} {B : List Nat} (h : PG w b s B) (a1 : Option Addr) (n1 c1 : Nat) (x : Ln) (ht : Tabs w) (hr1 : Rd w a1 n1 16 (cellsV x.l)) : Calls Tryz.prog 55 #[.pointer (some ⟨b, 0, none⟩), .agg #[.slice a1 n1 c1, .bool x.s]] w fun e w' => ∃ B', e = .returned (.int .i64 (pushS s x).2) ∧ PG w' b (pushS s x).1 B' ∧ Kept B w w' ∧ ∀ y ∈ B', y ∈ B ∨ w.heap.size ≤ y := by
  obtain ⟨a, n, c, vs, h, rfl⟩ := h
  exact PushS_any w b s a n c vs h a1 n1 c1 x ht hr1
theorem set_end {α : Type} (ts : List α) (q q' : α) : (ts ++ [q]).set ts.length q' = ts ++ [q'] := by simp
theorem get_end {α : Type} (ts : List α) (q : α) : (ts ++ [q])[ts.length]? = some q := by simp
/-- What Push returns. -/
def Push8Ret (b : Nat) (r : Rg) (x : Ln) (B : List Nat) (w : World) (e : Ending) (w' : World) : Prop := ∃ B', e = .returned (.tuple #[.int .i64 (if (pushG r x).2 = 0 then ((r.next : Nat) : Int) else 0), .int .i64 (pushG r x).2]) ∧ RN w' b (pushG r x).1 B' ∧ Kept B w w' ∧ ∀ y ∈ B', y ∈ B ∨ w.heap.size ≤ y
set_option maxHeartbeats 8000000 in
theorem Push8_any (w : World) (b : Nat) (r : Rg) (a : Option Addr) (n c : Nat) (ps : List PgX) (h : RnIs w b r a n c ps) (hle : r.ls.length ≤ r.limit) (hn : r.next ≤ 1000000000) (a1 : Option Addr) (n1 c1 : Nat) (x : Ln) (ht : Tabs w) (hr1 : Rd w a1 n1 16 (cellsV x.l)) (h2 : ∀ y ∈ rnB b a c ps, 2 ≤ y) (hd : ∀ y ∈ blkN a1 n1, y ∉ rnB b a c ps) :
    Calls Tryz.prog 34 #[.pointer (some ⟨b, 0, none⟩), .agg #[.slice a1 n1 c1, .bool x.s]] w (Push8Ret b r x (rnB b a c ps) w) := by
  obtain ⟨W0, hW0⟩ : ∃ z : World, z = w.alloc (.cells #[.slice a1 n1 c1, .bool x.s] 36) := ⟨_, rfl⟩
  have hk0 : Kept [] w W0 := by rw [hW0]; exact (Kept.refl [] w).alloc _
  have hl0 : Hid (LinIn W0 w.heap.size a1 n1 c1 x.s) := hide (by rw [hW0]; exact LinIn.new w a1 n1 c1 x.s)
  have hM := hide (made_rn (h.keep hk0))
  have hV := hide (fun w1 (hk : Kept [] W0 w1) => ValidL_any a1 n1 c1 x.l x.s w1 (ht.kept (hk0.trans hk (by simp))) (hr1.kept (hk0.trans hk (by simp)) (by simp)))
  have hll : r.ls.length ≤ 1048576 := by have := h.wf.l2; omega
  have hO := hide (fun w1 (hk : Kept [] W0 w1) => open8_any w1 b r a n c ps (h.keep (hk0.trans hk (by simp))) (by omega))
  have hH := hide h
  have hR1 := hide hr1
  have hT := hide ht
  have h2 := hide h2
  have hd := hide hd
  have hw0 : Hid (w.heap.size ∉ rnB b a c ps) := hide (fun hm => by have := h.lt _ hm; omega)
  clear h hr1 ht
  by_cases hv : validL x.l = false
  · have e0 : pushG r x = (r, 2) := by unfold pushG; rw [if_pos hv]
    have hfin : Hid (∀ w2, Kept [] w w2 → Push8Ret b r x (rnB b a c ps) w (.returned (.tuple #[.int .i64 0, .int .i64 2])) w2) := hide (fun w2 hk2 => by
      unfold Push8Ret
      rw [e0]
      exact ⟨rnB b a c ps, by simp, ⟨a, n, c, ps, hH.out.keep hk2, rfl, hle⟩, hk2.mono (by simp), fun y hy => .inl hy⟩)
    rw [hv] at hV
    clear e0
    go_enter Tryz.func34, Tryz.ntmps34
    go_upto_region 1 with fail
    rw [← hW0]
    clear hW0
    go_wp2_with fail
    refine hM.out.mono ?_
    rintro e w1 ⟨rfl, hk1⟩
    obtain ⟨q0, q1⟩ := (hl0.out.kept hk1 (by simp)).at
    go_wp2_with fail
    refine (hV.out w1 hk1).mono ?_
    rintro e w2 ⟨rfl, hj2⟩
    have hk2 := (hk0.trans hk1 (by simp)).trans hj2 (by simp)
    go_wp2_with fail
    refine bodyPost_ret (v := .tuple #[.int .i64 0, .int .i64 2]) (by simp [results, Tryz.results34, go_sem]) rfl ?_
    exact hfin.out _ hk2
  · have hv' : validL x.l = true := by simpa using hv
    rw [hv'] at hV
    have hvh := hide hv'
    have e0 := hide (show pushG r x = ((⟨r.limit, r.places, r.first, r.ls ++ [x], addP r.places r.ps⟩ : Rg).evict, 0) by unfold pushG; rw [if_neg hv])
    clear hv hv'
    have hF : ∀ {w' : World}, Kept [] W0 w' → w'.cell? ⟨w.heap.size, 0, none⟩ = some (.slice a1 n1 c1) ∧ w'.cell? ⟨w.heap.size, 1, none⟩ = some (.bool x.s) := fun hk => (hl0.out.kept hk (by simp)).at
    unfold Push8Ret
    rw [e0.out]
    rw [if_pos rfl]
    obtain ⟨X, hX⟩ : ∃ X : Nat, r.next = X := ⟨_, rfl⟩
    rw [hX]
    have hwX : IntKind.i64.wrap ((X : Int) + 1) = ((X + 1 : Nat) : Int) := by rw [IntKind.wrap_i64]; omega
    obtain ⟨Y, hY⟩ : ∃ Y : Nat, X + 1 = Y := ⟨_, rfl⟩
    rw [hY] at hwX
    replace hX := hide hX
    replace hY := hide hY
    go_enter Tryz.func34, Tryz.ntmps34
    go_upto_region 1 with fail
    rw [← hW0]
    clear hW0
    go_wp2_with fail
    refine hM.out.mono ?_
    rintro e w1 ⟨rfl, hk1⟩
    obtain ⟨q0, q1⟩ := (hl0.out.kept hk1 (by simp)).at
    go_wp2_with fail
    refine (hV.out w1 hk1).mono ?_
    rintro e w2 ⟨rfl, hj2⟩
    have hk2 := hk1.trans hj2 (by simp)
    clear q0 q1
    go_upto_region 5 with fail
    have hT2 := hide (fun w4 (hk : Kept (rnB b a c ps) w2.drew w4) => (hT.out.kept (hk0.trans hk2.drew (by simp))).kept2 hk h2.out)
    have hR2 := hide (fun w4 (hk : Kept (rnB b a c ps) w2.drew w4) => (hR1.out.kept (hk0.trans hk2.drew (by simp)) (by simp)).keptN hk hd.out)
    have hq0 : ∀ (ts : List PgX) (q : PgX) (a4 : Option Addr) (c4 : Nat), (∀ y ∈ rnB b a4 c4 (ts ++ [q]), y ∈ rnB b a c ps ∨ w2.drew.heap.size ≤ y) → w.heap.size ∉ q.B := fun ts q a4 c4 hnw hm => by
      have h1 := hl0.out.lt
      have h3 : W0.heap.size ≤ w2.drew.heap.size := hk2.size
      rcases hnw _ (rnB_mem.2 (.inr (.inr (blkP_mem.2 ⟨q, by simp, hm⟩)))) with h4 | h4
      · exact hw0.out h4
      · omega
    refine wp_region_held_drew (S := (fun w' => w'.cell? ⟨w.heap.size, 0, none⟩ = some (.slice a1 n1 c1) ∧ w'.cell? ⟨w.heap.size, 1, none⟩ = some (.bool x.s))) (by kernel_rfl) ?_ (fun hHeld => ?_)
    · (try dsimp only); (first | exact hF5 | exact hF4 | exact hF hk2.drew)
    refine wpAnyH_take (i := 0) (v := ?_) rfl (by kernel_rfl) (by kernel_rfl) (by kernel_rfl) (fun _ _ _ h => h) (Or.inl ⟨by rfl, ?_⟩) (by assumption) ?_
    rotate_left
    · (intro wq hSw; (try dsimp only at hSw); go_simp; try with_reducible rfl)
    try simp only [Act.put, List.getElem_toArray, List.getElem_cons_zero, List.setIfInBounds_toArray, List.set_cons_zero, List.set_cons_succ]
    refine wpAnyH_take (i := 2) (v := ?_) rfl (by kernel_rfl) (by kernel_rfl) (by kernel_rfl) (fun _ _ _ h => h) (Or.inl ⟨by rfl, ?_⟩) (by assumption) ?_
    rotate_left
    · (intro wq hSw; (try dsimp only at hSw); go_simp; try with_reducible rfl)
    try simp only [Act.put, List.getElem_toArray, List.getElem_cons_succ, List.getElem_cons_zero, List.setIfInBounds_toArray, List.set_cons_zero, List.set_cons_succ]
    refine wpAnyH_ready (rs := [1]) (by kernel_rfl) (by simp) ?_
    refine AllReadyH.cons rfl (fun K hK => ?_) AllReadyH.nil
    go_simp
    refine (hO.out _ hk2.drew).mono ?_; rintro e w4 ⟨ts, q, a4, n4, c4, rfl, hraw, hop, hkp, hnw⟩; have hF4 := And.intro (hkp.cell (hF hk2.drew).1 hw0.out) (hkp.cell (hF hk2.drew).2 hw0.out)
    try go_wp2_with fail
    refine hK.out _ _ ?_ (fun hHeld => ?_)
    · (try dsimp only); (first | exact hF5 | exact hF4 | exact hF hk2.drew)
    clear hK K
    try simp only [Act.put, List.getElem_toArray, List.getElem_cons_succ, List.getElem_cons_zero, List.setIfInBounds_toArray, List.set_cons_zero, List.set_cons_succ]
    refine wpAnyH_ready (rs := [3]) (by kernel_rfl) (by simp) ?_
    refine AllReadyH.cons rfl (fun K hK => ?_) AllReadyH.nil
    go_simp
    refine ((hraw.pgs q (by simp)).push a1 n1 c1 x (hT2.out w4 hkp) (hR2.out w4 hkp)).mono ?_; rintro e w5 ⟨B', rfl, p1, p2, p3⟩; have hF5 : w5.cell? ⟨w.heap.size, 0, none⟩ = some (.slice a1 n1 c1) ∧ w5.cell? ⟨w.heap.size, 1, none⟩ = some (.bool x.s) := And.intro (p2.cell hF4.1 (hq0 ts q a4 c4 hnw)) (p2.cell hF4.2 (hq0 ts q a4 c4 hnw))
    try go_wp2_with fail
    refine hK.out _ _ ?_ (fun hHeld => ?_)
    · (try dsimp only); (first | exact hF5 | exact hF4 | exact hF hk2.drew)
    clear hK K
    try simp only [Act.put, List.getElem_toArray, List.getElem_cons_succ, List.getElem_cons_zero, List.setIfInBounds_toArray, List.set_cons_zero, List.set_cons_succ]
    refine wpAnyH_done (by kernel_rfl) ?_ _
    have eP : pushS q.s x = (⟨q.s.places, q.s.gone, q.s.ls ++ [x]⟩, 0) := by unfold pushS; rw [if_neg (by simp [hvh.out]), if_neg hop.room]
    have p1' : PG w5 q.b ⟨q.s.places, q.s.gone, q.s.ls ++ [x]⟩ B' := by have := p1; rw [eP] at this; exact this
    have hP : Paged w4 w5 (ts ++ [q]) ts.length q B' ⟨q.s.places, q.s.gone, q.s.ls ++ [x]⟩ := ⟨p1', p2, p3⟩
    have raw5 := hraw.paged (get_end ts q) hP rfl
    obtain ⟨n5a, n5b⟩ := RnIs.paged_nw (b := b) (a := a4) (c := c4) (get_end ts q) hP
    rw [set_end] at raw5 n5b
    have hb5 := raw5.box
    rw [hX.out] at hb5
    have raw5 := hide raw5
    have hk24 : Kept [] w w2.drew := hk0.trans hk2.drew (by simp)
    have hs2 := hk24.size
    have hs4 := hkp.size
    have hk5 : Hid (Kept (rnB b a c ps) w w5) := hide (((hk24.mono (by simp)).trans hkp (fun y hy => .inl hy)).trans n5a (fun y hy => (hnw y hy).imp id (fun h => by omega)))
    have hnw5 : Hid (∀ y ∈ rnB b a4 c4 (ts ++ [⟨q.b, ⟨q.s.places, q.s.gone, q.s.ls ++ [x]⟩, B'⟩]), y ∈ rnB b a c ps ∨ w.heap.size ≤ y) := hide (fun y hy => by
      rcases n5b y hy with h1 | h1
      · exact (hnw y h1).imp id (fun h => by omega)
      · exact .inr (by omega))
    have hop := hide hop
    obtain ⟨q0, q1, q2, q3, q4⟩ := hb5.at
    have f3 := hb5.froz 3
    go_upto_region 8 with fail
    have hb6 := hb5.setX ((Y : Nat) : Int)
    have j6 : Kept [b] w5 (w5.setCell ⟨b, 3, none⟩ (.int .i64 ((Y : Nat) : Int))) := (Kept.refl _ _).setCell (.inl (by simp)) _
    clear q0 q1 q2 q3 q4 f3 p1 p1' p2 p3 hP eP
    generalize w5.setCell ⟨b, 3, none⟩ (.int .i64 ((Y : Nat) : Int)) = w6 at *
    have hI6 : RnIs w6 b ⟨r.limit, r.places, r.first, r.ls ++ [x], addP r.places r.ps⟩ a4 n4 c4 (ts ++ [⟨q.b, ⟨q.s.places, q.s.gone, q.s.ls ++ [x]⟩, B'⟩]) := by
      refine ⟨?_, ?_, ?_, hH.out.wf.add hvh.out⟩
      · have e1 : (⟨r.limit, r.places, r.first, r.ls ++ [x], addP r.places r.ps⟩ : Rg).next = Y := by
          have := hX.out
          have := hY.out
          unfold Rg.next at *
          simp only [List.length_append, List.length_cons, List.length_nil]
          omega
        rw [e1]
        exact raw5.out.boxed hb6 j6 (fun y hy => by simpa using hy)
      · rw [shs_app, lnsS_app, lnsS_one]
        show lnsS (shs ts) ++ (q.s.ls ++ [x]) = r.ls ++ [x]
        rw [← List.append_assoc, hop.out.ls]
      · rw [shs_app, List.map_append, List.map_singleton]
        exact hop.out.pa _ rfl (by simp)
    have hE := hide (evict8_any w6 b _ a4 n4 c4 _ hI6 (by have := hX.out; unfold Rg.next at *; simp only [List.length_append, List.length_cons, List.length_nil]; omega) (by simp only [List.length_append, List.length_cons, List.length_nil]; omega))
    clear hI6
    go_wp2_with fail
    refine hE.out.mono ?_
    rintro e w7 ⟨B7, rfl, r1, r2, r3⟩
    go_wp2_with fail
    refine bodyPost_ret (v := .tuple #[.int .i64 ((X : Nat) : Int), .int .i64 0]) (by simp [results, Tryz.results34, go_sem]) rfl ?_
    have hk6 : Kept (rnB b a c ps) w w6 := hk5.out.trans j6 (fun y hy => by simp at hy; subst hy; exact .inl (rnB_mem.2 (.inl rfl)))
    have hs6 := hk6.size
    refine ⟨B7, rfl, r1, hk6.trans r2 (fun y hy => hnw5.out y hy), fun y hy => ?_⟩
    rcases r3 y hy with h1 | h1
    · exact hnw5.out y h1
    · exact .inr (by omega)
set_option maxHeartbeats 4000000 in
theorem Limit8_any (w : World) (b : Nat) (r : Rg) (a : Option Addr) (n c : Nat) (ps : List PgX) (h : RnIs w b r a n c ps) (hle : r.ls.length ≤ r.limit) (hn : r.next ≤ 1000000000) (k : Int) :
    Calls Tryz.prog 20 #[.pointer (some ⟨b, 0, none⟩), .int .i64 k] w (Rng8 b (limitG r k) (rnB b a c ps) w) := by
  have hM := hide (made_rn h)
  have hsame := hide (fun (z : Int) w1 hk => h.same hle z (w' := w1) hk)
  have hl2 := h.wf.l2
  by_cases h0 : 0 ≤ k ∧ k ≤ 1048576
  · have e0 : limitG r k = ((⟨k.toNat, r.places, r.first, r.ls, r.ps⟩ : Rg).evict, 0) := by unfold limitG; rw [if_neg (by omega)]
    obtain ⟨K, rfl⟩ : ∃ K : Nat, k = K := ⟨k.toNat, by omega⟩
    have hV := hide (fun w1 => validLimit8_any (K : Int) w1 true (by simpa using h0))
    rw [e0]
    rw [show ((K : Int)).toNat = K from rfl]
    have hH := hide h
    have h0 := hide h0
    clear h e0
    go_enter Tryz.func20, Tryz.ntmps20
    go_wp2_with fail
    refine hM.out.mono ?_
    rintro e w1 ⟨rfl, hk1⟩
    go_wp2_with fail
    refine (hV.out w1).mono ?_
    rintro e w2 ⟨rfl, hj2⟩
    have hk2 := hk1.trans hj2 (by simp)
    have hb2 := hH.out.box.kept hk2 (by simp)
    obtain ⟨q0, q1, q2, q3, q4⟩ := hb2.at
    have f0 := hb2.froz 0
    go_upto_region 6 with fail
    have hb6 := hb2.setM ((K : Nat) : Int)
    have j6 : Kept [b] w2 (w2.setCell ⟨b, 0, none⟩ (.int .i64 ((K : Nat) : Int))) := (Kept.refl _ _).setCell (.inl (by simp)) _
    clear q0 q1 q2 q3 q4 f0
    generalize w2.setCell ⟨b, 0, none⟩ (.int .i64 ((K : Nat) : Int)) = w6 at *
    have hI6 : RnIs w6 b ⟨K, r.places, r.first, r.ls, r.ps⟩ a n c ps := by
      have hh := hH.out
      have hh2 := (hh.keep hk2).toRnRaw.boxed hb6 j6 (fun y hy => by simpa using hy)
      exact ⟨hh2, hh.ls, hh.pa, ⟨hh.wf.p1, hh.wf.p2, by have := h0.out; show K ≤ 1048576; omega, hh.wf.sum, hh.wf.full, hh.wf.val⟩⟩
    have hE := hide (evict8_any w6 b _ a n c ps hI6 (by unfold Rg.next at *; simp only; omega) (by simp only; omega))
    clear hI6
    go_wp2_with fail
    refine hE.out.mono ?_
    rintro e w7 ⟨B7, rfl, r1, r2, r3⟩
    go_wp2_with fail
    go_ret
    have hk6 : Kept (rnB b a c ps) w w6 := (hk2.mono (by simp)).trans j6 (fun y hy => by simp at hy; subst hy; exact .inl (rnB_mem.2 (.inl rfl)))
    have hs6 := hk6.size
    exact ⟨B7, rfl, r1, hk6.trans r2 (fun y hy => .inl hy), fun y hy => (r3 y hy).imp id (fun h => by omega)⟩
  · have e0 : limitG r k = (r, 2) := by unfold limitG; rw [if_pos (by omega)]
    have hV := hide (fun w1 => validLimit8_any k w1 false (by simpa using h0))
    rw [e0]
    have h0 := hide h0
    clear h e0
    go_enter Tryz.func20, Tryz.ntmps20
    go_wp2_with fail
    refine hM.out.mono ?_
    rintro e w1 ⟨rfl, hk1⟩
    go_wp2_with fail
    refine (hV.out w1).mono ?_
    rintro e w2 ⟨rfl, hj2⟩
    go_wp2_with fail
    go_ret
    exact hsame.out 2 _ (hk1.trans hj2 (by simp))
set_option maxHeartbeats 4000000 in
theorem Clear8_any (w : World) (b : Nat) (r : Rg) (a : Option Addr) (n c : Nat) (ps : List PgX) (h : RnIs w b r a n c ps) :
    Calls Tryz.prog 22 #[.pointer (some ⟨b, 0, none⟩)] w (Did8 b (clearG r) (rnB b a c ps) w) := by
  have hM := hide (made_rn h)
  have hH := hide h
  clear h
  go_enter Tryz.func22, Tryz.ntmps22
  go_wp2_with fail
  refine hM.out.mono ?_
  rintro e w1 ⟨rfl, hk1⟩
  have hb1 := hH.out.box.kept hk1 (by simp)
  obtain ⟨q0, q1, q2, q3, q4⟩ := hb1.at
  have f2 := hb1.froz 2
  have f4 := hb1.froz 4
  go_wp2_with fail
  go_end0
  have j2 : Kept [b] w1 (w1.setCell ⟨b, 2, none⟩ (.int .i64 ((r.next : Nat) : Int))) := (Kept.refl _ _).setCell (.inl (by simp)) _
  have hb2 := hb1.setF ((r.next : Nat) : Int)
  have j3 := j2.setCell (p := ⟨b, 4, none⟩) (.inl (by simp)) (.slice none 0 0)
  have hb3 := hb2.setP none 0 0
  have hk3 : Kept (rnB b a c ps) w _ := (hk1.mono (by simp)).trans j3 (fun y hy => by simp at hy; subst hy; exact .inl (rnB_mem.2 (.inl rfl)))
  have hr := RN.start hH.out.wf.l2 hH.out.wf.p1 hH.out.wf.p2 r.next hb3
  exact ⟨[b], rfl, hr, hk3, fun y hy => by simp at hy; subst hy; exact .inl (rnB_mem.2 (.inl rfl))⟩
end Go.Proofs.YtnkddhmhjnhgcaaGreatDoor
