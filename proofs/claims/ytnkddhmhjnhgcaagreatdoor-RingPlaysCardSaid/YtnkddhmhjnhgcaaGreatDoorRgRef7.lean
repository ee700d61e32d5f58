/- The reference's Push of layer 8. -/
import Derived.Test.YtnkddhmhjnhgcaaGreatDoorRgRb
namespace Go.Proofs.YtnkddhmhjnhgcaaGreatDoor
open Go.RowKit
set_option linter.unusedVariables false
set_option maxRecDepth 100000
set_option linter.unusedSimpArgs false

theorem Rd.blockV {w : World} {g : Nat} (n k : Nat) {cur : Array Value} {E : TypeId} {fr : Nat × Nat} (hg : w.heap[g]? = some (.cells cur E fr)) (hn : cur.size = n * k) : Rd w (some ⟨g, 0, none⟩) n k cur.toList :=
  ⟨by simp [hn], .inr ⟨g, 0, rfl, fun j u hu => by rw [Nat.zero_add, cell_of_row w g j cur E fr hg]; simpa using hu⟩⟩
set_option maxHeartbeats 20000000 in
theorem rPush8_any (r : Rg) (x : Ln) (u : LnA) (a : Option Addr) (n c : Nat) (vs : List LnA) (ap : Option Addr) (np cp : Nat) (w : World) (hr : LnsR w a n vs r.ls) (hp : Rd w ap np 2 (rowsV paV r.ps)) (hx : LnAt w u x) (hnc : n ≤ c) (hcm : c ≤ maxLen) (hnc2 : np ≤ cp) (hcm2 : cp ≤ maxLen) (hs : sumP r.ps = r.ls.length) (hf : fullP r.places r.ps) (hn : n ≤ 9000000) (hnp : np ≤ 9000000) (hfi : r.first ≤ 1000000000) (hp1 : 1 ≤ r.places) (hpl : r.places ≤ 1024) :
    Calls Tryz.prog 26 #[.agg #[.int .i64 (r.limit : Nat), .int .i64 (r.places : Nat), .int .i64 (r.first : Nat), .slice a n c, .slice ap np cp], .agg #[.slice u.a u.n u.c, .bool u.s]] w (RgGive2 w a n vs ap np (pushG r x).1 (pushG r x).2) := by
  obtain ⟨W0, hW0⟩ : ∃ z : World, z = ((w.alloc (.cells #[.int .i64 (r.limit : Nat), .int .i64 (r.places : Nat), .int .i64 (r.first : Nat), .slice a n c, .slice ap np cp] 33)).alloc (.cells #[.slice u.a u.n u.c, .bool u.s] 36)).alloc (.cells #[.int .i64 0, .int .i64 0, .int .i64 0, .slice none 0 0, .slice none 0 0] 33) := ⟨_, rfl⟩
  have hk0 : Kept [] w W0 := by rw [hW0]; exact (((Kept.refl [] w).alloc _).alloc _).alloc _
  have hb0 : Hid (RgIn W0 w.heap.size r.limit r.places r.first a n c ap np cp) := hide (by rw [hW0]; exact (RgIn.new w r.limit r.places r.first a n c ap np cp).kept (((Kept.refl [] _).alloc _).alloc _) (by simp))
  have hy0 : Hid (LinIn W0 (w.heap.size + 1) u.a u.n u.c u.s) := hide (by rw [hW0]; exact LinIn.kept (heap_new_at (by simp)) ((Kept.refl [] _).alloc _) (by simp))
  have hz0 : Hid (RgIn W0 (w.heap.size + 1 + 1) 0 0 0 none 0 0 none 0 0) := hide (by rw [hW0]; exact heap_new_at (by simp))
  have hs0 : w.heap.size + 1 + 1 < W0.heap.size := hz0.out.lt
  have bad : ∀ (z : Int) w5, Kept [] w w5 → RgGive2 w a n vs ap np r z (.returned (.tuple #[.agg #[.int .i64 (r.limit : Nat), .int .i64 (r.places : Nat), .int .i64 (r.first : Nat), .slice a n c, .slice ap np cp], .int .i64 z])) w5 := fun z w5 hk => ⟨a, n, c, vs, ap, np, cp, rfl, hr.kept hk (by simp) (by simp), hp.kept hk (by simp), hnc, hcm, hnc2, hcm2, hk, fun y hy => .inl hy, fun y hy => .inl hy, fun y hy => .inl hy⟩
  have bad := hide bad
  have hl := hr.len
  have hvl := hr.vlen
  have hV := hide (rValid6_any u.a u.n u.c u.s x.l W0 (hx.rd.kept hk0 (by simp)))
  have hC := hide (fun w1 (hk : Kept [] W0 w1) => rcopy8_any r.limit r.places r.first a n c ap np cp vs r.ps w1 (hr.rd.kept (hk0.trans hk (by simp)) (by simp)) (hp.kept (hk0.trans hk (by simp)) (by simp)) (by omega) (by omega))
  have hX := hide hx
  have hA0 := hide hr.at'
  have hLt := hide hr.at'.lt
  have hxl := hx.len
  have hpn := hp.rowLen rowPa
  clear hr hp hx
  obtain ⟨l0, l1⟩ := hy0.out.at
  by_cases hv : validL x.l = false
  · have e0 : pushG r x = (r, 2) := by unfold pushG; rw [if_pos hv]
    rw [e0]
    rw [hv] at hV
    clear e0
    go_enter Tryz.func26, Tryz.ntmps26
    go_upto_region 1 with fail
    rw [← hW0]
    clear hW0
    go_wp2_with fail
    refine hV.out.mono ?_
    rintro e w1 ⟨rfl, hk1⟩
    obtain ⟨q0, q1, q2, q3, q4⟩ := (hb0.out.kept hk1 (by simp)).at
    go_wp2_with (refine wpList_store_rg rfl rfl rfl (w.heap.size + 1 + 1) rfl (hz0.out.kept hk1 (by simp)) r.limit r.places r.first a n c ap np cp rfl ?_; intro w5 hb5 j5)
    refine bodyPost_ret (results_rg2 rfl rfl hb5 rfl) rfl ?_
    exact bad.out 2 _ ((hk0.trans hk1 (by simp)).trans j5 (by intro y hy; simp at hy; omega))
  · have hv' : validL x.l = true := by simpa using hv
    rw [hv'] at hV
    have hvl6 := valid_len hv'
    obtain ⟨PS, hPS⟩ : ∃ PS, addP r.places r.ps = PS := ⟨_, rfl⟩
    have e0 : pushG r x = ((⟨r.limit, r.places, r.first, r.ls ++ [x], PS⟩ : Rg).evict, 0) := by unfold pushG; rw [if_neg hv, hPS]
    have hsP : sumP PS = (r.ls ++ [x]).length := by rw [← hPS, addP_sum, hs]; simp
    have hfP : fullP r.places PS := by rw [← hPS]; exact addP_full hp1 hf
    rw [e0]
    replace hsP := hide hsP
    replace hfP := hide hfP
    replace hv := hide hv
    replace hv' := hide hv'
    replace hf := hide hf
    clear e0 hs
    go_enter Tryz.func26, Tryz.ntmps26
    go_upto_region 1 with fail
    rw [← hW0]
    clear hW0
    go_wp2_with fail
    refine hV.out.mono ?_
    rintro e w1 ⟨rfl, hk1⟩
    obtain ⟨q0, q1, q2, q3, q4⟩ := (hb0.out.kept hk1 (by simp)).at
    go_wp2_with fail
    refine (hC.out w1 hk1).mono ?_
    rintro e w2 ⟨a1, c1, a3, c3, rfl, ho1', ho3', hdis, hj2⟩
    have hk2 := hk1.trans hj2 (by simp)
    clear q0 q1 q2 q3 q4
    go_upto_region 4 with (refine wpList_store_rg rfl rfl rfl w.heap.size rfl (hb0.out.kept hk2 (by simp)) r.limit r.places r.first a1 n c1 a3 np c3 rfl ?_; intro w3 hb3 j3)
    have hw11 := hk1.size
    have hge1 := hide (fun y (hy : y ∈ blk a1) => (ho1'.ge y hy).1)
    have hge3 := hide (fun y (hy : y ∈ blk a3) => (ho3'.ge y hy).1)
    have ho1 := (ho1'.kept j3 (fun y hy hm => by simp at hm; have := hge1.out y hy; omega)).base (show W0.heap.size ≤ w1.heap.size from hw11)
    have ho3 := (ho3'.kept j3 (fun y hy hm => by simp at hm; have := hge3.out y hy; omega)).base (show W0.heap.size ≤ w1.heap.size from hw11)
    have hk3 : Hid (Kept [] w w3) := hide ((hk0.trans hk2 (by simp)).trans j3 (by intro y hy; simp at hy; omega))
    have hz3 := hide ((hz0.out.kept hk2 (by simp)).kept j3 (by simp <;> omega))
    have hy3 := hide ((hy0.out.kept hk2 (by simp)).kept j3 (by simp <;> omega))
    have hs3 : W0.heap.size ≤ w3.heap.size := by have h1 := hk2.size; have h2 := j3.size; omega
    clear ho1' ho3' l0 l1 hj2 j3
    have hO1 := hide ho1
    have hO3 := hide ho3
    have hDis := hide hdis
    clear ho1 ho3 hdis
    obtain ⟨q0, q1, q2, q3, q4⟩ := hb3.at
    go_upto_region 5 with fail
    by_cases h0 : np = 0
    · have hps : r.ps = [] := List.eq_nil_of_length_eq_zero (by omega)
      have hnz : ((np : Int) == 0) = true := by simp [h0]
      replace h0 := hide h0
      refine wp_region_held_drew (S := (fun W => W.cell? ⟨w.heap.size, 1, none⟩ = some (.int .i64 (r.places : Nat)) ∧ W.cell? ⟨w.heap.size, 4, none⟩ = some (.slice a3 np c3))) (by kernel_rfl) ?_ (fun hHeld => ?_)
      · (try dsimp only); (exact ⟨(hb3.kept (Kept.refl [] w3).drew (by simp)).at.2.1, (hb3.kept (Kept.refl [] w3).drew (by simp)).at.2.2.2.2⟩)
      refine wpAnyH_take (i := 0) (v := ?_) rfl (by kernel_rfl) (by kernel_rfl) (by kernel_rfl) (fun _ _ _ h => h) (Or.inl ⟨by rfl, ?_⟩) (by assumption) ?_
      rotate_left
      · (intro wq hSw; (try dsimp only at hSw); go_simp; try with_reducible rfl)
      try simp only [Act.put, List.getElem_toArray, List.getElem_cons_zero, List.setIfInBounds_toArray, List.set_cons_zero, List.set_cons_succ]
      refine wpAnyH_take (i := 1) (v := ?_) rfl (by kernel_rfl) (by kernel_rfl) (by kernel_rfl) (fun _ _ _ h => h) (Or.inl ⟨by rfl, ?_⟩) (by assumption) ?_
      rotate_left
      · (intro wq hSw; (try dsimp only at hSw); go_simp; try with_reducible rfl)
      try simp only [Act.put, List.getElem_toArray, List.getElem_cons_succ, List.getElem_cons_zero, List.setIfInBounds_toArray, List.set_cons_zero, List.set_cons_succ]
      refine wpAnyH_take (i := 2) (v := ?_) rfl (by kernel_rfl) (by kernel_rfl) (by kernel_rfl) (fun _ _ _ h => h) (Or.inl ⟨by rfl, ?_⟩) (by assumption) ?_
      rotate_left
      · (intro wq hSw; (try dsimp only at hSw); go_simp; try with_reducible rfl)
      try simp only [Act.put, List.getElem_toArray, List.getElem_cons_succ, List.getElem_cons_zero, List.setIfInBounds_toArray, List.set_cons_zero, List.set_cons_succ]
      refine wpAnyH_take (i := 3) (v := undef) rfl (by kernel_rfl) (by kernel_rfl) (by kernel_rfl) (fun _ _ _ h => h) (Or.inr ⟨by rfl, rfl⟩) (by assumption) ?_
      try simp only [Act.put, List.getElem_toArray, List.getElem_cons_succ, List.getElem_cons_zero, List.setIfInBounds_toArray, List.set_cons_zero, List.set_cons_succ]
      refine wpAnyH_take (i := 4) (v := undef) rfl (by kernel_rfl) (by kernel_rfl) (by kernel_rfl) (fun _ _ _ h => h) (Or.inr ⟨by rfl, rfl⟩) (by assumption) ?_
      try simp only [Act.put, List.getElem_toArray, List.getElem_cons_succ, List.getElem_cons_zero, List.setIfInBounds_toArray, List.set_cons_zero, List.set_cons_succ]
      refine wpAnyH_take (i := 5) (v := undef) rfl (by kernel_rfl) (by kernel_rfl) (by kernel_rfl) (fun _ _ _ h => h) (Or.inr ⟨by rfl, rfl⟩) (by assumption) ?_
      try simp only [Act.put, List.getElem_toArray, List.getElem_cons_succ, List.getElem_cons_zero, List.setIfInBounds_toArray, List.set_cons_zero, List.set_cons_succ]
      refine wpAnyH_take (i := 6) (v := undef) rfl (by kernel_rfl) (by kernel_rfl) (by kernel_rfl) (fun _ _ _ h => h) (Or.inr ⟨by rfl, rfl⟩) (by assumption) ?_
      try simp only [Act.put, List.getElem_toArray, List.getElem_cons_succ, List.getElem_cons_zero, List.setIfInBounds_toArray, List.set_cons_zero, List.set_cons_succ]
      refine wpAnyH_take (i := 7) (v := undef) rfl (by kernel_rfl) (by kernel_rfl) (by kernel_rfl) (fun _ _ _ h => h) (Or.inr ⟨by rfl, rfl⟩) (by assumption) ?_
      try simp only [Act.put, List.getElem_toArray, List.getElem_cons_succ, List.getElem_cons_zero, List.setIfInBounds_toArray, List.set_cons_zero, List.set_cons_succ]
      refine wpAnyH_take (i := 8) (v := undef) rfl (by kernel_rfl) (by kernel_rfl) (by kernel_rfl) (fun _ _ _ h => h) (Or.inr ⟨by rfl, rfl⟩) (by assumption) ?_
      try simp only [Act.put, List.getElem_toArray, List.getElem_cons_succ, List.getElem_cons_zero, List.setIfInBounds_toArray, List.set_cons_zero, List.set_cons_succ]
      refine wpAnyH_take (i := 9) (v := undef) rfl (by kernel_rfl) (by kernel_rfl) (by kernel_rfl) (fun _ _ _ h => h) (Or.inr ⟨by rfl, rfl⟩) (by assumption) ?_
      try simp only [Act.put, List.getElem_toArray, List.getElem_cons_succ, List.getElem_cons_zero, List.setIfInBounds_toArray, List.set_cons_zero, List.set_cons_succ]
      refine wpAnyH_take (i := 10) (v := undef) rfl (by kernel_rfl) (by kernel_rfl) (by kernel_rfl) (fun _ _ _ h => h) (Or.inr ⟨by rfl, rfl⟩) (by assumption) ?_
      try simp only [Act.put, List.getElem_toArray, List.getElem_cons_succ, List.getElem_cons_zero, List.setIfInBounds_toArray, List.set_cons_zero, List.set_cons_succ]
      refine wpAnyH_take (i := 11) (v := undef) rfl (by kernel_rfl) (by kernel_rfl) (by kernel_rfl) (fun _ _ _ h => h) (Or.inr ⟨by rfl, rfl⟩) (by assumption) ?_
      try simp only [Act.put, List.getElem_toArray, List.getElem_cons_succ, List.getElem_cons_zero, List.setIfInBounds_toArray, List.set_cons_zero, List.set_cons_succ]
      refine wpAnyH_take (i := 12) (v := undef) rfl (by kernel_rfl) (by kernel_rfl) (by kernel_rfl) (fun _ _ _ h => h) (Or.inr ⟨by rfl, rfl⟩) (by assumption) ?_
      try simp only [Act.put, List.getElem_toArray, List.getElem_cons_succ, List.getElem_cons_zero, List.setIfInBounds_toArray, List.set_cons_zero, List.set_cons_succ]
      refine wpAnyH_take (i := 13) (v := undef) rfl (by kernel_rfl) (by kernel_rfl) (by kernel_rfl) (fun _ _ _ h => h) (Or.inr ⟨by rfl, rfl⟩) (by assumption) ?_
      try simp only [Act.put, List.getElem_toArray, List.getElem_cons_succ, List.getElem_cons_zero, List.setIfInBounds_toArray, List.set_cons_zero, List.set_cons_succ]
      refine wpAnyH_take (i := 14) (v := undef) rfl (by kernel_rfl) (by kernel_rfl) (by kernel_rfl) (fun _ _ _ h => h) (Or.inr ⟨by rfl, rfl⟩) (by assumption) ?_
      try simp only [Act.put, List.getElem_toArray, List.getElem_cons_succ, List.getElem_cons_zero, List.setIfInBounds_toArray, List.set_cons_zero, List.set_cons_succ]
      refine wpAnyH_take (i := 15) (v := undef) rfl (by kernel_rfl) (by kernel_rfl) (by kernel_rfl) (fun _ _ _ h => h) (Or.inr ⟨by rfl, rfl⟩) (by assumption) ?_
      try simp only [Act.put, List.getElem_toArray, List.getElem_cons_succ, List.getElem_cons_zero, List.setIfInBounds_toArray, List.set_cons_zero, List.set_cons_succ]
      refine wpAnyH_take (i := 16) (v := undef) rfl (by kernel_rfl) (by kernel_rfl) (by kernel_rfl) (fun _ _ _ h => h) (Or.inr ⟨by rfl, rfl⟩) (by assumption) ?_
      try simp only [Act.put, List.getElem_toArray, List.getElem_cons_succ, List.getElem_cons_zero, List.setIfInBounds_toArray, List.set_cons_zero, List.set_cons_succ]
      refine wpAnyH_take (i := 17) (v := undef) rfl (by kernel_rfl) (by kernel_rfl) (by kernel_rfl) (fun _ _ _ h => h) (Or.inr ⟨by rfl, rfl⟩) (by assumption) ?_
      try simp only [Act.put, List.getElem_toArray, List.getElem_cons_succ, List.getElem_cons_zero, List.setIfInBounds_toArray, List.set_cons_zero, List.set_cons_succ]
      refine wpAnyH_take (i := 18) (v := undef) rfl (by kernel_rfl) (by kernel_rfl) (by kernel_rfl) (fun _ _ _ h => h) (Or.inr ⟨by rfl, rfl⟩) (by assumption) ?_
      try simp only [Act.put, List.getElem_toArray, List.getElem_cons_succ, List.getElem_cons_zero, List.setIfInBounds_toArray, List.set_cons_zero, List.set_cons_succ]
      refine wpAnyH_take (i := 19) (v := undef) rfl (by kernel_rfl) (by kernel_rfl) (by kernel_rfl) (fun _ _ _ h => h) (Or.inr ⟨by rfl, rfl⟩) (by assumption) ?_
      try simp only [Act.put, List.getElem_toArray, List.getElem_cons_succ, List.getElem_cons_zero, List.setIfInBounds_toArray, List.set_cons_zero, List.set_cons_succ]
      refine wpAnyH_take (i := 20) (v := undef) rfl (by kernel_rfl) (by kernel_rfl) (by kernel_rfl) (fun _ _ _ h => h) (Or.inr ⟨by rfl, rfl⟩) (by assumption) ?_
      try simp only [Act.put, List.getElem_toArray, List.getElem_cons_succ, List.getElem_cons_zero, List.setIfInBounds_toArray, List.set_cons_zero, List.set_cons_succ]
      refine wpAnyH_take (i := 21) (v := ?_) rfl (by kernel_rfl) (by kernel_rfl) (by kernel_rfl) (fun _ _ _ h => h) (Or.inl ⟨by rfl, ?_⟩) (by assumption) ?_
      rotate_left
      · (intro wq hSw; (try dsimp only at hSw); go_simp; try with_reducible rfl)
      try simp only [Act.put, List.getElem_toArray, List.getElem_cons_succ, List.getElem_cons_zero, List.setIfInBounds_toArray, List.set_cons_zero, List.set_cons_succ]
      refine wpAnyH_done (by kernel_rfl) ?_ _
      have k4 : Kept [] w3 w3.drew := (Kept.refl [] _).drew
      clear q0 q1 q2 q3 q4 hHeld
      generalize w3.drew = w4 at *
      have hb4 := hb3.kept k4 (by simp)
      have hk4 := hide (hk3.out.trans k4 (by simp))
      have hz4 := hide (hz3.out.kept k4 (by simp))
      have hy4 := hide (hy3.out.kept k4 (by simp))
      have hO14 := hide (hO1.out.kept k4 (by simp))
      have hO34 := hide (hO3.out.kept k4 (by simp))
      have hs4 : W0.heap.size ≤ w4.heap.size := by have := k4.size; omega
      obtain ⟨q0, q1, q2, q3, q4⟩ := hb4.at
      have hnb3 : w.heap.size ∉ blk a3 ∧ w.heap.size + 1 ∉ blk a3 ∧ w.heap.size + 1 + 1 ∉ blk a3 := ⟨fun hm => by have := hge3.out _ hm; omega, fun hm => by have := hge3.out _ hm; omega, fun hm => by have := hge3.out _ hm; omega⟩
      have hwA : IntKind.i64.wrap ((np : Int) + 1) = (np : Int) + 1 := by rw [IntKind.wrap_i64]; omega
      have hwJ : IntKind.i64.wrap ((np : Int) + 1 - 1) = (np : Int) := by rw [IntKind.wrap_i64]; omega
      have hiJ : (np : Int) < (np : Int) + 1 := by omega
      go_upto_region 7 with (at_builtin; refine wpList_app ?_ rfl elPage rfl rfl (hO34.out.alloc _) rfl (Rd.blockV 1 2 (heap_alloc_new w4 _) rfl) (by intro z hz; simp at hz; subst hz; rfl) (by omega) (by simp; omega); intro a5 c5 w5 ho5 hj5 hat5; have k45 : Kept (blk a3) w4 w5 := (((Kept.refl [] w4).alloc _).mono (by simp)).trans hj5 (fun y hy => .inl hy); have p4 := (hb4.kept k45 hnb3.1).froz 4; have r4 := (hb4.kept k45 hnb3.1).at.2.2.2.2)
      have i6 := (hb4.kept k45 hnb3.1).setP a5 (np + 1) c5
      have j6 : Kept [w.heap.size] w5 (w5.setCell ⟨w.heap.size, 4, none⟩ (.slice a5 (np + 1) c5)) := (Kept.refl _ _).setCell (.inl (by simp)) _
      have hz5 := hz4.out.kept k45 hnb3.2.2
      have hy5 := hy4.out.kept k45 hnb3.2.1
      clear p4 r4 q0 q1 q2 q3 q4
      generalize w5.setCell ⟨w.heap.size, 4, none⟩ (.slice a5 (np + 1) c5) = w6 at *
      have k46 : Kept (w.heap.size :: blk a3) w4 w6 := (k45.mono (by intro y hy; simp [hy])).trans j6 (fun y hy => .inl (by simp at hy; simp [hy]))
      have hge5 : ∀ y ∈ blk a5, W0.heap.size ≤ y := fun y hy => (ho5.ge y hy).1
      have hO6 : Own w6 W0.heap.size 94 a5 (np + 1) c5 2 (rowsV paV (r.ps ++ [⟨0, 0⟩])) := by
        have := ho5.kept j6 (fun y hy hm => by simp at hm; have := hge5 y hy; omega)
        simpa [rowsV, paV] using this
      have hPT := hO6.mid
      obtain ⟨g4, o4, rfl⟩ := hPT.rd.rowAddr rowPa (by simp)
      have hg4m : g4 ∈ blk (some ⟨g4, o4, none⟩) := by simp [blk]
      have hg4 := hge5 g4 hg4m
      have hd4 : g4 ∉ blk a1 := fun hm => by
        rcases hat5 g4 hg4m with h | h
        · exact hDis.out g4 hm h
        · have := (hO14.out.ge g4 hm).2
          simp at h
          omega
      have hOT := hO14.out.kept k46 (fun y hy hm => by
        rcases List.mem_cons.1 hm with h | h
        · have := hge1.out y hy; omega
        · exact hDis.out y hy h)
      have kT : Kept [] w w6 := hk4.out.trans k46 (fun y hy => .inr (by
        rcases List.mem_cons.1 hy with h | h
        · omega
        · have := hge3.out y h; omega))
      have hzT := hz5.kept j6 (by simp <;> omega)
      have hyT := hy5.kept j6 (by simp <;> omega)
      have hsT : W0.heap.size ≤ w6.heap.size := Nat.le_trans hs4 k46.size
      have iT := i6
      have hJT := hpn
      generalize hc4 : c5 = c4 at *
      have hPST : r.ps ++ [⟨0, 1⟩] = PS := by
        rw [← hPS, hps]
        rfl
      obtain ⟨d1, z1⟩ := hPT.cellLast rowPa (j := 1) (u := .int .i64 0) rfl
      rw [hJT, ← Nat.add_assoc] at d1 z1
      obtain ⟨q0, q1, q2, q3, q4⟩ := iT.at
      go_upto_region 9 with fail
      have hP8 := hPT.setLast rowPa (j := 1) (v := .int .i64 1) (d := ⟨0, 1⟩) (by decide) (by simp [paV])
      rw [hJT, ← Nat.add_assoc] at hP8
      have j8 : Kept [g4] w6 (w6.setCell ⟨g4, o4 + np * 2 + 1, none⟩ (.int .i64 1)) := (Kept.refl _ _).setCell (.inl (by simp)) _
      have i8 := iT.kept j8 (by simp; omega)
      have hO8 := hide (hOT.kept j8 (fun y hy hm => by simp at hm; subst hm; exact hd4 hy))
      have k8 := hide (kT.trans j8 (fun y hy => .inr (by simp at hy; omega)))
      have hz8 := hide (hzT.kept j8 (by simp; omega))
      have hy8 := hide (hyT.kept j8 (by simp; omega))
      have hs8 : W0.heap.size ≤ w6.heap.size := hsT
      have hs8 := Nat.le_trans hs8 j8.size
      clear q0 q1 q2 q3 q4 d1 z1 iT hPT
      generalize w6.setCell ⟨g4, o4 + np * 2 + 1, none⟩ (.int .i64 1) = w8 at *
      rw [hPST] at hP8
      have hg1 : ∀ y ∈ blk a1, W0.heap.size ≤ y ∧ y < w8.heap.size := fun y hy => hO8.out.ge y hy
      have hd8 : ∀ y ∈ blkC (some ⟨g4, o4, none⟩) c4, y ∉ blk a1 ∧ W0.heap.size ≤ y := fun y hy => by have h1 := blkC_is hy; subst h1; exact ⟨hd4, hg4⟩
      have kd : Kept [] w8 w8.drew := (Kept.refl [] _).drew
      obtain ⟨q0, q1, q2, q3, q4⟩ := (i8.kept kd (by simp)).at
      have hF : ∀ {S : List Nat} {W : World}, Kept S w8 W → (∀ y ∈ S, y ≠ w.heap.size + 1) → W.cell? ⟨w.heap.size + 1, 0, none⟩ = some (.slice u.a u.n u.c) ∧ W.cell? ⟨w.heap.size + 1, 1, none⟩ = some (.bool u.s) := fun hk hS => (hy8.out.kept hk (fun hm => hS _ hm rfl)).at
      have hCp := hide (rCopy_any u.a u.n u.c u.s x.l w8.drew (hX.out.rd.kept (k8.out.trans kd (by simp)) (by simp)) (by omega))
      refine wp_region_held_drew (S := (fun W => W.cell? ⟨w.heap.size + 1, 0, none⟩ = some (.slice u.a u.n u.c) ∧ W.cell? ⟨w.heap.size + 1, 1, none⟩ = some (.bool u.s))) (by kernel_rfl) ?_ (fun hHeld => ?_)
      · (try dsimp only); (first | exact hF k811 (fun y hy => hn11 y hy) | exact hF k810 (fun y hy => by have := (hg1 y hy).1; omega) | exact hF (k9.alloc _) (by simp) | exact hF k9 (by simp) | exact hF kd (by simp))
      refine wpAnyH_take (i := 0) (v := ?_) rfl (by kernel_rfl) (by kernel_rfl) (by kernel_rfl) (fun _ _ _ h => h) (Or.inl ⟨by rfl, ?_⟩) (by assumption) ?_
      rotate_left
      · (intro wq hSw; (try dsimp only at hSw); go_simp; try with_reducible rfl)
      try simp only [Act.put, List.getElem_toArray, List.getElem_cons_zero, List.setIfInBounds_toArray, List.set_cons_zero, List.set_cons_succ]
      refine wpAnyH_take (i := 2) (v := ?_) rfl (by kernel_rfl) (by kernel_rfl) (by kernel_rfl) (fun _ _ _ h => h) (Or.inl ⟨by rfl, ?_⟩) (by assumption) ?_
      rotate_left
      · (intro wq hSw; (try dsimp only at hSw); go_simp; try with_reducible rfl)
      try simp only [Act.put, List.getElem_toArray, List.getElem_cons_succ, List.getElem_cons_zero, List.setIfInBounds_toArray, List.set_cons_zero, List.set_cons_succ]
      refine wpAnyH_ready (rs := [1, 3]) (by kernel_rfl) (by simp) ?_
      refine AllReadyH.cons rfl (fun K hK => ?_) (AllReadyH.cons rfl (fun K hK => ?_) AllReadyH.nil)
      · go_simp
        try go_wp2_with fail
        refine hK.out _ _ ?_ (fun hHeld => ?_)
        · (try dsimp only); (first | exact hF k811 (fun y hy => hn11 y hy) | exact hF k810 (fun y hy => by have := (hg1 y hy).1; omega) | exact hF (k9.alloc _) (by simp) | exact hF k9 (by simp) | exact hF kd (by simp))
        clear hK K
        try simp only [Act.put, List.getElem_toArray, List.getElem_cons_succ, List.getElem_cons_zero, List.setIfInBounds_toArray, List.set_cons_zero, List.set_cons_succ]
        refine wpAnyH_ready (rs := [3]) (by kernel_rfl) (by simp) ?_
        refine AllReadyH.cons rfl (fun K hK => ?_) AllReadyH.nil
        go_simp
        refine hCp.out.mono ?_; rintro e w9 ⟨a9, n9, c9, rfl, ho9, h9a, h9b, j9⟩; have k9 : Kept [] w8 w9 := kd.trans j9 (by simp); have p3 := (i8.kept k9 (by simp)).at.2.2.2.1; have p3a := (i8.kept (k9.alloc (.cells #[.slice a9 n9 c9, .bool u.s] 36)) (by simp)).at.2.2.2.1
        try go_wp2_with fail
        refine hK.out _ _ ?_ (fun hHeld => ?_)
        · (try dsimp only); (first | exact hF k811 (fun y hy => hn11 y hy) | exact hF k810 (fun y hy => by have := (hg1 y hy).1; omega) | exact hF (k9.alloc _) (by simp) | exact hF k9 (by simp) | exact hF kd (by simp))
        clear hK K
        try simp only [Act.put, List.getElem_toArray, List.getElem_cons_succ, List.getElem_cons_zero, List.setIfInBounds_toArray, List.set_cons_zero, List.set_cons_succ]
        refine wpAnyH_ready (rs := [4]) (by kernel_rfl) (by simp) ?_
        refine AllReadyH.cons rfl (fun K hK => ?_) AllReadyH.nil
        go_simp
        try go_wp2_with fail
        refine hK.out _ _ ?_ (fun hHeld => ?_)
        · (try dsimp only); (first | exact hF k811 (fun y hy => hn11 y hy) | exact hF k810 (fun y hy => by have := (hg1 y hy).1; omega) | exact hF (k9.alloc _) (by simp) | exact hF k9 (by simp) | exact hF kd (by simp))
        clear hK K
        try simp only [Act.put, List.getElem_toArray, List.getElem_cons_succ, List.getElem_cons_zero, List.setIfInBounds_toArray, List.set_cons_zero, List.set_cons_succ]
        refine wpAnyH_ready (rs := [5]) (by kernel_rfl) (by simp) ?_
        refine AllReadyH.cons rfl (fun K hK => ?_) AllReadyH.nil
        rw [if_pos (by rfl)]
        refine wp_app ?_ elLine rfl rfl ((hO8.out.kept k9 (by simp)).alloc _) rfl (Rd.blockV 1 2 (heap_alloc_new w9 _) rfl) (by intro z hz; simp at hz; rcases hz with rfl | rfl <;> rfl) (by omega) (by have h1 := k9.size; simp; omega); intro a10 c10 w10 ho10 hj10 hat10; have k10 : Kept (blk a1) w9 w10 := (((Kept.refl [] w9).alloc _).mono (by simp)).trans hj10 (fun y hy => .inl hy); have k810 : Kept (blk a1) w8 w10 := (k9.mono (by simp)).trans k10 (fun y hy => .inl hy); have i10 := i8.kept k810 (fun hm => by have := (hg1 _ hm).1; omega); have p10 := i10.at.2.2.2.1; have f10 := i10.froz 3; have k811 : Kept (w.heap.size :: blk a1) w8 (w10.setCell ⟨w.heap.size, 3, none⟩ (.slice a10 (n + 1) c10)) := (k810.mono (by intro y hy; simp [hy])).setCell (.inl (by simp)) _; have hn11 : ∀ y ∈ w.heap.size :: blk a1, y ≠ w.heap.size + 1 := (by intro y hy; rcases List.mem_cons.1 hy with h | h <;> first | omega | (have := (hg1 y h).1; omega))
        refine hK.out _ _ ?_ (fun hHeld => ?_)
        · (try dsimp only); (first | exact hF k811 (fun y hy => hn11 y hy) | exact hF k810 (fun y hy => by have := (hg1 y hy).1; omega) | exact hF (k9.alloc _) (by simp) | exact hF k9 (by simp) | exact hF kd (by simp))
        clear hK K
        try simp only [Act.put, List.getElem_toArray, List.getElem_cons_succ, List.getElem_cons_zero, List.setIfInBounds_toArray, List.set_cons_zero, List.set_cons_succ]
        refine wpAnyH_take (i := 6) (v := ?_) rfl (by kernel_rfl) (by kernel_rfl) (by kernel_rfl) (fun _ _ _ h => h) (Or.inl ⟨by rfl, ?_⟩) (by assumption) ?_
        rotate_left
        · (intro wq hSw; (try dsimp only at hSw); go_simp; try with_reducible rfl)
        try simp only [Act.put, List.getElem_toArray, List.getElem_cons_succ, List.getElem_cons_zero, List.setIfInBounds_toArray, List.set_cons_zero, List.set_cons_succ]
        refine wpAnyH_ready (rs := [7]) (by kernel_rfl) (by simp) ?_
        refine AllReadyH.cons rfl (fun K hK => ?_) AllReadyH.nil
        go_simp
        try go_wp2_with fail
        refine hK.out _ _ ?_ (fun hHeld => ?_)
        · (try dsimp only); (first | exact hF k811 (fun y hy => hn11 y hy) | exact hF k810 (fun y hy => by have := (hg1 y hy).1; omega) | exact hF (k9.alloc _) (by simp) | exact hF k9 (by simp) | exact hF kd (by simp))
        clear hK K
        try simp only [Act.put, List.getElem_toArray, List.getElem_cons_succ, List.getElem_cons_zero, List.setIfInBounds_toArray, List.set_cons_zero, List.set_cons_succ]
        refine wpAnyH_done (by kernel_rfl) ?_ _
        obtain ⟨i11, hE⟩ := push_fin8 (ap := ap) (a := a) (np := np) k8.out i8 hz8.out hs0 hs8 hA0.out hP8 hd8 hg1 k9 ho9 h9a h9b hX.out.s ho10 k10 hsP.out hfP.out (by omega) (by omega) hfi hpl; have hE := hide hE; have i11 := hide i11; clear q0 q1 q2 q3 q4; obtain ⟨q0, q1, q2, q3, q4⟩ := i11.out.at; go_wp2_with fail; refine hE.out.mono ?_; rintro e w12 ⟨l', p', f', a', n', c', ap', np', cp', rfl, z12, hfin⟩; go_wp2_with (refine wpList_store_rg rfl rfl rfl (w.heap.size + 1 + 1) rfl z12 l' p' f' a' n' c' ap' np' cp' rfl ?_; intro w13 hb13 j13); refine bodyPost_ret (results_rg2 rfl rfl hb13 rfl) rfl ?_; exact hfin w13 j13
      · go_simp
        refine hCp.out.mono ?_; rintro e w9 ⟨a9, n9, c9, rfl, ho9, h9a, h9b, j9⟩; have k9 : Kept [] w8 w9 := kd.trans j9 (by simp); have p3 := (i8.kept k9 (by simp)).at.2.2.2.1; have p3a := (i8.kept (k9.alloc (.cells #[.slice a9 n9 c9, .bool u.s] 36)) (by simp)).at.2.2.2.1
        try go_wp2_with fail
        refine hK.out _ _ ?_ (fun hHeld => ?_)
        · (try dsimp only); (first | exact hF k811 (fun y hy => hn11 y hy) | exact hF k810 (fun y hy => by have := (hg1 y hy).1; omega) | exact hF (k9.alloc _) (by simp) | exact hF k9 (by simp) | exact hF kd (by simp))
        clear hK K
        try simp only [Act.put, List.getElem_toArray, List.getElem_cons_succ, List.getElem_cons_zero, List.setIfInBounds_toArray, List.set_cons_zero, List.set_cons_succ]
        refine wpAnyH_ready (rs := [1, 4]) (by kernel_rfl) (by simp) ?_
        refine AllReadyH.cons rfl (fun K hK => ?_) (AllReadyH.cons rfl (fun K hK => ?_) AllReadyH.nil)
        · go_simp
          try go_wp2_with fail
          refine hK.out _ _ ?_ (fun hHeld => ?_)
          · (try dsimp only); (first | exact hF k811 (fun y hy => hn11 y hy) | exact hF k810 (fun y hy => by have := (hg1 y hy).1; omega) | exact hF (k9.alloc _) (by simp) | exact hF k9 (by simp) | exact hF kd (by simp))
          clear hK K
          try simp only [Act.put, List.getElem_toArray, List.getElem_cons_succ, List.getElem_cons_zero, List.setIfInBounds_toArray, List.set_cons_zero, List.set_cons_succ]
          refine wpAnyH_ready (rs := [4]) (by kernel_rfl) (by simp) ?_
          refine AllReadyH.cons rfl (fun K hK => ?_) AllReadyH.nil
          go_simp
          try go_wp2_with fail
          refine hK.out _ _ ?_ (fun hHeld => ?_)
          · (try dsimp only); (first | exact hF k811 (fun y hy => hn11 y hy) | exact hF k810 (fun y hy => by have := (hg1 y hy).1; omega) | exact hF (k9.alloc _) (by simp) | exact hF k9 (by simp) | exact hF kd (by simp))
          clear hK K
          try simp only [Act.put, List.getElem_toArray, List.getElem_cons_succ, List.getElem_cons_zero, List.setIfInBounds_toArray, List.set_cons_zero, List.set_cons_succ]
          refine wpAnyH_ready (rs := [5]) (by kernel_rfl) (by simp) ?_
          refine AllReadyH.cons rfl (fun K hK => ?_) AllReadyH.nil
          rw [if_pos (by rfl)]
          refine wp_app ?_ elLine rfl rfl ((hO8.out.kept k9 (by simp)).alloc _) rfl (Rd.blockV 1 2 (heap_alloc_new w9 _) rfl) (by intro z hz; simp at hz; rcases hz with rfl | rfl <;> rfl) (by omega) (by have h1 := k9.size; simp; omega); intro a10 c10 w10 ho10 hj10 hat10; have k10 : Kept (blk a1) w9 w10 := (((Kept.refl [] w9).alloc _).mono (by simp)).trans hj10 (fun y hy => .inl hy); have k810 : Kept (blk a1) w8 w10 := (k9.mono (by simp)).trans k10 (fun y hy => .inl hy); have i10 := i8.kept k810 (fun hm => by have := (hg1 _ hm).1; omega); have p10 := i10.at.2.2.2.1; have f10 := i10.froz 3; have k811 : Kept (w.heap.size :: blk a1) w8 (w10.setCell ⟨w.heap.size, 3, none⟩ (.slice a10 (n + 1) c10)) := (k810.mono (by intro y hy; simp [hy])).setCell (.inl (by simp)) _; have hn11 : ∀ y ∈ w.heap.size :: blk a1, y ≠ w.heap.size + 1 := (by intro y hy; rcases List.mem_cons.1 hy with h | h <;> first | omega | (have := (hg1 y h).1; omega))
          refine hK.out _ _ ?_ (fun hHeld => ?_)
          · (try dsimp only); (first | exact hF k811 (fun y hy => hn11 y hy) | exact hF k810 (fun y hy => by have := (hg1 y hy).1; omega) | exact hF (k9.alloc _) (by simp) | exact hF k9 (by simp) | exact hF kd (by simp))
          clear hK K
          try simp only [Act.put, List.getElem_toArray, List.getElem_cons_succ, List.getElem_cons_zero, List.setIfInBounds_toArray, List.set_cons_zero, List.set_cons_succ]
          refine wpAnyH_take (i := 6) (v := ?_) rfl (by kernel_rfl) (by kernel_rfl) (by kernel_rfl) (fun _ _ _ h => h) (Or.inl ⟨by rfl, ?_⟩) (by assumption) ?_
          rotate_left
          · (intro wq hSw; (try dsimp only at hSw); go_simp; try with_reducible rfl)
          try simp only [Act.put, List.getElem_toArray, List.getElem_cons_succ, List.getElem_cons_zero, List.setIfInBounds_toArray, List.set_cons_zero, List.set_cons_succ]
          refine wpAnyH_ready (rs := [7]) (by kernel_rfl) (by simp) ?_
          refine AllReadyH.cons rfl (fun K hK => ?_) AllReadyH.nil
          go_simp
          try go_wp2_with fail
          refine hK.out _ _ ?_ (fun hHeld => ?_)
          · (try dsimp only); (first | exact hF k811 (fun y hy => hn11 y hy) | exact hF k810 (fun y hy => by have := (hg1 y hy).1; omega) | exact hF (k9.alloc _) (by simp) | exact hF k9 (by simp) | exact hF kd (by simp))
          clear hK K
          try simp only [Act.put, List.getElem_toArray, List.getElem_cons_succ, List.getElem_cons_zero, List.setIfInBounds_toArray, List.set_cons_zero, List.set_cons_succ]
          refine wpAnyH_done (by kernel_rfl) ?_ _
          obtain ⟨i11, hE⟩ := push_fin8 (ap := ap) (a := a) (np := np) k8.out i8 hz8.out hs0 hs8 hA0.out hP8 hd8 hg1 k9 ho9 h9a h9b hX.out.s ho10 k10 hsP.out hfP.out (by omega) (by omega) hfi hpl; have hE := hide hE; have i11 := hide i11; clear q0 q1 q2 q3 q4; obtain ⟨q0, q1, q2, q3, q4⟩ := i11.out.at; go_wp2_with fail; refine hE.out.mono ?_; rintro e w12 ⟨l', p', f', a', n', c', ap', np', cp', rfl, z12, hfin⟩; go_wp2_with (refine wpList_store_rg rfl rfl rfl (w.heap.size + 1 + 1) rfl z12 l' p' f' a' n' c' ap' np' cp' rfl ?_; intro w13 hb13 j13); refine bodyPost_ret (results_rg2 rfl rfl hb13 rfl) rfl ?_; exact hfin w13 j13
        · go_simp
          try go_wp2_with fail
          refine hK.out _ _ ?_ (fun hHeld => ?_)
          · (try dsimp only); (first | exact hF k811 (fun y hy => hn11 y hy) | exact hF k810 (fun y hy => by have := (hg1 y hy).1; omega) | exact hF (k9.alloc _) (by simp) | exact hF k9 (by simp) | exact hF kd (by simp))
          clear hK K
          try simp only [Act.put, List.getElem_toArray, List.getElem_cons_succ, List.getElem_cons_zero, List.setIfInBounds_toArray, List.set_cons_zero, List.set_cons_succ]
          refine wpAnyH_ready (rs := [1]) (by kernel_rfl) (by simp) ?_
          refine AllReadyH.cons rfl (fun K hK => ?_) AllReadyH.nil
          go_simp
          try go_wp2_with fail
          refine hK.out _ _ ?_ (fun hHeld => ?_)
          · (try dsimp only); (first | exact hF k811 (fun y hy => hn11 y hy) | exact hF k810 (fun y hy => by have := (hg1 y hy).1; omega) | exact hF (k9.alloc _) (by simp) | exact hF k9 (by simp) | exact hF kd (by simp))
          clear hK K
          try simp only [Act.put, List.getElem_toArray, List.getElem_cons_succ, List.getElem_cons_zero, List.setIfInBounds_toArray, List.set_cons_zero, List.set_cons_succ]
          refine wpAnyH_ready (rs := [5]) (by kernel_rfl) (by simp) ?_
          refine AllReadyH.cons rfl (fun K hK => ?_) AllReadyH.nil
          rw [if_pos (by rfl)]
          refine wp_app ?_ elLine rfl rfl ((hO8.out.kept k9 (by simp)).alloc _) rfl (Rd.blockV 1 2 (heap_alloc_new w9 _) rfl) (by intro z hz; simp at hz; rcases hz with rfl | rfl <;> rfl) (by omega) (by have h1 := k9.size; simp; omega); intro a10 c10 w10 ho10 hj10 hat10; have k10 : Kept (blk a1) w9 w10 := (((Kept.refl [] w9).alloc _).mono (by simp)).trans hj10 (fun y hy => .inl hy); have k810 : Kept (blk a1) w8 w10 := (k9.mono (by simp)).trans k10 (fun y hy => .inl hy); have i10 := i8.kept k810 (fun hm => by have := (hg1 _ hm).1; omega); have p10 := i10.at.2.2.2.1; have f10 := i10.froz 3; have k811 : Kept (w.heap.size :: blk a1) w8 (w10.setCell ⟨w.heap.size, 3, none⟩ (.slice a10 (n + 1) c10)) := (k810.mono (by intro y hy; simp [hy])).setCell (.inl (by simp)) _; have hn11 : ∀ y ∈ w.heap.size :: blk a1, y ≠ w.heap.size + 1 := (by intro y hy; rcases List.mem_cons.1 hy with h | h <;> first | omega | (have := (hg1 y h).1; omega))
          refine hK.out _ _ ?_ (fun hHeld => ?_)
          · (try dsimp only); (first | exact hF k811 (fun y hy => hn11 y hy) | exact hF k810 (fun y hy => by have := (hg1 y hy).1; omega) | exact hF (k9.alloc _) (by simp) | exact hF k9 (by simp) | exact hF kd (by simp))
          clear hK K
          try simp only [Act.put, List.getElem_toArray, List.getElem_cons_succ, List.getElem_cons_zero, List.setIfInBounds_toArray, List.set_cons_zero, List.set_cons_succ]
          refine wpAnyH_take (i := 6) (v := ?_) rfl (by kernel_rfl) (by kernel_rfl) (by kernel_rfl) (fun _ _ _ h => h) (Or.inl ⟨by rfl, ?_⟩) (by assumption) ?_
          rotate_left
          · (intro wq hSw; (try dsimp only at hSw); go_simp; try with_reducible rfl)
          try simp only [Act.put, List.getElem_toArray, List.getElem_cons_succ, List.getElem_cons_zero, List.setIfInBounds_toArray, List.set_cons_zero, List.set_cons_succ]
          refine wpAnyH_ready (rs := [7]) (by kernel_rfl) (by simp) ?_
          refine AllReadyH.cons rfl (fun K hK => ?_) AllReadyH.nil
          go_simp
          try go_wp2_with fail
          refine hK.out _ _ ?_ (fun hHeld => ?_)
          · (try dsimp only); (first | exact hF k811 (fun y hy => hn11 y hy) | exact hF k810 (fun y hy => by have := (hg1 y hy).1; omega) | exact hF (k9.alloc _) (by simp) | exact hF k9 (by simp) | exact hF kd (by simp))
          clear hK K
          try simp only [Act.put, List.getElem_toArray, List.getElem_cons_succ, List.getElem_cons_zero, List.setIfInBounds_toArray, List.set_cons_zero, List.set_cons_succ]
          refine wpAnyH_done (by kernel_rfl) ?_ _
          obtain ⟨i11, hE⟩ := push_fin8 (ap := ap) (a := a) (np := np) k8.out i8 hz8.out hs0 hs8 hA0.out hP8 hd8 hg1 k9 ho9 h9a h9b hX.out.s ho10 k10 hsP.out hfP.out (by omega) (by omega) hfi hpl; have hE := hide hE; have i11 := hide i11; clear q0 q1 q2 q3 q4; obtain ⟨q0, q1, q2, q3, q4⟩ := i11.out.at; go_wp2_with fail; refine hE.out.mono ?_; rintro e w12 ⟨l', p', f', a', n', c', ap', np', cp', rfl, z12, hfin⟩; go_wp2_with (refine wpList_store_rg rfl rfl rfl (w.heap.size + 1 + 1) rfl z12 l' p' f' a' n' c' ap' np' cp' rfl ?_; intro w13 hb13 j13); refine bodyPost_ret (results_rg2 rfl rfl hb13 rfl) rfl ?_; exact hfin w13 j13
    · have hnz : ((np : Int) == 0) = false := by simp [h0]
      obtain ⟨qs, q, hps⟩ : ∃ qs q, r.ps = qs ++ [q] := by
        have hne : r.ps ≠ [] := fun e => by rw [e] at hpn; simp at hpn; omega
        exact ⟨r.ps.dropLast, r.ps.getLast hne, (List.dropLast_concat_getLast hne).symm⟩
      obtain ⟨J, hJ⟩ : ∃ J, qs.length = J := ⟨_, rfl⟩
      have hJn : J + 1 = np := by rw [hps] at hpn; simp at hpn; omega
      have hq := fullP_last q qs (by rw [← hps]; exact hf.out)
      have hw1 : IntKind.i64.wrap ((np : Int) - 1) = (J : Int) := by rw [IntKind.wrap_i64]; omega
      have hji : (J : Int) < (np : Int) := by omega
      have hw2 : IntKind.i64.wrap ((q.gone : Int) + (q.n : Int)) = (q.gone : Int) + (q.n : Int) := by rw [IntKind.wrap_i64]; omega
      have hM3 := hO3.out.mid
      obtain ⟨g3, o3, rfl⟩ := hM3.rd.rowAddr rowPa (by omega)
      rw [hps] at hM3
      obtain ⟨d0, z0⟩ := hM3.cellLast rowPa (j := 0) (u := .int .i64 (q.gone : Nat)) rfl
      obtain ⟨d1, z1⟩ := hM3.cellLast rowPa (j := 1) (u := .int .i64 (q.n : Nat)) rfl
      rw [hJ] at d0 d1 z0 z1
      rw [Nat.add_zero] at d0 z0
      rw [← Nat.add_assoc] at d1 z1
      replace h0 := hide h0
      by_cases he : q.gone + q.n = r.places
      · have hc : ((q.gone : Int) + (q.n : Int) == (r.places : Int)) = true := by simp; omega
        refine wp_region_held_drew (S := (fun W => W.cell? ⟨w.heap.size, 1, none⟩ = some (.int .i64 (r.places : Nat)) ∧ W.cell? ⟨w.heap.size, 4, none⟩ = some (.slice (some ⟨g3, o3, none⟩) np c3) ∧ W.cell? ⟨g3, o3 + J * 2, none⟩ = some (.int .i64 (q.gone : Nat)) ∧ W.cell? ⟨g3, o3 + J * 2 + 1, none⟩ = some (.int .i64 (q.n : Nat)))) (by kernel_rfl) ?_ (fun hHeld => ?_)
        · (try dsimp only); (exact ⟨(hb3.kept (Kept.refl [] w3).drew (by simp)).at.2.1, (hb3.kept (Kept.refl [] w3).drew (by simp)).at.2.2.2.2, (Kept.refl [] w3).drew.cell d0 (by simp), (Kept.refl [] w3).drew.cell d1 (by simp)⟩)
        refine wpAnyH_take (i := 0) (v := ?_) rfl (by kernel_rfl) (by kernel_rfl) (by kernel_rfl) (fun _ _ _ h => h) (Or.inl ⟨by rfl, ?_⟩) (by assumption) ?_
        rotate_left
        · (intro wq hSw; (try dsimp only at hSw); go_simp; try with_reducible rfl)
        try simp only [Act.put, List.getElem_toArray, List.getElem_cons_zero, List.setIfInBounds_toArray, List.set_cons_zero, List.set_cons_succ]
        refine wpAnyH_take (i := 1) (v := ?_) rfl (by kernel_rfl) (by kernel_rfl) (by kernel_rfl) (fun _ _ _ h => h) (Or.inl ⟨by rfl, ?_⟩) (by assumption) ?_
        rotate_left
        · (intro wq hSw; (try dsimp only at hSw); go_simp; try with_reducible rfl)
        try simp only [Act.put, List.getElem_toArray, List.getElem_cons_succ, List.getElem_cons_zero, List.setIfInBounds_toArray, List.set_cons_zero, List.set_cons_succ]
        refine wpAnyH_take (i := 2) (v := ?_) rfl (by kernel_rfl) (by kernel_rfl) (by kernel_rfl) (fun _ _ _ h => h) (Or.inl ⟨by rfl, ?_⟩) (by assumption) ?_
        rotate_left
        · (intro wq hSw; (try dsimp only at hSw); go_simp; try with_reducible rfl)
        try simp only [Act.put, List.getElem_toArray, List.getElem_cons_succ, List.getElem_cons_zero, List.setIfInBounds_toArray, List.set_cons_zero, List.set_cons_succ]
        refine wpAnyH_take (i := 3) (v := ?_) rfl (by kernel_rfl) (by kernel_rfl) (by kernel_rfl) (fun _ _ _ h => h) (Or.inl ⟨by rfl, ?_⟩) (by assumption) ?_
        rotate_left
        · (intro wq hSw; (try dsimp only at hSw); go_simp; try with_reducible rfl)
        try simp only [Act.put, List.getElem_toArray, List.getElem_cons_succ, List.getElem_cons_zero, List.setIfInBounds_toArray, List.set_cons_zero, List.set_cons_succ]
        refine wpAnyH_take (i := 4) (v := ?_) rfl (by kernel_rfl) (by kernel_rfl) (by kernel_rfl) (fun _ _ _ h => h) (Or.inl ⟨by rfl, ?_⟩) (by assumption) ?_
        rotate_left
        · (intro wq hSw; (try dsimp only at hSw); go_simp; try with_reducible rfl)
        try simp only [Act.put, List.getElem_toArray, List.getElem_cons_succ, List.getElem_cons_zero, List.setIfInBounds_toArray, List.set_cons_zero, List.set_cons_succ]
        refine wpAnyH_take (i := 5) (v := ?_) rfl (by kernel_rfl) (by kernel_rfl) (by kernel_rfl) (fun _ _ _ h => h) (Or.inl ⟨by rfl, ?_⟩) (by assumption) ?_
        rotate_left
        · (intro wq hSw; (try dsimp only at hSw); go_simp; try with_reducible rfl)
        try simp only [Act.put, List.getElem_toArray, List.getElem_cons_succ, List.getElem_cons_zero, List.setIfInBounds_toArray, List.set_cons_zero, List.set_cons_succ]
        refine wpAnyH_take (i := 6) (v := ?_) rfl (by kernel_rfl) (by kernel_rfl) (by kernel_rfl) (fun _ _ _ h => h) (Or.inl ⟨by rfl, ?_⟩) (by assumption) ?_
        rotate_left
        · (intro wq hSw; (try dsimp only at hSw); go_simp; try with_reducible rfl)
        try simp only [Act.put, List.getElem_toArray, List.getElem_cons_succ, List.getElem_cons_zero, List.setIfInBounds_toArray, List.set_cons_zero, List.set_cons_succ]
        refine wpAnyH_take (i := 7) (v := ?_) rfl (by kernel_rfl) (by kernel_rfl) (by kernel_rfl) (fun _ _ _ h => h) (Or.inl ⟨by rfl, ?_⟩) (by assumption) ?_
        rotate_left
        · (intro wq hSw; (try dsimp only at hSw); go_simp; try with_reducible rfl)
        try simp only [Act.put, List.getElem_toArray, List.getElem_cons_succ, List.getElem_cons_zero, List.setIfInBounds_toArray, List.set_cons_zero, List.set_cons_succ]
        refine wpAnyH_take (i := 8) (v := ?_) rfl (by kernel_rfl) (by kernel_rfl) (by kernel_rfl) (fun _ _ _ h => h) (Or.inl ⟨by rfl, ?_⟩) (by assumption) ?_
        rotate_left
        · (intro wq hSw; (try dsimp only at hSw); go_simp; try with_reducible rfl)
        try simp only [Act.put, List.getElem_toArray, List.getElem_cons_succ, List.getElem_cons_zero, List.setIfInBounds_toArray, List.set_cons_zero, List.set_cons_succ]
        refine wpAnyH_take (i := 9) (v := ?_) rfl (by kernel_rfl) (by kernel_rfl) (by kernel_rfl) (fun _ _ _ h => h) (Or.inl ⟨by rfl, ?_⟩) (by assumption) ?_
        rotate_left
        · (intro wq hSw; (try dsimp only at hSw); go_simp; try with_reducible rfl)
        try simp only [Act.put, List.getElem_toArray, List.getElem_cons_succ, List.getElem_cons_zero, List.setIfInBounds_toArray, List.set_cons_zero, List.set_cons_succ]
        refine wpAnyH_take (i := 10) (v := ?_) rfl (by kernel_rfl) (by kernel_rfl) (by kernel_rfl) (fun _ _ _ h => h) (Or.inl ⟨by rfl, ?_⟩) (by assumption) ?_
        rotate_left
        · (intro wq hSw; (try dsimp only at hSw); go_simp; try with_reducible rfl)
        try simp only [Act.put, List.getElem_toArray, List.getElem_cons_succ, List.getElem_cons_zero, List.setIfInBounds_toArray, List.set_cons_zero, List.set_cons_succ]
        refine wpAnyH_take (i := 11) (v := ?_) rfl (by kernel_rfl) (by kernel_rfl) (by kernel_rfl) (fun _ _ _ h => h) (Or.inl ⟨by rfl, ?_⟩) (by assumption) ?_
        rotate_left
        · (intro wq hSw; (try dsimp only at hSw); go_simp; try with_reducible rfl)
        try simp only [Act.put, List.getElem_toArray, List.getElem_cons_succ, List.getElem_cons_zero, List.setIfInBounds_toArray, List.set_cons_zero, List.set_cons_succ]
        refine wpAnyH_take (i := 12) (v := ?_) rfl (by kernel_rfl) (by kernel_rfl) (by kernel_rfl) (fun _ _ _ h => h) (Or.inl ⟨by rfl, ?_⟩) (by assumption) ?_
        rotate_left
        · (intro wq hSw; (try dsimp only at hSw); go_simp; try with_reducible rfl)
        try simp only [Act.put, List.getElem_toArray, List.getElem_cons_succ, List.getElem_cons_zero, List.setIfInBounds_toArray, List.set_cons_zero, List.set_cons_succ]
        refine wpAnyH_take (i := 13) (v := ?_) rfl (by kernel_rfl) (by kernel_rfl) (by kernel_rfl) (fun _ _ _ h => h) (Or.inl ⟨by rfl, ?_⟩) (by assumption) ?_
        rotate_left
        · (intro wq hSw; (try dsimp only at hSw); go_simp; try with_reducible rfl)
        try simp only [Act.put, List.getElem_toArray, List.getElem_cons_succ, List.getElem_cons_zero, List.setIfInBounds_toArray, List.set_cons_zero, List.set_cons_succ]
        refine wpAnyH_take (i := 14) (v := ?_) rfl (by kernel_rfl) (by kernel_rfl) (by kernel_rfl) (fun _ _ _ h => h) (Or.inl ⟨by rfl, ?_⟩) (by assumption) ?_
        rotate_left
        · (intro wq hSw; (try dsimp only at hSw); go_simp; try with_reducible rfl)
        try simp only [Act.put, List.getElem_toArray, List.getElem_cons_succ, List.getElem_cons_zero, List.setIfInBounds_toArray, List.set_cons_zero, List.set_cons_succ]
        refine wpAnyH_take (i := 15) (v := ?_) rfl (by kernel_rfl) (by kernel_rfl) (by kernel_rfl) (fun _ _ _ h => h) (Or.inl ⟨by rfl, ?_⟩) (by assumption) ?_
        rotate_left
        · (intro wq hSw; (try dsimp only at hSw); go_simp; try with_reducible rfl)
        try simp only [Act.put, List.getElem_toArray, List.getElem_cons_succ, List.getElem_cons_zero, List.setIfInBounds_toArray, List.set_cons_zero, List.set_cons_succ]
        refine wpAnyH_take (i := 16) (v := ?_) rfl (by kernel_rfl) (by kernel_rfl) (by kernel_rfl) (fun _ _ _ h => h) (Or.inl ⟨by rfl, ?_⟩) (by assumption) ?_
        rotate_left
        · (intro wq hSw; (try dsimp only at hSw); go_simp; try with_reducible rfl)
        try simp only [Act.put, List.getElem_toArray, List.getElem_cons_succ, List.getElem_cons_zero, List.setIfInBounds_toArray, List.set_cons_zero, List.set_cons_succ]
        refine wpAnyH_take (i := 17) (v := ?_) rfl (by kernel_rfl) (by kernel_rfl) (by kernel_rfl) (fun _ _ _ h => h) (Or.inl ⟨by rfl, ?_⟩) (by assumption) ?_
        rotate_left
        · (intro wq hSw; (try dsimp only at hSw); go_simp; try with_reducible rfl)
        try simp only [Act.put, List.getElem_toArray, List.getElem_cons_succ, List.getElem_cons_zero, List.setIfInBounds_toArray, List.set_cons_zero, List.set_cons_succ]
        refine wpAnyH_take (i := 18) (v := ?_) rfl (by kernel_rfl) (by kernel_rfl) (by kernel_rfl) (fun _ _ _ h => h) (Or.inl ⟨by rfl, ?_⟩) (by assumption) ?_
        rotate_left
        · (intro wq hSw; (try dsimp only at hSw); go_simp; try with_reducible rfl)
        try simp only [Act.put, List.getElem_toArray, List.getElem_cons_succ, List.getElem_cons_zero, List.setIfInBounds_toArray, List.set_cons_zero, List.set_cons_succ]
        refine wpAnyH_take (i := 19) (v := ?_) rfl (by kernel_rfl) (by kernel_rfl) (by kernel_rfl) (fun _ _ _ h => h) (Or.inl ⟨by rfl, ?_⟩) (by assumption) ?_
        rotate_left
        · (intro wq hSw; (try dsimp only at hSw); go_simp; try with_reducible rfl)
        try simp only [Act.put, List.getElem_toArray, List.getElem_cons_succ, List.getElem_cons_zero, List.setIfInBounds_toArray, List.set_cons_zero, List.set_cons_succ]
        refine wpAnyH_take (i := 20) (v := ?_) rfl (by kernel_rfl) (by kernel_rfl) (by kernel_rfl) (fun _ _ _ h => h) (Or.inl ⟨by rfl, ?_⟩) (by assumption) ?_
        rotate_left
        · (intro wq hSw; (try dsimp only at hSw); go_simp; try with_reducible rfl)
        try simp only [Act.put, List.getElem_toArray, List.getElem_cons_succ, List.getElem_cons_zero, List.setIfInBounds_toArray, List.set_cons_zero, List.set_cons_succ]
        refine wpAnyH_take (i := 21) (v := ?_) rfl (by kernel_rfl) (by kernel_rfl) (by kernel_rfl) (fun _ _ _ h => h) (Or.inl ⟨by rfl, ?_⟩) (by assumption) ?_
        rotate_left
        · (intro wq hSw; (try dsimp only at hSw); go_simp; try with_reducible rfl)
        try simp only [Act.put, List.getElem_toArray, List.getElem_cons_succ, List.getElem_cons_zero, List.setIfInBounds_toArray, List.set_cons_zero, List.set_cons_succ]
        refine wpAnyH_done (by kernel_rfl) ?_ _
        have k4 : Kept [] w3 w3.drew := (Kept.refl [] _).drew
        clear q0 q1 q2 q3 q4 hHeld
        generalize w3.drew = w4 at *
        have hb4 := hb3.kept k4 (by simp)
        have hk4 := hide (hk3.out.trans k4 (by simp))
        have hz4 := hide (hz3.out.kept k4 (by simp))
        have hy4 := hide (hy3.out.kept k4 (by simp))
        have hO14 := hide (hO1.out.kept k4 (by simp))
        have hO34 := hide (hO3.out.kept k4 (by simp))
        have hs4 : W0.heap.size ≤ w4.heap.size := by have := k4.size; omega
        obtain ⟨q0, q1, q2, q3, q4⟩ := hb4.at
        have hnb3 : w.heap.size ∉ blk (some ⟨g3, o3, none⟩) ∧ w.heap.size + 1 ∉ blk (some ⟨g3, o3, none⟩) ∧ w.heap.size + 1 + 1 ∉ blk (some ⟨g3, o3, none⟩) := ⟨fun hm => by have := hge3.out _ hm; omega, fun hm => by have := hge3.out _ hm; omega, fun hm => by have := hge3.out _ hm; omega⟩
        have hwA : IntKind.i64.wrap ((np : Int) + 1) = (np : Int) + 1 := by rw [IntKind.wrap_i64]; omega
        have hwJ : IntKind.i64.wrap ((np : Int) + 1 - 1) = (np : Int) := by rw [IntKind.wrap_i64]; omega
        have hiJ : (np : Int) < (np : Int) + 1 := by omega
        go_upto_region 7 with (at_builtin; refine wpList_app ?_ rfl elPage rfl rfl (hO34.out.alloc _) rfl (Rd.blockV 1 2 (heap_alloc_new w4 _) rfl) (by intro z hz; simp at hz; subst hz; rfl) (by omega) (by simp; omega); intro a5 c5 w5 ho5 hj5 hat5; have k45 : Kept (blk (some ⟨g3, o3, none⟩)) w4 w5 := (((Kept.refl [] w4).alloc _).mono (by simp)).trans hj5 (fun y hy => .inl hy); have p4 := (hb4.kept k45 hnb3.1).froz 4; have r4 := (hb4.kept k45 hnb3.1).at.2.2.2.2)
        have i6 := (hb4.kept k45 hnb3.1).setP a5 (np + 1) c5
        have j6 : Kept [w.heap.size] w5 (w5.setCell ⟨w.heap.size, 4, none⟩ (.slice a5 (np + 1) c5)) := (Kept.refl _ _).setCell (.inl (by simp)) _
        have hz5 := hz4.out.kept k45 hnb3.2.2
        have hy5 := hy4.out.kept k45 hnb3.2.1
        clear p4 r4 q0 q1 q2 q3 q4
        generalize w5.setCell ⟨w.heap.size, 4, none⟩ (.slice a5 (np + 1) c5) = w6 at *
        have k46 : Kept (w.heap.size :: blk (some ⟨g3, o3, none⟩)) w4 w6 := (k45.mono (by intro y hy; simp [hy])).trans j6 (fun y hy => .inl (by simp at hy; simp [hy]))
        have hge5 : ∀ y ∈ blk a5, W0.heap.size ≤ y := fun y hy => (ho5.ge y hy).1
        have hO6 : Own w6 W0.heap.size 94 a5 (np + 1) c5 2 (rowsV paV (r.ps ++ [⟨0, 0⟩])) := by
          have := ho5.kept j6 (fun y hy hm => by simp at hm; have := hge5 y hy; omega)
          simpa [rowsV, paV] using this
        have hPT := hO6.mid
        obtain ⟨g4, o4, rfl⟩ := hPT.rd.rowAddr rowPa (by simp)
        have hg4m : g4 ∈ blk (some ⟨g4, o4, none⟩) := by simp [blk]
        have hg4 := hge5 g4 hg4m
        have hd4 : g4 ∉ blk a1 := fun hm => by
          rcases hat5 g4 hg4m with h | h
          · exact hDis.out g4 hm h
          · have := (hO14.out.ge g4 hm).2
            simp at h
            omega
        have hOT := hO14.out.kept k46 (fun y hy hm => by
          rcases List.mem_cons.1 hm with h | h
          · have := hge1.out y hy; omega
          · exact hDis.out y hy h)
        have kT : Kept [] w w6 := hk4.out.trans k46 (fun y hy => .inr (by
          rcases List.mem_cons.1 hy with h | h
          · omega
          · have := hge3.out y h; omega))
        have hzT := hz5.kept j6 (by simp <;> omega)
        have hyT := hy5.kept j6 (by simp <;> omega)
        have hsT : W0.heap.size ≤ w6.heap.size := Nat.le_trans hs4 k46.size
        have iT := i6
        have hJT := hpn
        generalize hc4 : c5 = c4 at *
        have hPST : r.ps ++ [⟨0, 1⟩] = PS := by
          rw [← hPS, hps]
          rw [addP_last, if_pos he]; simp
        obtain ⟨d1, z1⟩ := hPT.cellLast rowPa (j := 1) (u := .int .i64 0) rfl
        rw [hJT, ← Nat.add_assoc] at d1 z1
        obtain ⟨q0, q1, q2, q3, q4⟩ := iT.at
        go_upto_region 9 with fail
        have hP8 := hPT.setLast rowPa (j := 1) (v := .int .i64 1) (d := ⟨0, 1⟩) (by decide) (by simp [paV])
        rw [hJT, ← Nat.add_assoc] at hP8
        have j8 : Kept [g4] w6 (w6.setCell ⟨g4, o4 + np * 2 + 1, none⟩ (.int .i64 1)) := (Kept.refl _ _).setCell (.inl (by simp)) _
        have i8 := iT.kept j8 (by simp; omega)
        have hO8 := hide (hOT.kept j8 (fun y hy hm => by simp at hm; subst hm; exact hd4 hy))
        have k8 := hide (kT.trans j8 (fun y hy => .inr (by simp at hy; omega)))
        have hz8 := hide (hzT.kept j8 (by simp; omega))
        have hy8 := hide (hyT.kept j8 (by simp; omega))
        have hs8 : W0.heap.size ≤ w6.heap.size := hsT
        have hs8 := Nat.le_trans hs8 j8.size
        clear q0 q1 q2 q3 q4 d1 z1 iT hPT
        generalize w6.setCell ⟨g4, o4 + np * 2 + 1, none⟩ (.int .i64 1) = w8 at *
        rw [hPST] at hP8
        have hg1 : ∀ y ∈ blk a1, W0.heap.size ≤ y ∧ y < w8.heap.size := fun y hy => hO8.out.ge y hy
        have hd8 : ∀ y ∈ blkC (some ⟨g4, o4, none⟩) c4, y ∉ blk a1 ∧ W0.heap.size ≤ y := fun y hy => by have h1 := blkC_is hy; subst h1; exact ⟨hd4, hg4⟩
        have kd : Kept [] w8 w8.drew := (Kept.refl [] _).drew
        obtain ⟨q0, q1, q2, q3, q4⟩ := (i8.kept kd (by simp)).at
        have hF : ∀ {S : List Nat} {W : World}, Kept S w8 W → (∀ y ∈ S, y ≠ w.heap.size + 1) → W.cell? ⟨w.heap.size + 1, 0, none⟩ = some (.slice u.a u.n u.c) ∧ W.cell? ⟨w.heap.size + 1, 1, none⟩ = some (.bool u.s) := fun hk hS => (hy8.out.kept hk (fun hm => hS _ hm rfl)).at
        have hCp := hide (rCopy_any u.a u.n u.c u.s x.l w8.drew (hX.out.rd.kept (k8.out.trans kd (by simp)) (by simp)) (by omega))
        refine wp_region_held_drew (S := (fun W => W.cell? ⟨w.heap.size + 1, 0, none⟩ = some (.slice u.a u.n u.c) ∧ W.cell? ⟨w.heap.size + 1, 1, none⟩ = some (.bool u.s))) (by kernel_rfl) ?_ (fun hHeld => ?_)
        · (try dsimp only); (first | exact hF k811 (fun y hy => hn11 y hy) | exact hF k810 (fun y hy => by have := (hg1 y hy).1; omega) | exact hF (k9.alloc _) (by simp) | exact hF k9 (by simp) | exact hF kd (by simp))
        refine wpAnyH_take (i := 0) (v := ?_) rfl (by kernel_rfl) (by kernel_rfl) (by kernel_rfl) (fun _ _ _ h => h) (Or.inl ⟨by rfl, ?_⟩) (by assumption) ?_
        rotate_left
        · (intro wq hSw; (try dsimp only at hSw); go_simp; try with_reducible rfl)
        try simp only [Act.put, List.getElem_toArray, List.getElem_cons_zero, List.setIfInBounds_toArray, List.set_cons_zero, List.set_cons_succ]
        refine wpAnyH_take (i := 2) (v := ?_) rfl (by kernel_rfl) (by kernel_rfl) (by kernel_rfl) (fun _ _ _ h => h) (Or.inl ⟨by rfl, ?_⟩) (by assumption) ?_
        rotate_left
        · (intro wq hSw; (try dsimp only at hSw); go_simp; try with_reducible rfl)
        try simp only [Act.put, List.getElem_toArray, List.getElem_cons_succ, List.getElem_cons_zero, List.setIfInBounds_toArray, List.set_cons_zero, List.set_cons_succ]
        refine wpAnyH_ready (rs := [1, 3]) (by kernel_rfl) (by simp) ?_
        refine AllReadyH.cons rfl (fun K hK => ?_) (AllReadyH.cons rfl (fun K hK => ?_) AllReadyH.nil)
        · go_simp
          try go_wp2_with fail
          refine hK.out _ _ ?_ (fun hHeld => ?_)
          · (try dsimp only); (first | exact hF k811 (fun y hy => hn11 y hy) | exact hF k810 (fun y hy => by have := (hg1 y hy).1; omega) | exact hF (k9.alloc _) (by simp) | exact hF k9 (by simp) | exact hF kd (by simp))
          clear hK K
          try simp only [Act.put, List.getElem_toArray, List.getElem_cons_succ, List.getElem_cons_zero, List.setIfInBounds_toArray, List.set_cons_zero, List.set_cons_succ]
          refine wpAnyH_ready (rs := [3]) (by kernel_rfl) (by simp) ?_
          refine AllReadyH.cons rfl (fun K hK => ?_) AllReadyH.nil
          go_simp
          refine hCp.out.mono ?_; rintro e w9 ⟨a9, n9, c9, rfl, ho9, h9a, h9b, j9⟩; have k9 : Kept [] w8 w9 := kd.trans j9 (by simp); have p3 := (i8.kept k9 (by simp)).at.2.2.2.1; have p3a := (i8.kept (k9.alloc (.cells #[.slice a9 n9 c9, .bool u.s] 36)) (by simp)).at.2.2.2.1
          try go_wp2_with fail
          refine hK.out _ _ ?_ (fun hHeld => ?_)
          · (try dsimp only); (first | exact hF k811 (fun y hy => hn11 y hy) | exact hF k810 (fun y hy => by have := (hg1 y hy).1; omega) | exact hF (k9.alloc _) (by simp) | exact hF k9 (by simp) | exact hF kd (by simp))
          clear hK K
          try simp only [Act.put, List.getElem_toArray, List.getElem_cons_succ, List.getElem_cons_zero, List.setIfInBounds_toArray, List.set_cons_zero, List.set_cons_succ]
          refine wpAnyH_ready (rs := [4]) (by kernel_rfl) (by simp) ?_
          refine AllReadyH.cons rfl (fun K hK => ?_) AllReadyH.nil
          go_simp
          try go_wp2_with fail
          refine hK.out _ _ ?_ (fun hHeld => ?_)
          · (try dsimp only); (first | exact hF k811 (fun y hy => hn11 y hy) | exact hF k810 (fun y hy => by have := (hg1 y hy).1; omega) | exact hF (k9.alloc _) (by simp) | exact hF k9 (by simp) | exact hF kd (by simp))
          clear hK K
          try simp only [Act.put, List.getElem_toArray, List.getElem_cons_succ, List.getElem_cons_zero, List.setIfInBounds_toArray, List.set_cons_zero, List.set_cons_succ]
          refine wpAnyH_ready (rs := [5]) (by kernel_rfl) (by simp) ?_
          refine AllReadyH.cons rfl (fun K hK => ?_) AllReadyH.nil
          rw [if_pos (by rfl)]
          refine wp_app ?_ elLine rfl rfl ((hO8.out.kept k9 (by simp)).alloc _) rfl (Rd.blockV 1 2 (heap_alloc_new w9 _) rfl) (by intro z hz; simp at hz; rcases hz with rfl | rfl <;> rfl) (by omega) (by have h1 := k9.size; simp; omega); intro a10 c10 w10 ho10 hj10 hat10; have k10 : Kept (blk a1) w9 w10 := (((Kept.refl [] w9).alloc _).mono (by simp)).trans hj10 (fun y hy => .inl hy); have k810 : Kept (blk a1) w8 w10 := (k9.mono (by simp)).trans k10 (fun y hy => .inl hy); have i10 := i8.kept k810 (fun hm => by have := (hg1 _ hm).1; omega); have p10 := i10.at.2.2.2.1; have f10 := i10.froz 3; have k811 : Kept (w.heap.size :: blk a1) w8 (w10.setCell ⟨w.heap.size, 3, none⟩ (.slice a10 (n + 1) c10)) := (k810.mono (by intro y hy; simp [hy])).setCell (.inl (by simp)) _; have hn11 : ∀ y ∈ w.heap.size :: blk a1, y ≠ w.heap.size + 1 := (by intro y hy; rcases List.mem_cons.1 hy with h | h <;> first | omega | (have := (hg1 y h).1; omega))
          refine hK.out _ _ ?_ (fun hHeld => ?_)
          · (try dsimp only); (first | exact hF k811 (fun y hy => hn11 y hy) | exact hF k810 (fun y hy => by have := (hg1 y hy).1; omega) | exact hF (k9.alloc _) (by simp) | exact hF k9 (by simp) | exact hF kd (by simp))
          clear hK K
          try simp only [Act.put, List.getElem_toArray, List.getElem_cons_succ, List.getElem_cons_zero, List.setIfInBounds_toArray, List.set_cons_zero, List.set_cons_succ]
          refine wpAnyH_take (i := 6) (v := ?_) rfl (by kernel_rfl) (by kernel_rfl) (by kernel_rfl) (fun _ _ _ h => h) (Or.inl ⟨by rfl, ?_⟩) (by assumption) ?_
          rotate_left
          · (intro wq hSw; (try dsimp only at hSw); go_simp; try with_reducible rfl)
          try simp only [Act.put, List.getElem_toArray, List.getElem_cons_succ, List.getElem_cons_zero, List.setIfInBounds_toArray, List.set_cons_zero, List.set_cons_succ]
          refine wpAnyH_ready (rs := [7]) (by kernel_rfl) (by simp) ?_
          refine AllReadyH.cons rfl (fun K hK => ?_) AllReadyH.nil
          go_simp
          try go_wp2_with fail
          refine hK.out _ _ ?_ (fun hHeld => ?_)
          · (try dsimp only); (first | exact hF k811 (fun y hy => hn11 y hy) | exact hF k810 (fun y hy => by have := (hg1 y hy).1; omega) | exact hF (k9.alloc _) (by simp) | exact hF k9 (by simp) | exact hF kd (by simp))
          clear hK K
          try simp only [Act.put, List.getElem_toArray, List.getElem_cons_succ, List.getElem_cons_zero, List.setIfInBounds_toArray, List.set_cons_zero, List.set_cons_succ]
          refine wpAnyH_done (by kernel_rfl) ?_ _
          obtain ⟨i11, hE⟩ := push_fin8 (ap := ap) (a := a) (np := np) k8.out i8 hz8.out hs0 hs8 hA0.out hP8 hd8 hg1 k9 ho9 h9a h9b hX.out.s ho10 k10 hsP.out hfP.out (by omega) (by omega) hfi hpl; have hE := hide hE; have i11 := hide i11; clear q0 q1 q2 q3 q4; obtain ⟨q0, q1, q2, q3, q4⟩ := i11.out.at; go_wp2_with fail; refine hE.out.mono ?_; rintro e w12 ⟨l', p', f', a', n', c', ap', np', cp', rfl, z12, hfin⟩; go_wp2_with (refine wpList_store_rg rfl rfl rfl (w.heap.size + 1 + 1) rfl z12 l' p' f' a' n' c' ap' np' cp' rfl ?_; intro w13 hb13 j13); refine bodyPost_ret (results_rg2 rfl rfl hb13 rfl) rfl ?_; exact hfin w13 j13
        · go_simp
          refine hCp.out.mono ?_; rintro e w9 ⟨a9, n9, c9, rfl, ho9, h9a, h9b, j9⟩; have k9 : Kept [] w8 w9 := kd.trans j9 (by simp); have p3 := (i8.kept k9 (by simp)).at.2.2.2.1; have p3a := (i8.kept (k9.alloc (.cells #[.slice a9 n9 c9, .bool u.s] 36)) (by simp)).at.2.2.2.1
          try go_wp2_with fail
          refine hK.out _ _ ?_ (fun hHeld => ?_)
          · (try dsimp only); (first | exact hF k811 (fun y hy => hn11 y hy) | exact hF k810 (fun y hy => by have := (hg1 y hy).1; omega) | exact hF (k9.alloc _) (by simp) | exact hF k9 (by simp) | exact hF kd (by simp))
          clear hK K
          try simp only [Act.put, List.getElem_toArray, List.getElem_cons_succ, List.getElem_cons_zero, List.setIfInBounds_toArray, List.set_cons_zero, List.set_cons_succ]
          refine wpAnyH_ready (rs := [1, 4]) (by kernel_rfl) (by simp) ?_
          refine AllReadyH.cons rfl (fun K hK => ?_) (AllReadyH.cons rfl (fun K hK => ?_) AllReadyH.nil)
          · go_simp
            try go_wp2_with fail
            refine hK.out _ _ ?_ (fun hHeld => ?_)
            · (try dsimp only); (first | exact hF k811 (fun y hy => hn11 y hy) | exact hF k810 (fun y hy => by have := (hg1 y hy).1; omega) | exact hF (k9.alloc _) (by simp) | exact hF k9 (by simp) | exact hF kd (by simp))
            clear hK K
            try simp only [Act.put, List.getElem_toArray, List.getElem_cons_succ, List.getElem_cons_zero, List.setIfInBounds_toArray, List.set_cons_zero, List.set_cons_succ]
            refine wpAnyH_ready (rs := [4]) (by kernel_rfl) (by simp) ?_
            refine AllReadyH.cons rfl (fun K hK => ?_) AllReadyH.nil
            go_simp
            try go_wp2_with fail
            refine hK.out _ _ ?_ (fun hHeld => ?_)
            · (try dsimp only); (first | exact hF k811 (fun y hy => hn11 y hy) | exact hF k810 (fun y hy => by have := (hg1 y hy).1; omega) | exact hF (k9.alloc _) (by simp) | exact hF k9 (by simp) | exact hF kd (by simp))
            clear hK K
            try simp only [Act.put, List.getElem_toArray, List.getElem_cons_succ, List.getElem_cons_zero, List.setIfInBounds_toArray, List.set_cons_zero, List.set_cons_succ]
            refine wpAnyH_ready (rs := [5]) (by kernel_rfl) (by simp) ?_
            refine AllReadyH.cons rfl (fun K hK => ?_) AllReadyH.nil
            rw [if_pos (by rfl)]
            refine wp_app ?_ elLine rfl rfl ((hO8.out.kept k9 (by simp)).alloc _) rfl (Rd.blockV 1 2 (heap_alloc_new w9 _) rfl) (by intro z hz; simp at hz; rcases hz with rfl | rfl <;> rfl) (by omega) (by have h1 := k9.size; simp; omega); intro a10 c10 w10 ho10 hj10 hat10; have k10 : Kept (blk a1) w9 w10 := (((Kept.refl [] w9).alloc _).mono (by simp)).trans hj10 (fun y hy => .inl hy); have k810 : Kept (blk a1) w8 w10 := (k9.mono (by simp)).trans k10 (fun y hy => .inl hy); have i10 := i8.kept k810 (fun hm => by have := (hg1 _ hm).1; omega); have p10 := i10.at.2.2.2.1; have f10 := i10.froz 3; have k811 : Kept (w.heap.size :: blk a1) w8 (w10.setCell ⟨w.heap.size, 3, none⟩ (.slice a10 (n + 1) c10)) := (k810.mono (by intro y hy; simp [hy])).setCell (.inl (by simp)) _; have hn11 : ∀ y ∈ w.heap.size :: blk a1, y ≠ w.heap.size + 1 := (by intro y hy; rcases List.mem_cons.1 hy with h | h <;> first | omega | (have := (hg1 y h).1; omega))
            refine hK.out _ _ ?_ (fun hHeld => ?_)
            · (try dsimp only); (first | exact hF k811 (fun y hy => hn11 y hy) | exact hF k810 (fun y hy => by have := (hg1 y hy).1; omega) | exact hF (k9.alloc _) (by simp) | exact hF k9 (by simp) | exact hF kd (by simp))
            clear hK K
            try simp only [Act.put, List.getElem_toArray, List.getElem_cons_succ, List.getElem_cons_zero, List.setIfInBounds_toArray, List.set_cons_zero, List.set_cons_succ]
            refine wpAnyH_take (i := 6) (v := ?_) rfl (by kernel_rfl) (by kernel_rfl) (by kernel_rfl) (fun _ _ _ h => h) (Or.inl ⟨by rfl, ?_⟩) (by assumption) ?_
            rotate_left
            · (intro wq hSw; (try dsimp only at hSw); go_simp; try with_reducible rfl)
            try simp only [Act.put, List.getElem_toArray, List.getElem_cons_succ, List.getElem_cons_zero, List.setIfInBounds_toArray, List.set_cons_zero, List.set_cons_succ]
            refine wpAnyH_ready (rs := [7]) (by kernel_rfl) (by simp) ?_
            refine AllReadyH.cons rfl (fun K hK => ?_) AllReadyH.nil
            go_simp
            try go_wp2_with fail
            refine hK.out _ _ ?_ (fun hHeld => ?_)
            · (try dsimp only); (first | exact hF k811 (fun y hy => hn11 y hy) | exact hF k810 (fun y hy => by have := (hg1 y hy).1; omega) | exact hF (k9.alloc _) (by simp) | exact hF k9 (by simp) | exact hF kd (by simp))
            clear hK K
            try simp only [Act.put, List.getElem_toArray, List.getElem_cons_succ, List.getElem_cons_zero, List.setIfInBounds_toArray, List.set_cons_zero, List.set_cons_succ]
            refine wpAnyH_done (by kernel_rfl) ?_ _
            obtain ⟨i11, hE⟩ := push_fin8 (ap := ap) (a := a) (np := np) k8.out i8 hz8.out hs0 hs8 hA0.out hP8 hd8 hg1 k9 ho9 h9a h9b hX.out.s ho10 k10 hsP.out hfP.out (by omega) (by omega) hfi hpl; have hE := hide hE; have i11 := hide i11; clear q0 q1 q2 q3 q4; obtain ⟨q0, q1, q2, q3, q4⟩ := i11.out.at; go_wp2_with fail; refine hE.out.mono ?_; rintro e w12 ⟨l', p', f', a', n', c', ap', np', cp', rfl, z12, hfin⟩; go_wp2_with (refine wpList_store_rg rfl rfl rfl (w.heap.size + 1 + 1) rfl z12 l' p' f' a' n' c' ap' np' cp' rfl ?_; intro w13 hb13 j13); refine bodyPost_ret (results_rg2 rfl rfl hb13 rfl) rfl ?_; exact hfin w13 j13
          · go_simp
            try go_wp2_with fail
            refine hK.out _ _ ?_ (fun hHeld => ?_)
            · (try dsimp only); (first | exact hF k811 (fun y hy => hn11 y hy) | exact hF k810 (fun y hy => by have := (hg1 y hy).1; omega) | exact hF (k9.alloc _) (by simp) | exact hF k9 (by simp) | exact hF kd (by simp))
            clear hK K
            try simp only [Act.put, List.getElem_toArray, List.getElem_cons_succ, List.getElem_cons_zero, List.setIfInBounds_toArray, List.set_cons_zero, List.set_cons_succ]
            refine wpAnyH_ready (rs := [1]) (by kernel_rfl) (by simp) ?_
            refine AllReadyH.cons rfl (fun K hK => ?_) AllReadyH.nil
            go_simp
            try go_wp2_with fail
            refine hK.out _ _ ?_ (fun hHeld => ?_)
            · (try dsimp only); (first | exact hF k811 (fun y hy => hn11 y hy) | exact hF k810 (fun y hy => by have := (hg1 y hy).1; omega) | exact hF (k9.alloc _) (by simp) | exact hF k9 (by simp) | exact hF kd (by simp))
            clear hK K
            try simp only [Act.put, List.getElem_toArray, List.getElem_cons_succ, List.getElem_cons_zero, List.setIfInBounds_toArray, List.set_cons_zero, List.set_cons_succ]
            refine wpAnyH_ready (rs := [5]) (by kernel_rfl) (by simp) ?_
            refine AllReadyH.cons rfl (fun K hK => ?_) AllReadyH.nil
            rw [if_pos (by rfl)]
            refine wp_app ?_ elLine rfl rfl ((hO8.out.kept k9 (by simp)).alloc _) rfl (Rd.blockV 1 2 (heap_alloc_new w9 _) rfl) (by intro z hz; simp at hz; rcases hz with rfl | rfl <;> rfl) (by omega) (by have h1 := k9.size; simp; omega); intro a10 c10 w10 ho10 hj10 hat10; have k10 : Kept (blk a1) w9 w10 := (((Kept.refl [] w9).alloc _).mono (by simp)).trans hj10 (fun y hy => .inl hy); have k810 : Kept (blk a1) w8 w10 := (k9.mono (by simp)).trans k10 (fun y hy => .inl hy); have i10 := i8.kept k810 (fun hm => by have := (hg1 _ hm).1; omega); have p10 := i10.at.2.2.2.1; have f10 := i10.froz 3; have k811 : Kept (w.heap.size :: blk a1) w8 (w10.setCell ⟨w.heap.size, 3, none⟩ (.slice a10 (n + 1) c10)) := (k810.mono (by intro y hy; simp [hy])).setCell (.inl (by simp)) _; have hn11 : ∀ y ∈ w.heap.size :: blk a1, y ≠ w.heap.size + 1 := (by intro y hy; rcases List.mem_cons.1 hy with h | h <;> first | omega | (have := (hg1 y h).1; omega))
            refine hK.out _ _ ?_ (fun hHeld => ?_)
            · (try dsimp only); (first | exact hF k811 (fun y hy => hn11 y hy) | exact hF k810 (fun y hy => by have := (hg1 y hy).1; omega) | exact hF (k9.alloc _) (by simp) | exact hF k9 (by simp) | exact hF kd (by simp))
            clear hK K
            try simp only [Act.put, List.getElem_toArray, List.getElem_cons_succ, List.getElem_cons_zero, List.setIfInBounds_toArray, List.set_cons_zero, List.set_cons_succ]
            refine wpAnyH_take (i := 6) (v := ?_) rfl (by kernel_rfl) (by kernel_rfl) (by kernel_rfl) (fun _ _ _ h => h) (Or.inl ⟨by rfl, ?_⟩) (by assumption) ?_
            rotate_left
            · (intro wq hSw; (try dsimp only at hSw); go_simp; try with_reducible rfl)
            try simp only [Act.put, List.getElem_toArray, List.getElem_cons_succ, List.getElem_cons_zero, List.setIfInBounds_toArray, List.set_cons_zero, List.set_cons_succ]
            refine wpAnyH_ready (rs := [7]) (by kernel_rfl) (by simp) ?_
            refine AllReadyH.cons rfl (fun K hK => ?_) AllReadyH.nil
            go_simp
            try go_wp2_with fail
            refine hK.out _ _ ?_ (fun hHeld => ?_)
            · (try dsimp only); (first | exact hF k811 (fun y hy => hn11 y hy) | exact hF k810 (fun y hy => by have := (hg1 y hy).1; omega) | exact hF (k9.alloc _) (by simp) | exact hF k9 (by simp) | exact hF kd (by simp))
            clear hK K
            try simp only [Act.put, List.getElem_toArray, List.getElem_cons_succ, List.getElem_cons_zero, List.setIfInBounds_toArray, List.set_cons_zero, List.set_cons_succ]
            refine wpAnyH_done (by kernel_rfl) ?_ _
            obtain ⟨i11, hE⟩ := push_fin8 (ap := ap) (a := a) (np := np) k8.out i8 hz8.out hs0 hs8 hA0.out hP8 hd8 hg1 k9 ho9 h9a h9b hX.out.s ho10 k10 hsP.out hfP.out (by omega) (by omega) hfi hpl; have hE := hide hE; have i11 := hide i11; clear q0 q1 q2 q3 q4; obtain ⟨q0, q1, q2, q3, q4⟩ := i11.out.at; go_wp2_with fail; refine hE.out.mono ?_; rintro e w12 ⟨l', p', f', a', n', c', ap', np', cp', rfl, z12, hfin⟩; go_wp2_with (refine wpList_store_rg rfl rfl rfl (w.heap.size + 1 + 1) rfl z12 l' p' f' a' n' c' ap' np' cp' rfl ?_; intro w13 hb13 j13); refine bodyPost_ret (results_rg2 rfl rfl hb13 rfl) rfl ?_; exact hfin w13 j13

      · have hc : ((q.gone : Int) + (q.n : Int) == (r.places : Int)) = false := by simp; omega
        refine wp_region_held_drew (S := (fun W => W.cell? ⟨w.heap.size, 1, none⟩ = some (.int .i64 (r.places : Nat)) ∧ W.cell? ⟨w.heap.size, 4, none⟩ = some (.slice (some ⟨g3, o3, none⟩) np c3) ∧ W.cell? ⟨g3, o3 + J * 2, none⟩ = some (.int .i64 (q.gone : Nat)) ∧ W.cell? ⟨g3, o3 + J * 2 + 1, none⟩ = some (.int .i64 (q.n : Nat)))) (by kernel_rfl) ?_ (fun hHeld => ?_)
        · (try dsimp only); (exact ⟨(hb3.kept (Kept.refl [] w3).drew (by simp)).at.2.1, (hb3.kept (Kept.refl [] w3).drew (by simp)).at.2.2.2.2, (Kept.refl [] w3).drew.cell d0 (by simp), (Kept.refl [] w3).drew.cell d1 (by simp)⟩)
        refine wpAnyH_take (i := 0) (v := ?_) rfl (by kernel_rfl) (by kernel_rfl) (by kernel_rfl) (fun _ _ _ h => h) (Or.inl ⟨by rfl, ?_⟩) (by assumption) ?_
        rotate_left
        · (intro wq hSw; (try dsimp only at hSw); go_simp; try with_reducible rfl)
        try simp only [Act.put, List.getElem_toArray, List.getElem_cons_zero, List.setIfInBounds_toArray, List.set_cons_zero, List.set_cons_succ]
        refine wpAnyH_take (i := 1) (v := ?_) rfl (by kernel_rfl) (by kernel_rfl) (by kernel_rfl) (fun _ _ _ h => h) (Or.inl ⟨by rfl, ?_⟩) (by assumption) ?_
        rotate_left
        · (intro wq hSw; (try dsimp only at hSw); go_simp; try with_reducible rfl)
        try simp only [Act.put, List.getElem_toArray, List.getElem_cons_succ, List.getElem_cons_zero, List.setIfInBounds_toArray, List.set_cons_zero, List.set_cons_succ]
        refine wpAnyH_take (i := 2) (v := ?_) rfl (by kernel_rfl) (by kernel_rfl) (by kernel_rfl) (fun _ _ _ h => h) (Or.inl ⟨by rfl, ?_⟩) (by assumption) ?_
        rotate_left
        · (intro wq hSw; (try dsimp only at hSw); go_simp; try with_reducible rfl)
        try simp only [Act.put, List.getElem_toArray, List.getElem_cons_succ, List.getElem_cons_zero, List.setIfInBounds_toArray, List.set_cons_zero, List.set_cons_succ]
        refine wpAnyH_take (i := 3) (v := ?_) rfl (by kernel_rfl) (by kernel_rfl) (by kernel_rfl) (fun _ _ _ h => h) (Or.inl ⟨by rfl, ?_⟩) (by assumption) ?_
        rotate_left
        · (intro wq hSw; (try dsimp only at hSw); go_simp; try with_reducible rfl)
        try simp only [Act.put, List.getElem_toArray, List.getElem_cons_succ, List.getElem_cons_zero, List.setIfInBounds_toArray, List.set_cons_zero, List.set_cons_succ]
        refine wpAnyH_take (i := 4) (v := ?_) rfl (by kernel_rfl) (by kernel_rfl) (by kernel_rfl) (fun _ _ _ h => h) (Or.inl ⟨by rfl, ?_⟩) (by assumption) ?_
        rotate_left
        · (intro wq hSw; (try dsimp only at hSw); go_simp; try with_reducible rfl)
        try simp only [Act.put, List.getElem_toArray, List.getElem_cons_succ, List.getElem_cons_zero, List.setIfInBounds_toArray, List.set_cons_zero, List.set_cons_succ]
        refine wpAnyH_take (i := 5) (v := ?_) rfl (by kernel_rfl) (by kernel_rfl) (by kernel_rfl) (fun _ _ _ h => h) (Or.inl ⟨by rfl, ?_⟩) (by assumption) ?_
        rotate_left
        · (intro wq hSw; (try dsimp only at hSw); go_simp; try with_reducible rfl)
        try simp only [Act.put, List.getElem_toArray, List.getElem_cons_succ, List.getElem_cons_zero, List.setIfInBounds_toArray, List.set_cons_zero, List.set_cons_succ]
        refine wpAnyH_take (i := 6) (v := ?_) rfl (by kernel_rfl) (by kernel_rfl) (by kernel_rfl) (fun _ _ _ h => h) (Or.inl ⟨by rfl, ?_⟩) (by assumption) ?_
        rotate_left
        · (intro wq hSw; (try dsimp only at hSw); go_simp; try with_reducible rfl)
        try simp only [Act.put, List.getElem_toArray, List.getElem_cons_succ, List.getElem_cons_zero, List.setIfInBounds_toArray, List.set_cons_zero, List.set_cons_succ]
        refine wpAnyH_take (i := 7) (v := ?_) rfl (by kernel_rfl) (by kernel_rfl) (by kernel_rfl) (fun _ _ _ h => h) (Or.inl ⟨by rfl, ?_⟩) (by assumption) ?_
        rotate_left
        · (intro wq hSw; (try dsimp only at hSw); go_simp; try with_reducible rfl)
        try simp only [Act.put, List.getElem_toArray, List.getElem_cons_succ, List.getElem_cons_zero, List.setIfInBounds_toArray, List.set_cons_zero, List.set_cons_succ]
        refine wpAnyH_take (i := 8) (v := ?_) rfl (by kernel_rfl) (by kernel_rfl) (by kernel_rfl) (fun _ _ _ h => h) (Or.inl ⟨by rfl, ?_⟩) (by assumption) ?_
        rotate_left
        · (intro wq hSw; (try dsimp only at hSw); go_simp; try with_reducible rfl)
        try simp only [Act.put, List.getElem_toArray, List.getElem_cons_succ, List.getElem_cons_zero, List.setIfInBounds_toArray, List.set_cons_zero, List.set_cons_succ]
        refine wpAnyH_take (i := 9) (v := ?_) rfl (by kernel_rfl) (by kernel_rfl) (by kernel_rfl) (fun _ _ _ h => h) (Or.inl ⟨by rfl, ?_⟩) (by assumption) ?_
        rotate_left
        · (intro wq hSw; (try dsimp only at hSw); go_simp; try with_reducible rfl)
        try simp only [Act.put, List.getElem_toArray, List.getElem_cons_succ, List.getElem_cons_zero, List.setIfInBounds_toArray, List.set_cons_zero, List.set_cons_succ]
        refine wpAnyH_take (i := 10) (v := ?_) rfl (by kernel_rfl) (by kernel_rfl) (by kernel_rfl) (fun _ _ _ h => h) (Or.inl ⟨by rfl, ?_⟩) (by assumption) ?_
        rotate_left
        · (intro wq hSw; (try dsimp only at hSw); go_simp; try with_reducible rfl)
        try simp only [Act.put, List.getElem_toArray, List.getElem_cons_succ, List.getElem_cons_zero, List.setIfInBounds_toArray, List.set_cons_zero, List.set_cons_succ]
        refine wpAnyH_take (i := 11) (v := ?_) rfl (by kernel_rfl) (by kernel_rfl) (by kernel_rfl) (fun _ _ _ h => h) (Or.inl ⟨by rfl, ?_⟩) (by assumption) ?_
        rotate_left
        · (intro wq hSw; (try dsimp only at hSw); go_simp; try with_reducible rfl)
        try simp only [Act.put, List.getElem_toArray, List.getElem_cons_succ, List.getElem_cons_zero, List.setIfInBounds_toArray, List.set_cons_zero, List.set_cons_succ]
        refine wpAnyH_take (i := 12) (v := ?_) rfl (by kernel_rfl) (by kernel_rfl) (by kernel_rfl) (fun _ _ _ h => h) (Or.inl ⟨by rfl, ?_⟩) (by assumption) ?_
        rotate_left
        · (intro wq hSw; (try dsimp only at hSw); go_simp; try with_reducible rfl)
        try simp only [Act.put, List.getElem_toArray, List.getElem_cons_succ, List.getElem_cons_zero, List.setIfInBounds_toArray, List.set_cons_zero, List.set_cons_succ]
        refine wpAnyH_take (i := 13) (v := ?_) rfl (by kernel_rfl) (by kernel_rfl) (by kernel_rfl) (fun _ _ _ h => h) (Or.inl ⟨by rfl, ?_⟩) (by assumption) ?_
        rotate_left
        · (intro wq hSw; (try dsimp only at hSw); go_simp; try with_reducible rfl)
        try simp only [Act.put, List.getElem_toArray, List.getElem_cons_succ, List.getElem_cons_zero, List.setIfInBounds_toArray, List.set_cons_zero, List.set_cons_succ]
        refine wpAnyH_take (i := 14) (v := ?_) rfl (by kernel_rfl) (by kernel_rfl) (by kernel_rfl) (fun _ _ _ h => h) (Or.inl ⟨by rfl, ?_⟩) (by assumption) ?_
        rotate_left
        · (intro wq hSw; (try dsimp only at hSw); go_simp; try with_reducible rfl)
        try simp only [Act.put, List.getElem_toArray, List.getElem_cons_succ, List.getElem_cons_zero, List.setIfInBounds_toArray, List.set_cons_zero, List.set_cons_succ]
        refine wpAnyH_take (i := 15) (v := ?_) rfl (by kernel_rfl) (by kernel_rfl) (by kernel_rfl) (fun _ _ _ h => h) (Or.inl ⟨by rfl, ?_⟩) (by assumption) ?_
        rotate_left
        · (intro wq hSw; (try dsimp only at hSw); go_simp; try with_reducible rfl)
        try simp only [Act.put, List.getElem_toArray, List.getElem_cons_succ, List.getElem_cons_zero, List.setIfInBounds_toArray, List.set_cons_zero, List.set_cons_succ]
        refine wpAnyH_take (i := 16) (v := ?_) rfl (by kernel_rfl) (by kernel_rfl) (by kernel_rfl) (fun _ _ _ h => h) (Or.inl ⟨by rfl, ?_⟩) (by assumption) ?_
        rotate_left
        · (intro wq hSw; (try dsimp only at hSw); go_simp; try with_reducible rfl)
        try simp only [Act.put, List.getElem_toArray, List.getElem_cons_succ, List.getElem_cons_zero, List.setIfInBounds_toArray, List.set_cons_zero, List.set_cons_succ]
        refine wpAnyH_take (i := 17) (v := ?_) rfl (by kernel_rfl) (by kernel_rfl) (by kernel_rfl) (fun _ _ _ h => h) (Or.inl ⟨by rfl, ?_⟩) (by assumption) ?_
        rotate_left
        · (intro wq hSw; (try dsimp only at hSw); go_simp; try with_reducible rfl)
        try simp only [Act.put, List.getElem_toArray, List.getElem_cons_succ, List.getElem_cons_zero, List.setIfInBounds_toArray, List.set_cons_zero, List.set_cons_succ]
        refine wpAnyH_take (i := 18) (v := ?_) rfl (by kernel_rfl) (by kernel_rfl) (by kernel_rfl) (fun _ _ _ h => h) (Or.inl ⟨by rfl, ?_⟩) (by assumption) ?_
        rotate_left
        · (intro wq hSw; (try dsimp only at hSw); go_simp; try with_reducible rfl)
        try simp only [Act.put, List.getElem_toArray, List.getElem_cons_succ, List.getElem_cons_zero, List.setIfInBounds_toArray, List.set_cons_zero, List.set_cons_succ]
        refine wpAnyH_take (i := 19) (v := ?_) rfl (by kernel_rfl) (by kernel_rfl) (by kernel_rfl) (fun _ _ _ h => h) (Or.inl ⟨by rfl, ?_⟩) (by assumption) ?_
        rotate_left
        · (intro wq hSw; (try dsimp only at hSw); go_simp; try with_reducible rfl)
        try simp only [Act.put, List.getElem_toArray, List.getElem_cons_succ, List.getElem_cons_zero, List.setIfInBounds_toArray, List.set_cons_zero, List.set_cons_succ]
        refine wpAnyH_take (i := 20) (v := ?_) rfl (by kernel_rfl) (by kernel_rfl) (by kernel_rfl) (fun _ _ _ h => h) (Or.inl ⟨by rfl, ?_⟩) (by assumption) ?_
        rotate_left
        · (intro wq hSw; (try dsimp only at hSw); go_simp; try with_reducible rfl)
        try simp only [Act.put, List.getElem_toArray, List.getElem_cons_succ, List.getElem_cons_zero, List.setIfInBounds_toArray, List.set_cons_zero, List.set_cons_succ]
        refine wpAnyH_take (i := 21) (v := ?_) rfl (by kernel_rfl) (by kernel_rfl) (by kernel_rfl) (fun _ _ _ h => h) (Or.inl ⟨by rfl, ?_⟩) (by assumption) ?_
        rotate_left
        · (intro wq hSw; (try dsimp only at hSw); go_simp; try with_reducible rfl)
        try simp only [Act.put, List.getElem_toArray, List.getElem_cons_succ, List.getElem_cons_zero, List.setIfInBounds_toArray, List.set_cons_zero, List.set_cons_succ]
        refine wpAnyH_done (by kernel_rfl) ?_ _
        have k4 : Kept [] w3 w3.drew := (Kept.refl [] _).drew
        clear q0 q1 q2 q3 q4 hHeld
        generalize w3.drew = w4 at *
        have hb4 := hb3.kept k4 (by simp)
        have hk4 := hide (hk3.out.trans k4 (by simp))
        have hz4 := hide (hz3.out.kept k4 (by simp))
        have hy4 := hide (hy3.out.kept k4 (by simp))
        have hO14 := hide (hO1.out.kept k4 (by simp))
        have hO34 := hide (hO3.out.kept k4 (by simp))
        have hs4 : W0.heap.size ≤ w4.heap.size := by have := k4.size; omega
        obtain ⟨q0, q1, q2, q3, q4⟩ := hb4.at
        have hPT := (hM3.kept k4 (by simp))
        generalize hc4 : c3 = c4 at *
        have g3m : g3 ∈ blk (some ⟨g3, o3, none⟩) := by simp [blk]
        have hg4 := Nat.le_trans hw11 (hge3.out g3 g3m)
        have hd4 : g3 ∉ blk a1 := fun hm => hDis.out g3 hm g3m
        have hOT := hO14.out
        have kT := hk4.out
        have hzT := hz4.out
        have hyT := hy4.out
        have hsT := hs4
        have iT := hb4
        have hJT := hJ
        have hwq : IntKind.i64.wrap ((q.n : Int) + 1) = (q.n : Int) + 1 := by rw [IntKind.wrap_i64]; omega
        have hPST : qs ++ [⟨q.gone, q.n + 1⟩] = PS := by rw [← hPS, hps, addP_last, if_neg he]
        generalize hgg : g3 = g4 at *
        generalize hoo : o3 = o4 at *
        clear q0 q1 q2 q3 q4
        obtain ⟨d1, z1⟩ := hPT.cellLast rowPa (j := 1) (u := .int .i64 (q.n : Nat)) rfl
        rw [hJT, ← Nat.add_assoc] at d1 z1
        obtain ⟨q0, q1, q2, q3, q4⟩ := iT.at
        go_upto_region 9 with fail
        have hP8 := hPT.setLast rowPa (j := 1) (v := .int .i64 ((q.n : Int) + 1)) (d := ⟨q.gone, q.n + 1⟩) (by decide) (by simp [paV])
        rw [hJT, ← Nat.add_assoc] at hP8
        have j8 : Kept [g4] w4 (w4.setCell ⟨g4, o4 + J * 2 + 1, none⟩ (.int .i64 ((q.n : Int) + 1))) := (Kept.refl _ _).setCell (.inl (by simp)) _
        have i8 := iT.kept j8 (by simp; omega)
        have hO8 := hide (hOT.kept j8 (fun y hy hm => by simp at hm; subst hm; exact hd4 hy))
        have k8 := hide (kT.trans j8 (fun y hy => .inr (by simp at hy; omega)))
        have hz8 := hide (hzT.kept j8 (by simp; omega))
        have hy8 := hide (hyT.kept j8 (by simp; omega))
        have hs8 : W0.heap.size ≤ w4.heap.size := hsT
        have hs8 := Nat.le_trans hs8 j8.size
        clear q0 q1 q2 q3 q4 d1 z1 iT hPT
        generalize w4.setCell ⟨g4, o4 + J * 2 + 1, none⟩ (.int .i64 ((q.n : Int) + 1)) = w8 at *
        rw [hPST] at hP8
        have hg1 : ∀ y ∈ blk a1, W0.heap.size ≤ y ∧ y < w8.heap.size := fun y hy => hO8.out.ge y hy
        have hd8 : ∀ y ∈ blkC (some ⟨g4, o4, none⟩) c4, y ∉ blk a1 ∧ W0.heap.size ≤ y := fun y hy => by have h1 := blkC_is hy; subst h1; exact ⟨hd4, hg4⟩
        have kd : Kept [] w8 w8.drew := (Kept.refl [] _).drew
        obtain ⟨q0, q1, q2, q3, q4⟩ := (i8.kept kd (by simp)).at
        have hF : ∀ {S : List Nat} {W : World}, Kept S w8 W → (∀ y ∈ S, y ≠ w.heap.size + 1) → W.cell? ⟨w.heap.size + 1, 0, none⟩ = some (.slice u.a u.n u.c) ∧ W.cell? ⟨w.heap.size + 1, 1, none⟩ = some (.bool u.s) := fun hk hS => (hy8.out.kept hk (fun hm => hS _ hm rfl)).at
        have hCp := hide (rCopy_any u.a u.n u.c u.s x.l w8.drew (hX.out.rd.kept (k8.out.trans kd (by simp)) (by simp)) (by omega))
        refine wp_region_held_drew (S := (fun W => W.cell? ⟨w.heap.size + 1, 0, none⟩ = some (.slice u.a u.n u.c) ∧ W.cell? ⟨w.heap.size + 1, 1, none⟩ = some (.bool u.s))) (by kernel_rfl) ?_ (fun hHeld => ?_)
        · (try dsimp only); (first | exact hF k811 (fun y hy => hn11 y hy) | exact hF k810 (fun y hy => by have := (hg1 y hy).1; omega) | exact hF (k9.alloc _) (by simp) | exact hF k9 (by simp) | exact hF kd (by simp))
        refine wpAnyH_take (i := 0) (v := ?_) rfl (by kernel_rfl) (by kernel_rfl) (by kernel_rfl) (fun _ _ _ h => h) (Or.inl ⟨by rfl, ?_⟩) (by assumption) ?_
        rotate_left
        · (intro wq hSw; (try dsimp only at hSw); go_simp; try with_reducible rfl)
        try simp only [Act.put, List.getElem_toArray, List.getElem_cons_zero, List.setIfInBounds_toArray, List.set_cons_zero, List.set_cons_succ]
        refine wpAnyH_take (i := 2) (v := ?_) rfl (by kernel_rfl) (by kernel_rfl) (by kernel_rfl) (fun _ _ _ h => h) (Or.inl ⟨by rfl, ?_⟩) (by assumption) ?_
        rotate_left
        · (intro wq hSw; (try dsimp only at hSw); go_simp; try with_reducible rfl)
        try simp only [Act.put, List.getElem_toArray, List.getElem_cons_succ, List.getElem_cons_zero, List.setIfInBounds_toArray, List.set_cons_zero, List.set_cons_succ]
        refine wpAnyH_ready (rs := [1, 3]) (by kernel_rfl) (by simp) ?_
        refine AllReadyH.cons rfl (fun K hK => ?_) (AllReadyH.cons rfl (fun K hK => ?_) AllReadyH.nil)
        · go_simp
          try go_wp2_with fail
          refine hK.out _ _ ?_ (fun hHeld => ?_)
          · (try dsimp only); (first | exact hF k811 (fun y hy => hn11 y hy) | exact hF k810 (fun y hy => by have := (hg1 y hy).1; omega) | exact hF (k9.alloc _) (by simp) | exact hF k9 (by simp) | exact hF kd (by simp))
          clear hK K
          try simp only [Act.put, List.getElem_toArray, List.getElem_cons_succ, List.getElem_cons_zero, List.setIfInBounds_toArray, List.set_cons_zero, List.set_cons_succ]
          refine wpAnyH_ready (rs := [3]) (by kernel_rfl) (by simp) ?_
          refine AllReadyH.cons rfl (fun K hK => ?_) AllReadyH.nil
          go_simp
          refine hCp.out.mono ?_; rintro e w9 ⟨a9, n9, c9, rfl, ho9, h9a, h9b, j9⟩; have k9 : Kept [] w8 w9 := kd.trans j9 (by simp); have p3 := (i8.kept k9 (by simp)).at.2.2.2.1; have p3a := (i8.kept (k9.alloc (.cells #[.slice a9 n9 c9, .bool u.s] 36)) (by simp)).at.2.2.2.1
          try go_wp2_with fail
          refine hK.out _ _ ?_ (fun hHeld => ?_)
          · (try dsimp only); (first | exact hF k811 (fun y hy => hn11 y hy) | exact hF k810 (fun y hy => by have := (hg1 y hy).1; omega) | exact hF (k9.alloc _) (by simp) | exact hF k9 (by simp) | exact hF kd (by simp))
          clear hK K
          try simp only [Act.put, List.getElem_toArray, List.getElem_cons_succ, List.getElem_cons_zero, List.setIfInBounds_toArray, List.set_cons_zero, List.set_cons_succ]
          refine wpAnyH_ready (rs := [4]) (by kernel_rfl) (by simp) ?_
          refine AllReadyH.cons rfl (fun K hK => ?_) AllReadyH.nil
          go_simp
          try go_wp2_with fail
          refine hK.out _ _ ?_ (fun hHeld => ?_)
          · (try dsimp only); (first | exact hF k811 (fun y hy => hn11 y hy) | exact hF k810 (fun y hy => by have := (hg1 y hy).1; omega) | exact hF (k9.alloc _) (by simp) | exact hF k9 (by simp) | exact hF kd (by simp))
          clear hK K
          try simp only [Act.put, List.getElem_toArray, List.getElem_cons_succ, List.getElem_cons_zero, List.setIfInBounds_toArray, List.set_cons_zero, List.set_cons_succ]
          refine wpAnyH_ready (rs := [5]) (by kernel_rfl) (by simp) ?_
          refine AllReadyH.cons rfl (fun K hK => ?_) AllReadyH.nil
          rw [if_pos (by rfl)]
          refine wp_app ?_ elLine rfl rfl ((hO8.out.kept k9 (by simp)).alloc _) rfl (Rd.blockV 1 2 (heap_alloc_new w9 _) rfl) (by intro z hz; simp at hz; rcases hz with rfl | rfl <;> rfl) (by omega) (by have h1 := k9.size; simp; omega); intro a10 c10 w10 ho10 hj10 hat10; have k10 : Kept (blk a1) w9 w10 := (((Kept.refl [] w9).alloc _).mono (by simp)).trans hj10 (fun y hy => .inl hy); have k810 : Kept (blk a1) w8 w10 := (k9.mono (by simp)).trans k10 (fun y hy => .inl hy); have i10 := i8.kept k810 (fun hm => by have := (hg1 _ hm).1; omega); have p10 := i10.at.2.2.2.1; have f10 := i10.froz 3; have k811 : Kept (w.heap.size :: blk a1) w8 (w10.setCell ⟨w.heap.size, 3, none⟩ (.slice a10 (n + 1) c10)) := (k810.mono (by intro y hy; simp [hy])).setCell (.inl (by simp)) _; have hn11 : ∀ y ∈ w.heap.size :: blk a1, y ≠ w.heap.size + 1 := (by intro y hy; rcases List.mem_cons.1 hy with h | h <;> first | omega | (have := (hg1 y h).1; omega))
          refine hK.out _ _ ?_ (fun hHeld => ?_)
          · (try dsimp only); (first | exact hF k811 (fun y hy => hn11 y hy) | exact hF k810 (fun y hy => by have := (hg1 y hy).1; omega) | exact hF (k9.alloc _) (by simp) | exact hF k9 (by simp) | exact hF kd (by simp))
          clear hK K
          try simp only [Act.put, List.getElem_toArray, List.getElem_cons_succ, List.getElem_cons_zero, List.setIfInBounds_toArray, List.set_cons_zero, List.set_cons_succ]
          refine wpAnyH_take (i := 6) (v := ?_) rfl (by kernel_rfl) (by kernel_rfl) (by kernel_rfl) (fun _ _ _ h => h) (Or.inl ⟨by rfl, ?_⟩) (by assumption) ?_
          rotate_left
          · (intro wq hSw; (try dsimp only at hSw); go_simp; try with_reducible rfl)
          try simp only [Act.put, List.getElem_toArray, List.getElem_cons_succ, List.getElem_cons_zero, List.setIfInBounds_toArray, List.set_cons_zero, List.set_cons_succ]
          refine wpAnyH_ready (rs := [7]) (by kernel_rfl) (by simp) ?_
          refine AllReadyH.cons rfl (fun K hK => ?_) AllReadyH.nil
          go_simp
          try go_wp2_with fail
          refine hK.out _ _ ?_ (fun hHeld => ?_)
          · (try dsimp only); (first | exact hF k811 (fun y hy => hn11 y hy) | exact hF k810 (fun y hy => by have := (hg1 y hy).1; omega) | exact hF (k9.alloc _) (by simp) | exact hF k9 (by simp) | exact hF kd (by simp))
          clear hK K
          try simp only [Act.put, List.getElem_toArray, List.getElem_cons_succ, List.getElem_cons_zero, List.setIfInBounds_toArray, List.set_cons_zero, List.set_cons_succ]
          refine wpAnyH_done (by kernel_rfl) ?_ _
          obtain ⟨i11, hE⟩ := push_fin8 (ap := ap) (a := a) (np := np) k8.out i8 hz8.out hs0 hs8 hA0.out hP8 hd8 hg1 k9 ho9 h9a h9b hX.out.s ho10 k10 hsP.out hfP.out (by omega) (by omega) hfi hpl; have hE := hide hE; have i11 := hide i11; clear q0 q1 q2 q3 q4; obtain ⟨q0, q1, q2, q3, q4⟩ := i11.out.at; go_wp2_with fail; refine hE.out.mono ?_; rintro e w12 ⟨l', p', f', a', n', c', ap', np', cp', rfl, z12, hfin⟩; go_wp2_with (refine wpList_store_rg rfl rfl rfl (w.heap.size + 1 + 1) rfl z12 l' p' f' a' n' c' ap' np' cp' rfl ?_; intro w13 hb13 j13); refine bodyPost_ret (results_rg2 rfl rfl hb13 rfl) rfl ?_; exact hfin w13 j13
        · go_simp
          refine hCp.out.mono ?_; rintro e w9 ⟨a9, n9, c9, rfl, ho9, h9a, h9b, j9⟩; have k9 : Kept [] w8 w9 := kd.trans j9 (by simp); have p3 := (i8.kept k9 (by simp)).at.2.2.2.1; have p3a := (i8.kept (k9.alloc (.cells #[.slice a9 n9 c9, .bool u.s] 36)) (by simp)).at.2.2.2.1
          try go_wp2_with fail
          refine hK.out _ _ ?_ (fun hHeld => ?_)
          · (try dsimp only); (first | exact hF k811 (fun y hy => hn11 y hy) | exact hF k810 (fun y hy => by have := (hg1 y hy).1; omega) | exact hF (k9.alloc _) (by simp) | exact hF k9 (by simp) | exact hF kd (by simp))
          clear hK K
          try simp only [Act.put, List.getElem_toArray, List.getElem_cons_succ, List.getElem_cons_zero, List.setIfInBounds_toArray, List.set_cons_zero, List.set_cons_succ]
          refine wpAnyH_ready (rs := [1, 4]) (by kernel_rfl) (by simp) ?_
          refine AllReadyH.cons rfl (fun K hK => ?_) (AllReadyH.cons rfl (fun K hK => ?_) AllReadyH.nil)
          · go_simp
            try go_wp2_with fail
            refine hK.out _ _ ?_ (fun hHeld => ?_)
            · (try dsimp only); (first | exact hF k811 (fun y hy => hn11 y hy) | exact hF k810 (fun y hy => by have := (hg1 y hy).1; omega) | exact hF (k9.alloc _) (by simp) | exact hF k9 (by simp) | exact hF kd (by simp))
            clear hK K
            try simp only [Act.put, List.getElem_toArray, List.getElem_cons_succ, List.getElem_cons_zero, List.setIfInBounds_toArray, List.set_cons_zero, List.set_cons_succ]
            refine wpAnyH_ready (rs := [4]) (by kernel_rfl) (by simp) ?_
            refine AllReadyH.cons rfl (fun K hK => ?_) AllReadyH.nil
            go_simp
            try go_wp2_with fail
            refine hK.out _ _ ?_ (fun hHeld => ?_)
            · (try dsimp only); (first | exact hF k811 (fun y hy => hn11 y hy) | exact hF k810 (fun y hy => by have := (hg1 y hy).1; omega) | exact hF (k9.alloc _) (by simp) | exact hF k9 (by simp) | exact hF kd (by simp))
            clear hK K
            try simp only [Act.put, List.getElem_toArray, List.getElem_cons_succ, List.getElem_cons_zero, List.setIfInBounds_toArray, List.set_cons_zero, List.set_cons_succ]
            refine wpAnyH_ready (rs := [5]) (by kernel_rfl) (by simp) ?_
            refine AllReadyH.cons rfl (fun K hK => ?_) AllReadyH.nil
            rw [if_pos (by rfl)]
            refine wp_app ?_ elLine rfl rfl ((hO8.out.kept k9 (by simp)).alloc _) rfl (Rd.blockV 1 2 (heap_alloc_new w9 _) rfl) (by intro z hz; simp at hz; rcases hz with rfl | rfl <;> rfl) (by omega) (by have h1 := k9.size; simp; omega); intro a10 c10 w10 ho10 hj10 hat10; have k10 : Kept (blk a1) w9 w10 := (((Kept.refl [] w9).alloc _).mono (by simp)).trans hj10 (fun y hy => .inl hy); have k810 : Kept (blk a1) w8 w10 := (k9.mono (by simp)).trans k10 (fun y hy => .inl hy); have i10 := i8.kept k810 (fun hm => by have := (hg1 _ hm).1; omega); have p10 := i10.at.2.2.2.1; have f10 := i10.froz 3; have k811 : Kept (w.heap.size :: blk a1) w8 (w10.setCell ⟨w.heap.size, 3, none⟩ (.slice a10 (n + 1) c10)) := (k810.mono (by intro y hy; simp [hy])).setCell (.inl (by simp)) _; have hn11 : ∀ y ∈ w.heap.size :: blk a1, y ≠ w.heap.size + 1 := (by intro y hy; rcases List.mem_cons.1 hy with h | h <;> first | omega | (have := (hg1 y h).1; omega))
            refine hK.out _ _ ?_ (fun hHeld => ?_)
            · (try dsimp only); (first | exact hF k811 (fun y hy => hn11 y hy) | exact hF k810 (fun y hy => by have := (hg1 y hy).1; omega) | exact hF (k9.alloc _) (by simp) | exact hF k9 (by simp) | exact hF kd (by simp))
            clear hK K
            try simp only [Act.put, List.getElem_toArray, List.getElem_cons_succ, List.getElem_cons_zero, List.setIfInBounds_toArray, List.set_cons_zero, List.set_cons_succ]
            refine wpAnyH_take (i := 6) (v := ?_) rfl (by kernel_rfl) (by kernel_rfl) (by kernel_rfl) (fun _ _ _ h => h) (Or.inl ⟨by rfl, ?_⟩) (by assumption) ?_
            rotate_left
            · (intro wq hSw; (try dsimp only at hSw); go_simp; try with_reducible rfl)
            try simp only [Act.put, List.getElem_toArray, List.getElem_cons_succ, List.getElem_cons_zero, List.setIfInBounds_toArray, List.set_cons_zero, List.set_cons_succ]
            refine wpAnyH_ready (rs := [7]) (by kernel_rfl) (by simp) ?_
            refine AllReadyH.cons rfl (fun K hK => ?_) AllReadyH.nil
            go_simp
            try go_wp2_with fail
            refine hK.out _ _ ?_ (fun hHeld => ?_)
            · (try dsimp only); (first | exact hF k811 (fun y hy => hn11 y hy) | exact hF k810 (fun y hy => by have := (hg1 y hy).1; omega) | exact hF (k9.alloc _) (by simp) | exact hF k9 (by simp) | exact hF kd (by simp))
            clear hK K
            try simp only [Act.put, List.getElem_toArray, List.getElem_cons_succ, List.getElem_cons_zero, List.setIfInBounds_toArray, List.set_cons_zero, List.set_cons_succ]
            refine wpAnyH_done (by kernel_rfl) ?_ _
            obtain ⟨i11, hE⟩ := push_fin8 (ap := ap) (a := a) (np := np) k8.out i8 hz8.out hs0 hs8 hA0.out hP8 hd8 hg1 k9 ho9 h9a h9b hX.out.s ho10 k10 hsP.out hfP.out (by omega) (by omega) hfi hpl; have hE := hide hE; have i11 := hide i11; clear q0 q1 q2 q3 q4; obtain ⟨q0, q1, q2, q3, q4⟩ := i11.out.at; go_wp2_with fail; refine hE.out.mono ?_; rintro e w12 ⟨l', p', f', a', n', c', ap', np', cp', rfl, z12, hfin⟩; go_wp2_with (refine wpList_store_rg rfl rfl rfl (w.heap.size + 1 + 1) rfl z12 l' p' f' a' n' c' ap' np' cp' rfl ?_; intro w13 hb13 j13); refine bodyPost_ret (results_rg2 rfl rfl hb13 rfl) rfl ?_; exact hfin w13 j13
          · go_simp
            try go_wp2_with fail
            refine hK.out _ _ ?_ (fun hHeld => ?_)
            · (try dsimp only); (first | exact hF k811 (fun y hy => hn11 y hy) | exact hF k810 (fun y hy => by have := (hg1 y hy).1; omega) | exact hF (k9.alloc _) (by simp) | exact hF k9 (by simp) | exact hF kd (by simp))
            clear hK K
            try simp only [Act.put, List.getElem_toArray, List.getElem_cons_succ, List.getElem_cons_zero, List.setIfInBounds_toArray, List.set_cons_zero, List.set_cons_succ]
            refine wpAnyH_ready (rs := [1]) (by kernel_rfl) (by simp) ?_
            refine AllReadyH.cons rfl (fun K hK => ?_) AllReadyH.nil
            go_simp
            try go_wp2_with fail
            refine hK.out _ _ ?_ (fun hHeld => ?_)
            · (try dsimp only); (first | exact hF k811 (fun y hy => hn11 y hy) | exact hF k810 (fun y hy => by have := (hg1 y hy).1; omega) | exact hF (k9.alloc _) (by simp) | exact hF k9 (by simp) | exact hF kd (by simp))
            clear hK K
            try simp only [Act.put, List.getElem_toArray, List.getElem_cons_succ, List.getElem_cons_zero, List.setIfInBounds_toArray, List.set_cons_zero, List.set_cons_succ]
            refine wpAnyH_ready (rs := [5]) (by kernel_rfl) (by simp) ?_
            refine AllReadyH.cons rfl (fun K hK => ?_) AllReadyH.nil
            rw [if_pos (by rfl)]
            refine wp_app ?_ elLine rfl rfl ((hO8.out.kept k9 (by simp)).alloc _) rfl (Rd.blockV 1 2 (heap_alloc_new w9 _) rfl) (by intro z hz; simp at hz; rcases hz with rfl | rfl <;> rfl) (by omega) (by have h1 := k9.size; simp; omega); intro a10 c10 w10 ho10 hj10 hat10; have k10 : Kept (blk a1) w9 w10 := (((Kept.refl [] w9).alloc _).mono (by simp)).trans hj10 (fun y hy => .inl hy); have k810 : Kept (blk a1) w8 w10 := (k9.mono (by simp)).trans k10 (fun y hy => .inl hy); have i10 := i8.kept k810 (fun hm => by have := (hg1 _ hm).1; omega); have p10 := i10.at.2.2.2.1; have f10 := i10.froz 3; have k811 : Kept (w.heap.size :: blk a1) w8 (w10.setCell ⟨w.heap.size, 3, none⟩ (.slice a10 (n + 1) c10)) := (k810.mono (by intro y hy; simp [hy])).setCell (.inl (by simp)) _; have hn11 : ∀ y ∈ w.heap.size :: blk a1, y ≠ w.heap.size + 1 := (by intro y hy; rcases List.mem_cons.1 hy with h | h <;> first | omega | (have := (hg1 y h).1; omega))
            refine hK.out _ _ ?_ (fun hHeld => ?_)
            · (try dsimp only); (first | exact hF k811 (fun y hy => hn11 y hy) | exact hF k810 (fun y hy => by have := (hg1 y hy).1; omega) | exact hF (k9.alloc _) (by simp) | exact hF k9 (by simp) | exact hF kd (by simp))
            clear hK K
            try simp only [Act.put, List.getElem_toArray, List.getElem_cons_succ, List.getElem_cons_zero, List.setIfInBounds_toArray, List.set_cons_zero, List.set_cons_succ]
            refine wpAnyH_take (i := 6) (v := ?_) rfl (by kernel_rfl) (by kernel_rfl) (by kernel_rfl) (fun _ _ _ h => h) (Or.inl ⟨by rfl, ?_⟩) (by assumption) ?_
            rotate_left
            · (intro wq hSw; (try dsimp only at hSw); go_simp; try with_reducible rfl)
            try simp only [Act.put, List.getElem_toArray, List.getElem_cons_succ, List.getElem_cons_zero, List.setIfInBounds_toArray, List.set_cons_zero, List.set_cons_succ]
            refine wpAnyH_ready (rs := [7]) (by kernel_rfl) (by simp) ?_
            refine AllReadyH.cons rfl (fun K hK => ?_) AllReadyH.nil
            go_simp
            try go_wp2_with fail
            refine hK.out _ _ ?_ (fun hHeld => ?_)
            · (try dsimp only); (first | exact hF k811 (fun y hy => hn11 y hy) | exact hF k810 (fun y hy => by have := (hg1 y hy).1; omega) | exact hF (k9.alloc _) (by simp) | exact hF k9 (by simp) | exact hF kd (by simp))
            clear hK K
            try simp only [Act.put, List.getElem_toArray, List.getElem_cons_succ, List.getElem_cons_zero, List.setIfInBounds_toArray, List.set_cons_zero, List.set_cons_succ]
            refine wpAnyH_done (by kernel_rfl) ?_ _
            obtain ⟨i11, hE⟩ := push_fin8 (ap := ap) (a := a) (np := np) k8.out i8 hz8.out hs0 hs8 hA0.out hP8 hd8 hg1 k9 ho9 h9a h9b hX.out.s ho10 k10 hsP.out hfP.out (by omega) (by omega) hfi hpl; have hE := hide hE; have i11 := hide i11; clear q0 q1 q2 q3 q4; obtain ⟨q0, q1, q2, q3, q4⟩ := i11.out.at; go_wp2_with fail; refine hE.out.mono ?_; rintro e w12 ⟨l', p', f', a', n', c', ap', np', cp', rfl, z12, hfin⟩; go_wp2_with (refine wpList_store_rg rfl rfl rfl (w.heap.size + 1 + 1) rfl z12 l' p' f' a' n' c' ap' np' cp' rfl ?_; intro w13 hb13 j13); refine bodyPost_ret (results_rg2 rfl rfl hb13 rfl) rfl ?_; exact hfin w13 j13
end Go.Proofs.YtnkddhmhjnhgcaaGreatDoor
