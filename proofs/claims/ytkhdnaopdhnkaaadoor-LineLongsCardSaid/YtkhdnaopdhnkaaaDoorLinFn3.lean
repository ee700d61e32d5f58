/- The program's functions of layer 6: Fit; slices.Grow of nil, slices.Concat of three. -/
import Derived.Test.YtkhdnaopdhnkaaaDoorLinFn2
import Derived.Test.YtkhdnaopdhnkaaaDoorCelFix
import Derived.Lib.AppendZeros
namespace Go.Proofs.YtkhdnaopdhnkaaaDoor
open Go.RowKit
set_option linter.unusedVariables false
set_option maxRecDepth 100000

set_option maxHeartbeats 2000000 in
theorem Fit6_good (a : Option Addr) (n c : Nat) (l : List Cl) (s : Bool) (N : Nat) (hN : N ≤ 1000) (w : World) (ht : Tabs w) (hr : Rd w a n 16 (cellsV l)) (hn : n ≤ 1000) (hnc : n ≤ c) (hcm : c ≤ maxLen) (hv : validL l = true) :
    Calls Tryd.prog 32 #[.agg #[.slice a n c, .bool s], .int .i64 (N : Int)] w (LinRet2 w ((fitL l N, s), 0)) := by
  have hl := hr.clen
  obtain ⟨W0, hW0⟩ : ∃ z : World, z = (w.alloc (.cells #[.slice a n c, .bool s] 27)).alloc (.cells #[.slice none 0 0, .bool false] 27) := ⟨_, rfl⟩
  have hk0 : Kept [] w W0 := by rw [hW0]; exact ((Kept.refl [] w).alloc _).alloc _
  have hb0 : Hid (LinIn W0 w.heap.size a n c s) := hide (by rw [hW0]; exact (LinIn.new w a n c s).kept ((Kept.refl [] _).alloc _) (by simp))
  have hz0 : Hid (LinIn W0 (w.heap.size + 1) none 0 0 false) := hide (by rw [hW0]; exact heap_new_at (by simp))
  have hH := hide (hr.kept hk0 (by simp))
  have hs0 : w.heap.size + 1 < W0.heap.size := by rw [hW0]; simp
  replace hs0 := hide hs0
  have hV := hide (Valid6_any a n c l s W0 (ht.kept hk0) hH.out (by omega))
  rw [hv] at hV
  have hC := hide (fun w1 => validColumns_any (N : Int) w1)
  rw [decide_eq_true (by omega)] at hC
  obtain ⟨m, hm⟩ : ∃ m, m = min N n := ⟨_, rfl⟩
  have hmn : m ≤ n := by omega
  have hmN : m ≤ N := by omega
  obtain ⟨ax, cx, hcx1, hcx2, hcutx, hcrx⟩ := cut_h a n c m hmn hnc hcm
  have hF := hide (fun w1 (hk : Kept [] W0 w1) => Fix_any ax m cx (l.take m) w1 (hcrx w1 l (hH.out.kept hk (by simp))) (by omega))
  have hE := hide (fun w1 => emptyCells_any (N - m) (by omega) w1)
  rw [show ((N - m : Nat) : Int) = (N : Int) - (m : Int) by omega] at hE
  have hT : Hid (fitL l N = fixI (l.take m) ++ newL (N - m)) := hide (by
    unfold fitL newL
    rw [hm, ← hl, fix_take, hl]
    congr 2
    omega)
  have hone := cellsV_one (newL (N - m))
  generalize fitL l N = T at *
  generalize fixI (l.take m) = fx at *
  generalize newL (N - m) = en at *
  have hmin : min (n : Int) (N : Int) = (m : Int) := by omega
  replace hcrx := hide hcrx
  have hNm : m + (N - m) = N := by omega
  replace hNm := hide hNm
  generalize hq : N - m = q at *
  replace hq := hide hq
  clear hr hm ht hv
  go_enter Tryd.func32, Tryd.ntmps32
  go_upto_region 1 with fail
  rw [← hW0]
  clear hW0
  obtain ⟨q0, q1⟩ := hb0.out.at
  go_wp2_with fail
  refine hV.out.mono ?_
  rintro e w1 ⟨rfl, hk1⟩
  clear q0 q1
  obtain ⟨q0, q1⟩ := (hb0.out.kept hk1 (by simp)).at
  go_wp2_with fail
  refine (hC.out w1).mono ?_
  rintro e w2 ⟨rfl, rfl⟩
  go_wp2_with fail
  refine (hF.out w2 hk1).mono ?_
  rintro e w3 ⟨a3, c3, rfl, ho3, hj3⟩
  have hk3 := hk1.trans hj3 (by simp)
  go_wp2_with fail
  refine (hE.out w3).mono ?_
  rintro e w4 ⟨a4, c4, rfl, ho4, hj4⟩
  have hk4 := hide (hk3.trans hj4 (by simp))
  have hge3 := hide (fun g hg => (ho3.ge g hg).1 : ∀ g ∈ blk a3, w2.heap.size ≤ g)
  have ho34 := hide ((ho3.base (show w.heap.size ≤ w2.heap.size from (hk0.trans hk1 (by simp)).size)).kept hj4 (by simp))
  have hr4 := hide ho4.rd
  have hsz4 := (hk0.trans hk4.out (by simp)).size
  have hsz1 := hk1.size
  clear q0 q1
  go_wp2_with (first | refine wpList_store_lin rfl rfl rfl (w.heap.size + 1) rfl (hz0.out.kept hk5.out (by simp)) a5 _ c5 s rfl ?_; intro w7 hb7 hk7 | at_builtin; refine wpList_app ?_ rfl elCell rfl rfl ho34.out rfl hr4.out hone ?o1 ?o2; intro a5 c5 w5 ho5 hj5 hat5; have hk5 := hide (hk4.out.trans hj5 (fun x hx => .inr (by have := hge3.out x hx; omega))); obtain ⟨q0, q1⟩ := (hb0.out.kept hk5.out (by simp)).at)
  case o1 => have := hNm.out; omega
  case o2 => exact hsz4
  refine bodyPost_ret (results_lin2 rfl rfl hb7 rfl) rfl ?_
  have hlt5 : ∀ g ∈ blk a5, w.heap.size + 1 < g := fun g hg => by
    have := hs0.out
    rcases hat5 g hg with h | h
    · have := hge3.out g h; omega
    · have := hk4.out.size; omega
  have ho7 := ho5.kept hk7 (fun g hg hm => by have := hlt5 g hg; simp at hm; omega)
  refine ⟨a5, _, c5, rfl, ?_, ho7.caps.1, ho7.caps.2, (hk0.trans hk5.out (by simp)).trans hk7 (by simp)⟩
  rw [hT.out, cellsV_app]
  exact ho7

set_option maxHeartbeats 2000000 in
theorem Fit6_bad (a : Option Addr) (n c : Nat) (l : List Cl) (s : Bool) (k : Int) (w : World) (ht : Tabs w) (hr : Rd w a n 16 (cellsV l)) (hn : n ≤ 2000) (hv : validL l = false) :
    Calls Tryd.prog 32 #[.agg #[.slice a n c, .bool s], .int .i64 k] w (LinRet2 w (([], false), 2)) := by
  obtain ⟨W0, hW0⟩ : ∃ z : World, z = (w.alloc (.cells #[.slice a n c, .bool s] 27)).alloc (.cells #[.slice none 0 0, .bool false] 27) := ⟨_, rfl⟩
  have hk0 : Kept [] w W0 := by rw [hW0]; exact ((Kept.refl [] w).alloc _).alloc _
  have hb0 : Hid (LinIn W0 w.heap.size a n c s) := hide (by rw [hW0]; exact (LinIn.new w a n c s).kept ((Kept.refl [] _).alloc _) (by simp))
  have hz0 : Hid (LinIn W0 (w.heap.size + 1) none 0 0 false) := hide (by rw [hW0]; exact heap_new_at (by simp))
  have hV := hide (Valid6_any a n c l s W0 (ht.kept hk0) (hr.kept hk0 (by simp)) hn)
  rw [hv] at hV
  clear hr ht hv
  go_enter Tryd.func32, Tryd.ntmps32
  go_upto_region 1 with fail
  rw [← hW0]
  clear hW0
  obtain ⟨q0, q1⟩ := hb0.out.at
  go_wp2_with fail
  refine hV.out.mono ?_
  rintro e w1 ⟨rfl, hk1⟩
  go_wp2_with (refine wpList_store_lin rfl rfl rfl (w.heap.size + 1) rfl (hz0.out.kept hk1 (by simp)) none 0 0 false rfl ?_; intro w7 hb7 hk7)
  refine bodyPost_ret (results_lin2 rfl rfl hb7 rfl) rfl ?_
  exact ⟨none, 0, 0, rfl, Own.nil _ _ _ _, Nat.le_refl _, Nat.zero_le _, (hk0.trans hk1 (by simp)).trans hk7 (by simp)⟩

set_option maxHeartbeats 2000000 in
theorem Fit6_out (a : Option Addr) (n c : Nat) (l : List Cl) (s : Bool) (k : Int) (w : World) (ht : Tabs w) (hr : Rd w a n 16 (cellsV l)) (hn : n ≤ 2000) (hv : validL l = true) (hk : ¬ (0 ≤ k ∧ k ≤ 1000)) :
    Calls Tryd.prog 32 #[.agg #[.slice a n c, .bool s], .int .i64 k] w (LinRet2 w (([], false), 2)) := by
  obtain ⟨W0, hW0⟩ : ∃ z : World, z = (w.alloc (.cells #[.slice a n c, .bool s] 27)).alloc (.cells #[.slice none 0 0, .bool false] 27) := ⟨_, rfl⟩
  have hk0 : Kept [] w W0 := by rw [hW0]; exact ((Kept.refl [] w).alloc _).alloc _
  have hb0 : Hid (LinIn W0 w.heap.size a n c s) := hide (by rw [hW0]; exact (LinIn.new w a n c s).kept ((Kept.refl [] _).alloc _) (by simp))
  have hz0 : Hid (LinIn W0 (w.heap.size + 1) none 0 0 false) := hide (by rw [hW0]; exact heap_new_at (by simp))
  have hV := hide (Valid6_any a n c l s W0 (ht.kept hk0) (hr.kept hk0 (by simp)) hn)
  rw [hv] at hV
  have hC := hide (fun w1 => validColumns_any k w1)
  rw [decide_eq_false hk] at hC
  clear hr ht hv hk
  go_enter Tryd.func32, Tryd.ntmps32
  go_upto_region 1 with fail
  rw [← hW0]
  clear hW0
  obtain ⟨q0, q1⟩ := hb0.out.at
  go_wp2_with fail
  refine hV.out.mono ?_
  rintro e w1 ⟨rfl, hk1⟩
  go_wp2_with fail
  refine (hC.out w1).mono ?_
  rintro e w2 ⟨rfl, rfl⟩
  go_wp2_with (refine wpList_store_lin rfl rfl rfl (w.heap.size + 1) rfl (hz0.out.kept hk1 (by simp)) none 0 0 false rfl ?_; intro w7 hb7 hk7)
  refine bodyPost_ret (results_lin2 rfl rfl hb7 rfl) rfl ?_
  exact ⟨none, 0, 0, rfl, Own.nil _ _ _ _, Nat.le_refl _, Nat.zero_le _, (hk0.trans hk1 (by simp)).trans hk7 (by simp)⟩

theorem Fit6_any : LFitIs := by
  intro a n c l s k w ht hr hn hnc hcm
  cases hv : validL l with
  | false => rw [fitE_no hv]; exact Fit6_bad a n c l s k w ht hr hn hv
  | true =>
    have hl := hr.clen
    have hn1 : n ≤ 1000 := by unfold validL at hv; simp at hv; omega
    by_cases hk : 0 ≤ k ∧ k ≤ 1000
    · obtain ⟨N, rfl⟩ : ∃ N : Nat, k = N := ⟨k.toNat, by omega⟩
      rw [fitE_ok hv (by omega)]
      exact Fit6_good a n c l s N (by omega) w ht hr hn1 hnc hcm hv
    · rw [fitE_out hk]
      exact Fit6_out a n c l s k w ht hr hn hv hk

/-- slices.Grow of nil: a slice without elements, in a block of its own, or nil. -/
theorem Grow_nil (N : Nat) (hN : N ≤ 10000) (w : World) :
    Calls Tryd.prog 64 #[.slice none 0 0, .int .i64 (N : Int)] w fun e w' => ∃ a' c', e = .returned (.slice a' 0 c') ∧ Own w' w.heap.size 60 a' 0 c' 16 [] ∧ Kept [] w w' := by
  by_cases h0 : N = 0
  · subst h0
    go_enter Tryd.func64, Tryd.ntmps64
    go_wp2_with fail
    go_ret
    exact ⟨none, 0, rfl, Own.nil _ _ _ _, Kept.refl _ _⟩
  · have hp : (0 : Int) < (N : Int) := by omega
    have hw : IntKind.i64.wrap (N : Int) = N := by rw [IntKind.wrap_i64]; omega
    obtain ⟨i, hi, hz0, hz1, hz2⟩ := info_parts elCell.info
    have hrun := fun w ty => Lib.run_append_nil_zeros (P := Tryd.prog) w 22 3 ty 60 i _ .i64 .i64 Tryd.underlying22 Tryd.underlying3 hi hz0 N (by omega) (by rw [hz1]; decide) (by omega) (by rw [hz2]; omega)
    have hcap := grownCap_le_maxLen w N 0 60 (by unfold maxLen; omega)
    have hge := grownCap_ge w N 0 60
    go_enter Tryd.func64, Tryd.ntmps64
    go_wp2_with (at_builtin; refine Lib.wpList_append_run _ rfl _ _ _ _ rfl _ _ rfl rfl _ _ (hrun _ _) ?_)
    go_ret
    refine ⟨some ⟨w.heap.size, 0, none⟩, _, rfl, ⟨rfl, .inr ⟨w.heap.size, grownCap w N 0 60, _, rfl, Nat.le_refl _, heap_alloc_new w _, Nat.zero_le _, hcap, ?_, by simp⟩⟩, ((Kept.refl [] w).alloc _).drew⟩
    rw [Array.size_append, size_zeroCells, size_zeroCells]
    show N * 16 + (grownCap w N 0 60 - N) * 16 = grownCap w N 0 60 * 16
    omega

/-- Three slices of cells in a slice. -/
def ThreeIn (w : World) (g : Nat) (a1 : Option Addr) (n1 c1 : Nat) (a2 : Option Addr) (n2 c2 : Nat) (a3 : Option Addr) (n3 c3 : Nat) : Prop :=
  w.cell? ⟨g, 0, none⟩ = some (.slice a1 n1 c1) ∧ w.cell? ⟨g, 1, none⟩ = some (.slice a2 n2 c2) ∧ w.cell? ⟨g, 2, none⟩ = some (.slice a3 n3 c3)
theorem ThreeIn.kept {S : List Nat} {w w' : World} {g : Nat} {a1 : Option Addr} {n1 c1 : Nat} {a2 : Option Addr} {n2 c2 : Nat} {a3 : Option Addr} {n3 c3 : Nat} (h : ThreeIn w g a1 n1 c1 a2 n2 c2 a3 n3 c3) (hk : Kept S w w') (hb : g ∉ S) : ThreeIn w' g a1 n1 c1 a2 n2 c2 a3 n3 c3 :=
  ⟨hk.cell h.1 hb, hk.cell h.2.1 hb, hk.cell h.2.2 hb⟩

set_option maxHeartbeats 4000000 in
theorem Concat3_any (g : Nat) (a1 : Option Addr) (n1 c1 : Nat) (l1 : List Cl) (a2 : Option Addr) (n2 c2 : Nat) (l2 : List Cl) (a3 : Option Addr) (n3 c3 : Nat) (l3 : List Cl) (w : World) (h3 : ThreeIn w g a1 n1 c1 a2 n2 c2 a3 n3 c3)
    (r1 : Rd w a1 n1 16 (cellsV l1)) (r2 : Rd w a2 n2 16 (cellsV l2)) (r3 : Rd w a3 n3 16 (cellsV l3)) (hn1 : n1 ≤ 1000) (hn2 : n2 ≤ 1000) (hn3 : n3 ≤ 1000) :
    Calls Tryd.prog 52 #[.slice (some ⟨g, 0, none⟩) 3 3] w fun e w' => ∃ a' c', e = .returned (.slice a' (n1 + n2 + n3) c') ∧ Own w' w.heap.size 60 a' (n1 + n2 + n3) c' 16 (cellsV (l1 ++ l2 ++ l3)) ∧ Kept [] w w' := by
  have hR1 := hide r1
  have hR2 := hide r2
  have hR3 := hide r3
  have o1 := cellsV_one l1
  have o2 := cellsV_one l2
  have o3 := cellsV_one l3
  have w1 : IntKind.i64.wrap ((n1 : Int) + (n2 : Int)) = (n1 : Int) + (n2 : Int) := by rw [IntKind.wrap_i64]; omega
  have w2 : IntKind.i64.wrap ((n1 : Int) + (n2 : Int) + (n3 : Int)) = (n1 : Int) + (n2 : Int) + (n3 : Int) := by rw [IntKind.wrap_i64]; omega
  have p1 : ¬ ((n1 : Int) < 0) := by omega
  have p2 : ¬ ((n1 : Int) + (n2 : Int) < 0) := by omega
  have p3 : ¬ ((n1 : Int) + (n2 : Int) + (n3 : Int) < 0) := by omega
  have hG := hide (Grow_nil (n1 + n2 + n3) (by omega) w)
  rw [show ((n1 + n2 + n3 : Nat) : Int) = (n1 : Int) + (n2 : Int) + (n3 : Int) by push_cast; rfl] at hG
  have hT := hide h3
  clear r1 r2 r3
  obtain ⟨t1, t2, t3⟩ := h3
  go_enter Tryd.func52, Tryd.ntmps52
  go_wp2_with fail
  refine wp_loop_rounds 4 ?_
  rw [rounds_succ]
  go_wp2_with fail
  rw [rounds_succ]
  go_wp2_with fail
  rw [rounds_succ]
  go_wp2_with fail
  rw [rounds_succ]
  go_wp2_with fail
  refine hG.out.mono ?_
  rintro e u1 ⟨a4, c4, rfl, ho4, hk4⟩
  clear t1 t2 t3
  obtain ⟨t1, t2, t3⟩ := hT.out.kept hk4 (by simp)
  have ho4 := hide ho4
  have q1 := hide (hR1.out.kept hk4 (by simp))
  go_wp2_with fail
  refine wp_loop_rounds 4 ?_
  rw [rounds_succ]
  go_wp2_with (at_builtin; refine wpList_app ?_ rfl elCell rfl rfl ho4.out rfl q1.out o1 ?g1 ?g2; intro a5 c5 u2 ho5 hj5 hat5)
  case g1 => omega
  case g2 => exact hk4.size
  rw [List.nil_append, Nat.zero_add] at ho5
  have hge4 : ∀ x ∈ blk a4, w.heap.size ≤ x := fun x hx => (ho4.out.ge x hx).1
  have hk5 : Kept [] w u2 := hk4.trans hj5 (fun x hx => .inr (hge4 x hx))
  have hge5 : ∀ x ∈ blk a5, w.heap.size ≤ x := fun x hx => (ho5.ge x hx).1
  clear t1 t2 t3
  obtain ⟨t1, t2, t3⟩ := hT.out.kept hk5 (by simp)
  have q2 := hide (hR2.out.kept hk5 (by simp))
  replace ho5 := hide ho5
  replace hge5 := hide hge5
  clear hge4
  rw [rounds_succ]
  go_wp2_with (at_builtin; refine wpList_app ?_ rfl elCell rfl rfl ho5.out rfl q2.out o2 ?g3 ?g4; intro a6 c6 u3 ho6 hj6 hat6)
  case g3 => omega
  case g4 => exact hk5.size
  have hk6 : Kept [] w u3 := hk5.trans hj6 (fun x hx => .inr (hge5.out x hx))
  have hge6 : ∀ x ∈ blk a6, w.heap.size ≤ x := fun x hx => (ho6.ge x hx).1
  clear t1 t2 t3
  obtain ⟨t1, t2, t3⟩ := hT.out.kept hk6 (by simp)
  have q3 := hide (hR3.out.kept hk6 (by simp))
  replace ho6 := hide ho6
  replace hge6 := hide hge6
  rw [rounds_succ]
  go_wp2_with (at_builtin; refine wpList_app ?_ rfl elCell rfl rfl ho6.out rfl q3.out o3 ?g5 ?g6; intro a7 c7 u4 ho7 hj7 hat7)
  case g5 => omega
  case g6 => exact hk6.size
  have hk7 : Kept [] w u4 := hk6.trans hj7 (fun x hx => .inr (hge6.out x hx))
  clear t1 t2 t3
  rw [rounds_succ]
  go_wp2_with fail
  go_ret
  exact ⟨a7, c7, rfl, by rw [cellsV_app, cellsV_app]; exact ho7, hk7⟩
end Go.Proofs.YtkhdnaopdhnkaaaDoor
