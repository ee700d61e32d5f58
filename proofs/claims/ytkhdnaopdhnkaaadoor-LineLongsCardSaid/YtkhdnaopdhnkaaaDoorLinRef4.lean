/- The reference's Put. -/
import Derived.Test.YtkhdnaopdhnkaaaDoorLinRef3
namespace Go.Proofs.YtkhdnaopdhnkaaaDoor
open Go.RowKit
set_option linter.unusedVariables false
set_option maxRecDepth 100000

/-- What a function of layer 6 returns that returns a line and a number. -/
def LinRet2 (w : World) (r : (List Cl × Bool) × Int) (e : Ending) (w' : World) : Prop :=
  ∃ a' n' c', e = .returned (.tuple #[.agg #[.slice a' n' c', .bool r.1.2], .int .i64 r.2]) ∧ Own w' w.heap.size 60 a' n' c' 16 (cellsV r.1.1) ∧ n' ≤ c' ∧ c' ≤ maxLen ∧ Kept [] w w'

set_option maxHeartbeats 4000000 in
theorem rPut_bad1 (a : Option Addr) (n c : Nat) (s : Bool) (l : List Cl) (at' : Int) (a2 : Option Addr) (n2 c2 : Nat) (l2 : List Cl) (w : World) (hr : Rd w a n 16 (cellsV l)) (hn : n ≤ 1000) (hnc : n ≤ c) (hcm : c ≤ maxLen)
    (hr2 : Rd w a2 n2 16 (cellsV l2)) (hn2 : n2 ≤ 1000) (hv : validL l = false) :
    Calls Tryd.prog 34 #[.agg #[.slice a n c, .bool s], .int .i64 at', .slice a2 n2 c2] w (LinRet2 w (([], false), 2)) := by
  obtain ⟨W0, hW0⟩ : ∃ z : World, z = (w.alloc (.cells #[.slice a n c, .bool s] 27)).alloc (.cells #[.slice none 0 0, .bool false] 27) := ⟨_, rfl⟩
  have hk0 : Kept [] w W0 := by rw [hW0]; exact ((Kept.refl [] w).alloc _).alloc _
  have hb0 : Hid (LinIn W0 w.heap.size a n c s) := hide (by rw [hW0]; exact (LinIn.new w a n c s).kept ((Kept.refl [] _).alloc _) (by simp))
  have hz0 : Hid (LinIn W0 (w.heap.size + 1) none 0 0 false) := hide (by rw [hW0]; exact heap_new_at (by simp))
  have hH := hide (hr.kept hk0 (by simp))
  have hH2 := hide (hr2.kept hk0 (by simp))
  have hs0 : w.heap.size + 1 < W0.heap.size := by rw [hW0]; simp
  have hs0 := hide hs0
  have hl := hide hr.clen
  have hl2 := hide hr2.clen
  have hV := hide (rValid6_any a n c s l W0 hH.out)
  have hR := hide (fun w1 (hk : Kept [] W0 w1) => rRow_any a2 n2 c2 l2 w1 (hH2.out.kept hk (by simp)) hn2)
  rw [hv] at hV
  clear hr hr2
  go_enter Tryd.func34, Tryd.ntmps34
  go_upto_region 1 with fail
  rw [← hW0]
  clear hW0
  obtain ⟨q0, q1⟩ := hb0.out.at
  go_wp2_with fail
  refine hV.out.mono ?_
  rintro e w1 ⟨rfl, hk1⟩
  go_wp2_with (refine wpList_store_lin rfl rfl rfl (w.heap.size + 1) rfl (hz0.out.kept hk1 (by simp)) none 0 0 false rfl ?_; intro w7 hb7 hk7)
  refine bodyPost_ret (results_lin2 rfl rfl hb7 rfl) rfl ?_
  exact ⟨none, 0, 0, rfl, Own.nil _ _ _ _, Nat.le_refl _, Nat.zero_le _, (hk0.trans hk1 (by simp)).trans hk7 (by simp)⟩

set_option maxHeartbeats 4000000 in
theorem rPut_bad2 (a : Option Addr) (n c : Nat) (s : Bool) (l : List Cl) (at' : Int) (a2 : Option Addr) (n2 c2 : Nat) (l2 : List Cl) (w : World) (hr : Rd w a n 16 (cellsV l)) (hn : n ≤ 1000) (hnc : n ≤ c) (hcm : c ≤ maxLen)
    (hr2 : Rd w a2 n2 16 (cellsV l2)) (hn2 : n2 ≤ 1000) (hv : validL l = true) (hv2 : rowI l2 = false) :
    Calls Tryd.prog 34 #[.agg #[.slice a n c, .bool s], .int .i64 at', .slice a2 n2 c2] w (LinRet2 w (([], false), 2)) := by
  obtain ⟨W0, hW0⟩ : ∃ z : World, z = (w.alloc (.cells #[.slice a n c, .bool s] 27)).alloc (.cells #[.slice none 0 0, .bool false] 27) := ⟨_, rfl⟩
  have hk0 : Kept [] w W0 := by rw [hW0]; exact ((Kept.refl [] w).alloc _).alloc _
  have hb0 : Hid (LinIn W0 w.heap.size a n c s) := hide (by rw [hW0]; exact (LinIn.new w a n c s).kept ((Kept.refl [] _).alloc _) (by simp))
  have hz0 : Hid (LinIn W0 (w.heap.size + 1) none 0 0 false) := hide (by rw [hW0]; exact heap_new_at (by simp))
  have hH := hide (hr.kept hk0 (by simp))
  have hH2 := hide (hr2.kept hk0 (by simp))
  have hs0 : w.heap.size + 1 < W0.heap.size := by rw [hW0]; simp
  have hs0 := hide hs0
  have hl := hide hr.clen
  have hl2 := hide hr2.clen
  have hV := hide (rValid6_any a n c s l W0 hH.out)
  have hR := hide (fun w1 (hk : Kept [] W0 w1) => rRow_any a2 n2 c2 l2 w1 (hH2.out.kept hk (by simp)) hn2)
  rw [hv] at hV
  rw [hv2] at hR
  clear hr hr2
  go_enter Tryd.func34, Tryd.ntmps34
  go_upto_region 1 with fail
  rw [← hW0]
  clear hW0
  obtain ⟨q0, q1⟩ := hb0.out.at
  go_wp2_with fail
  refine hV.out.mono ?_
  rintro e w1 ⟨rfl, hk1⟩
  go_wp2_with fail
  refine (hR.out w1 hk1).mono ?_
  rintro e w2 ⟨rfl, hj2⟩
  have hk2 := hk1.trans hj2 (by simp)
  go_wp2_with (refine wpList_store_lin rfl rfl rfl (w.heap.size + 1) rfl (hz0.out.kept hk2 (by simp)) none 0 0 false rfl ?_; intro w7 hb7 hk7)
  refine bodyPost_ret (results_lin2 rfl rfl hb7 rfl) rfl ?_
  exact ⟨none, 0, 0, rfl, Own.nil _ _ _ _, Nat.le_refl _, Nat.zero_le _, (hk0.trans hk2 (by simp)).trans hk7 (by simp)⟩

set_option maxHeartbeats 4000000 in
theorem rPut_low (a : Option Addr) (n c : Nat) (s : Bool) (l : List Cl) (at' : Int) (a2 : Option Addr) (n2 c2 : Nat) (l2 : List Cl) (w : World) (hr : Rd w a n 16 (cellsV l)) (hn : n ≤ 1000) (hnc : n ≤ c) (hcm : c ≤ maxLen)
    (hr2 : Rd w a2 n2 16 (cellsV l2)) (hn2 : n2 ≤ 1000) (hv : validL l = true) (hv2 : rowI l2 = true) (hat : at' < 0) :
    Calls Tryd.prog 34 #[.agg #[.slice a n c, .bool s], .int .i64 at', .slice a2 n2 c2] w (LinRet2 w (([], false), 3)) := by
  obtain ⟨W0, hW0⟩ : ∃ z : World, z = (w.alloc (.cells #[.slice a n c, .bool s] 27)).alloc (.cells #[.slice none 0 0, .bool false] 27) := ⟨_, rfl⟩
  have hk0 : Kept [] w W0 := by rw [hW0]; exact ((Kept.refl [] w).alloc _).alloc _
  have hb0 : Hid (LinIn W0 w.heap.size a n c s) := hide (by rw [hW0]; exact (LinIn.new w a n c s).kept ((Kept.refl [] _).alloc _) (by simp))
  have hz0 : Hid (LinIn W0 (w.heap.size + 1) none 0 0 false) := hide (by rw [hW0]; exact heap_new_at (by simp))
  have hH := hide (hr.kept hk0 (by simp))
  have hH2 := hide (hr2.kept hk0 (by simp))
  have hs0 : w.heap.size + 1 < W0.heap.size := by rw [hW0]; simp
  have hs0 := hide hs0
  have hl := hide hr.clen
  have hl2 := hide hr2.clen
  have hV := hide (rValid6_any a n c s l W0 hH.out)
  have hR := hide (fun w1 (hk : Kept [] W0 w1) => rRow_any a2 n2 c2 l2 w1 (hH2.out.kept hk (by simp)) hn2)
  rw [hv] at hV
  rw [hv2] at hR
  clear hr hr2
  go_enter Tryd.func34, Tryd.ntmps34
  go_upto_region 1 with fail
  rw [← hW0]
  clear hW0
  obtain ⟨q0, q1⟩ := hb0.out.at
  go_wp2_with fail
  refine hV.out.mono ?_
  rintro e w1 ⟨rfl, hk1⟩
  go_wp2_with fail
  refine (hR.out w1 hk1).mono ?_
  rintro e w2 ⟨rfl, hj2⟩
  have hk2 := hk1.trans hj2 (by simp)
  have hb2 := hide (hb0.out.kept hk2 (by simp))
  clear q0 q1
  obtain ⟨q0, q1⟩ := hb2.out.at
  go_wp2_with (refine wpList_store_lin rfl rfl rfl (w.heap.size + 1) rfl (hz0.out.kept hk2 (by simp)) none 0 0 false rfl ?_; intro w7 hb7 hk7)
  refine bodyPost_ret (results_lin2 rfl rfl hb7 rfl) rfl ?_
  exact ⟨none, 0, 0, rfl, Own.nil _ _ _ _, Nat.le_refl _, Nat.zero_le _, (hk0.trans hk2 (by simp)).trans hk7 (by simp)⟩

set_option maxHeartbeats 4000000 in
theorem rPut_past (a : Option Addr) (n c : Nat) (s : Bool) (l : List Cl) (at' : Int) (a2 : Option Addr) (n2 c2 : Nat) (l2 : List Cl) (w : World) (hr : Rd w a n 16 (cellsV l)) (hn : n ≤ 1000) (hnc : n ≤ c) (hcm : c ≤ maxLen)
    (hr2 : Rd w a2 n2 16 (cellsV l2)) (hn2 : n2 ≤ 1000) (hv : validL l = true) (hv2 : rowI l2 = true) (h0 : 0 ≤ at') (hat : (n : Int) < at') :
    Calls Tryd.prog 34 #[.agg #[.slice a n c, .bool s], .int .i64 at', .slice a2 n2 c2] w (LinRet2 w (([], false), 3)) := by
  obtain ⟨W0, hW0⟩ : ∃ z : World, z = (w.alloc (.cells #[.slice a n c, .bool s] 27)).alloc (.cells #[.slice none 0 0, .bool false] 27) := ⟨_, rfl⟩
  have hk0 : Kept [] w W0 := by rw [hW0]; exact ((Kept.refl [] w).alloc _).alloc _
  have hb0 : Hid (LinIn W0 w.heap.size a n c s) := hide (by rw [hW0]; exact (LinIn.new w a n c s).kept ((Kept.refl [] _).alloc _) (by simp))
  have hz0 : Hid (LinIn W0 (w.heap.size + 1) none 0 0 false) := hide (by rw [hW0]; exact heap_new_at (by simp))
  have hH := hide (hr.kept hk0 (by simp))
  have hH2 := hide (hr2.kept hk0 (by simp))
  have hs0 : w.heap.size + 1 < W0.heap.size := by rw [hW0]; simp
  have hs0 := hide hs0
  have hl := hide hr.clen
  have hl2 := hide hr2.clen
  have hV := hide (rValid6_any a n c s l W0 hH.out)
  have hR := hide (fun w1 (hk : Kept [] W0 w1) => rRow_any a2 n2 c2 l2 w1 (hH2.out.kept hk (by simp)) hn2)
  rw [hv] at hV
  rw [hv2] at hR
  clear hr hr2
  go_enter Tryd.func34, Tryd.ntmps34
  go_upto_region 1 with fail
  rw [← hW0]
  clear hW0
  obtain ⟨q0, q1⟩ := hb0.out.at
  go_wp2_with fail
  refine hV.out.mono ?_
  rintro e w1 ⟨rfl, hk1⟩
  go_wp2_with fail
  refine (hR.out w1 hk1).mono ?_
  rintro e w2 ⟨rfl, hj2⟩
  have hk2 := hk1.trans hj2 (by simp)
  have hb2 := hide (hb0.out.kept hk2 (by simp))
  clear q0 q1
  obtain ⟨q0, q1⟩ := hb2.out.at
  go_wp2_with (refine wpList_store_lin rfl rfl rfl (w.heap.size + 1) rfl (hz0.out.kept hk2 (by simp)) none 0 0 false rfl ?_; intro w7 hb7 hk7)
  refine bodyPost_ret (results_lin2 rfl rfl hb7 rfl) rfl ?_
  exact ⟨none, 0, 0, rfl, Own.nil _ _ _ _, Nat.le_refl _, Nat.zero_le _, (hk0.trans hk2 (by simp)).trans hk7 (by simp)⟩

set_option maxHeartbeats 4000000 in
theorem rPut_over (a : Option Addr) (n c : Nat) (s : Bool) (l : List Cl) (at' : Int) (a2 : Option Addr) (n2 c2 : Nat) (l2 : List Cl) (w : World) (hr : Rd w a n 16 (cellsV l)) (hn : n ≤ 1000) (hnc : n ≤ c) (hcm : c ≤ maxLen)
    (hr2 : Rd w a2 n2 16 (cellsV l2)) (hn2 : n2 ≤ 1000) (hv : validL l = true) (hv2 : rowI l2 = true) (at0 : Nat) (hA : at' = at0) (h1 : at0 ≤ n) (hat : n < at0 + n2) :
    Calls Tryd.prog 34 #[.agg #[.slice a n c, .bool s], .int .i64 at', .slice a2 n2 c2] w (LinRet2 w (([], false), 3)) := by
  subst hA
  have h1i : (at0 : Int) ≤ (n : Int) := by omega
  have h0i : (0 : Int) ≤ (at0 : Int) := by omega
  have h2i : (n : Int) < (at0 : Int) + (n2 : Int) := by omega
  obtain ⟨W0, hW0⟩ : ∃ z : World, z = (w.alloc (.cells #[.slice a n c, .bool s] 27)).alloc (.cells #[.slice none 0 0, .bool false] 27) := ⟨_, rfl⟩
  have hk0 : Kept [] w W0 := by rw [hW0]; exact ((Kept.refl [] w).alloc _).alloc _
  have hb0 : Hid (LinIn W0 w.heap.size a n c s) := hide (by rw [hW0]; exact (LinIn.new w a n c s).kept ((Kept.refl [] _).alloc _) (by simp))
  have hz0 : Hid (LinIn W0 (w.heap.size + 1) none 0 0 false) := hide (by rw [hW0]; exact heap_new_at (by simp))
  have hH := hide (hr.kept hk0 (by simp))
  have hH2 := hide (hr2.kept hk0 (by simp))
  have hs0 : w.heap.size + 1 < W0.heap.size := by rw [hW0]; simp
  have hs0 := hide hs0
  have hl := hide hr.clen
  have hl2 := hide hr2.clen
  have hV := hide (rValid6_any a n c s l W0 hH.out)
  have hR := hide (fun w1 (hk : Kept [] W0 w1) => rRow_any a2 n2 c2 l2 w1 (hH2.out.kept hk (by simp)) hn2)
  rw [hv] at hV
  rw [hv2] at hR
  clear hr hr2
  go_enter Tryd.func34, Tryd.ntmps34
  go_upto_region 1 with fail
  rw [← hW0]
  clear hW0
  obtain ⟨q0, q1⟩ := hb0.out.at
  go_wp2_with fail
  refine hV.out.mono ?_
  rintro e w1 ⟨rfl, hk1⟩
  go_wp2_with fail
  refine (hR.out w1 hk1).mono ?_
  rintro e w2 ⟨rfl, hj2⟩
  have hk2 := hk1.trans hj2 (by simp)
  have hb2 := hide (hb0.out.kept hk2 (by simp))
  clear q0 q1
  obtain ⟨q0, q1⟩ := hb2.out.at
  go_wp2_with (refine wpList_store_lin rfl rfl rfl (w.heap.size + 1) rfl (hz0.out.kept hk2 (by simp)) none 0 0 false rfl ?_; intro w7 hb7 hk7)
  refine bodyPost_ret (results_lin2 rfl rfl hb7 rfl) rfl ?_
  exact ⟨none, 0, 0, rfl, Own.nil _ _ _ _, Nat.le_refl _, Nat.zero_le _, (hk0.trans hk2 (by simp)).trans hk7 (by simp)⟩

set_option maxHeartbeats 4000000 in
theorem rPut_good (a : Option Addr) (n c : Nat) (s : Bool) (l : List Cl) (at' : Int) (a2 : Option Addr) (n2 c2 : Nat) (l2 : List Cl) (w : World) (hr : Rd w a n 16 (cellsV l)) (hn : n ≤ 1000) (hnc : n ≤ c) (hcm : c ≤ maxLen)
    (hr2 : Rd w a2 n2 16 (cellsV l2)) (hn2 : n2 ≤ 1000) (hv : validL l = true) (hv2 : rowI l2 = true) (at0 : Nat) (hA : at' = at0) (h1 : at0 + n2 ≤ n) :
    Calls Tryd.prog 34 #[.agg #[.slice a n c, .bool s], .int .i64 at', .slice a2 n2 c2] w (LinRet2 w ((putL l at0 l2, s), 0)) := by
  subst hA
  have h1i : (at0 : Int) ≤ (n : Int) := by omega
  have h0i : (0 : Int) ≤ (at0 : Int) := by omega
  have h2i : (at0 : Int) + (n2 : Int) ≤ (n : Int) := by omega
  obtain ⟨ax, cx, hcx1, hcx2, hcutx, hcrx⟩ := cut_h a n c at0 (by omega) hnc hcm
  obtain ⟨ay, cy, hcy1, hcy2, hcuty, hcry⟩ := cut_l a n c (at0 + n2) (by omega) hnc hcm
  rw [show ((at0 + n2 : Nat) : Int) = (at0 : Int) + (n2 : Int) by push_cast; rfl] at hcuty
  obtain ⟨W0, hW0⟩ : ∃ z : World, z = (w.alloc (.cells #[.slice a n c, .bool s] 27)).alloc (.cells #[.slice none 0 0, .bool false] 27) := ⟨_, rfl⟩
  have hk0 : Kept [] w W0 := by rw [hW0]; exact ((Kept.refl [] w).alloc _).alloc _
  have hb0 : Hid (LinIn W0 w.heap.size a n c s) := hide (by rw [hW0]; exact (LinIn.new w a n c s).kept ((Kept.refl [] _).alloc _) (by simp))
  have hz0 : Hid (LinIn W0 (w.heap.size + 1) none 0 0 false) := hide (by rw [hW0]; exact heap_new_at (by simp))
  have hH := hide (hr.kept hk0 (by simp))
  have hH2 := hide (hr2.kept hk0 (by simp))
  have hs0 : w.heap.size + 1 < W0.heap.size := by rw [hW0]; simp
  have hs0 := hide hs0
  have hl := hide hr.clen
  have hl2 := hide hr2.clen
  have hV := hide (rValid6_any a n c s l W0 hH.out)
  have hR := hide (fun w1 (hk : Kept [] W0 w1) => rRow_any a2 n2 c2 l2 w1 (hH2.out.kept hk (by simp)) hn2)
  rw [hv] at hV
  rw [hv2] at hR
  have hF1 := hide (fun w1 (hk : Kept [] W0 w1) => rFix_any ax at0 cx (l.take at0) w1 (hcrx w1 l (hH.out.kept hk (by simp))) (by omega))
  have hF2 := hide (fun w1 (hk : Kept [] W0 w1) => rFix_any ay (n - (at0 + n2)) cy (l.drop (at0 + n2)) w1 (hcry w1 l (hH.out.kept hk (by simp))) (by omega))
  have hT : Hid (putL l at0 l2 = fixI (l.take at0) ++ l2 ++ fixI (l.drop (at0 + n2))) := hide (by unfold putL; rw [hl2.out])
  have hone2 := cellsV_one l2
  have hone3 := cellsV_one (fixI (l.drop (at0 + n2)))
  generalize putL l at0 l2 = T at *
  generalize fixI (l.take at0) = fx at *
  generalize fixI (l.drop (at0 + n2)) = fy at *
  have hcrx := hide hcrx
  have hcry := hide hcry
  clear hr hr2
  go_enter Tryd.func34, Tryd.ntmps34
  go_upto_region 1 with fail
  rw [← hW0]
  clear hW0
  obtain ⟨q0, q1⟩ := hb0.out.at
  go_wp2_with fail
  refine hV.out.mono ?_
  rintro e w1 ⟨rfl, hk1⟩
  go_wp2_with fail
  refine (hR.out w1 hk1).mono ?_
  rintro e w2 ⟨rfl, hj2⟩
  have hk2 := hk1.trans hj2 (by simp)
  have hb2 := hide (hb0.out.kept hk2 (by simp))
  clear q0 q1
  obtain ⟨q0, q1⟩ := hb2.out.at
  go_upto_region 5 with fail
  go_wp2_with fail
  refine (hF1.out w2 hk2).mono ?_
  rintro e w3 ⟨a3, c3, rfl, ho3, hj3⟩
  have hk3 := hide (hk2.trans hj3 (by simp))
  have ho3w := ho3
  have ho3 := hide (ho3.base (hk0.trans hk2 (by simp)).size)
  have hsz3 := (hk0.trans hk3.out (by simp)).size
  have hne3 := hide (fun g hg => by have := (ho3.out.ge g hg).1; exact this : ∀ g ∈ blk a3, w.heap.size ≤ g)
  have hr3 := hide (hH2.out.kept hk3.out (by simp))
  have hlt3 := hide (fun g hg => (ho3w.ge g hg).1 : ∀ g ∈ blk a3, w2.heap.size ≤ g)
  clear hF1
  go_wp2_with (at_builtin; refine wpList_app ?_ rfl elCell rfl rfl ho3.out rfl hr3.out hone2 ?o1 ?o2; intro a4 c4 w4 ho4 hj4 hat4; have hk4 := hide (hk3.out.trans hj4 (fun x hx => .inr (by have h1 := hlt3.out x hx; have := hk2.size; omega))); obtain ⟨p0, p1⟩ := (hb0.out.kept hk4.out (by simp)).at)
  case o1 => omega
  case o2 => exact hsz3
  have hlt4 : Hid (∀ g ∈ blk a4, W0.heap.size ≤ g) := hide (fun g hg => by
    rcases hat4 g hg with h | h
    · have h1 := hlt3.out g h
      have := hk2.size
      omega
    · have := hk3.out.size
      omega)
  have ho4 := hide ho4
  refine (hF2.out w4 hk4.out).mono ?_
  rintro e w5 ⟨a5, c5, rfl, ho5, hj5⟩
  have ho45 := hide (ho4.out.kept hj5 (by simp))
  have hr5 := hide ho5.rd
  have hk5 := hide (hk4.out.trans hj5 (by simp))
  have hsz5 := (hk0.trans hk5.out (by simp)).size
  clear hF2
  go_wp2_with (first | refine wpList_store_lin rfl rfl rfl (w.heap.size + 1) rfl (hz0.out.kept hk6.out (by simp)) a6 _ c6 s rfl ?_; intro w7 hb7 hk7 | at_builtin; refine wpList_app ?_ rfl elCell rfl rfl ho45.out rfl hr5.out hone3 ?o1 ?o2; intro a6 c6 w6 ho6 hj6 hat6; have hk6 := hide (hk5.out.trans hj6 (fun x hx => .inr (hlt4.out x hx))); obtain ⟨u0, u1⟩ := (hb0.out.kept hk6.out (by simp)).at)
  case o1 => omega
  case o2 => exact hsz5
  have hlt6 : ∀ g ∈ blk a6, W0.heap.size ≤ g := fun g hg => by
    rcases hat6 g hg with h | h
    · exact hlt4.out g h
    · have := hk5.out.size
      omega
  refine bodyPost_ret (results_lin2 rfl rfl hb7 rfl) rfl ?_
  have ho7 := ho6.kept hk7 (fun g hg hm => by have := hlt6 g hg; have := hs0.out; simp at hm; omega)
  rw [show at0 + n2 + (n - (at0 + n2)) = n by omega] at ho7
  refine ⟨a6, _, c6, rfl, ?_, ho7.caps.1, ho7.caps.2, (hk0.trans hk6.out (by simp)).trans hk7 (by simp)⟩
  rw [hT.out, cellsV_app, cellsV_app]
  exact ho7

theorem rPut_any (a : Option Addr) (n c : Nat) (s : Bool) (l : List Cl) (at' : Int) (a2 : Option Addr) (n2 c2 : Nat) (l2 : List Cl) (w : World) (hr : Rd w a n 16 (cellsV l)) (hn : n ≤ 1000) (hnc : n ≤ c) (hcm : c ≤ maxLen)
    (hr2 : Rd w a2 n2 16 (cellsV l2)) (hn2 : n2 ≤ 1000) :
    Calls Tryd.prog 34 #[.agg #[.slice a n c, .bool s], .int .i64 at', .slice a2 n2 c2] w (LinRet2 w (putE l s at' l2)) := by
  have hl := hr.clen
  have hl2 := hr2.clen
  unfold putE
  cases hv : validL l with
  | false => simpa using rPut_bad1 a n c s l at' a2 n2 c2 l2 w hr hn hnc hcm hr2 hn2 hv
  | true =>
    cases hv2 : rowI l2 with
    | false => simpa using rPut_bad2 a n c s l at' a2 n2 c2 l2 w hr hn hnc hcm hr2 hn2 hv hv2
    | true =>
      rw [if_neg (by simp), hl, hl2]
      by_cases h0 : at' < 0
      · rw [if_pos (.inl h0)]
        exact rPut_low a n c s l at' a2 n2 c2 l2 w hr hn hnc hcm hr2 hn2 hv hv2 h0
      · obtain ⟨at0, hA⟩ : ∃ k : Nat, at' = k := ⟨at'.toNat, by omega⟩
        by_cases h1 : (n : Int) < at'
        · rw [if_pos (.inr (by omega))]
          exact rPut_past a n c s l at' a2 n2 c2 l2 w hr hn hnc hcm hr2 hn2 hv hv2 (by omega) h1
        · by_cases h2 : n < at0 + n2
          · rw [if_pos (.inr (by omega))]
            exact rPut_over a n c s l at' a2 n2 c2 l2 w hr hn hnc hcm hr2 hn2 hv hv2 at0 hA (by omega) h2
          · rw [if_neg (by omega)]
            have := rPut_good a n c s l at' a2 n2 c2 l2 w hr hn hnc hcm hr2 hn2 hv hv2 at0 hA (by omega)
            rw [show at'.toNat = at0 by omega]
            exact this
end Go.Proofs.YtkhdnaopdhnkaaaDoor
