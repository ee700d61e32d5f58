/- The walk of LineLooks. -/
import Derived.Test.YtkhdnaopdhnkaaaDoorLinLaw3
namespace Go.Proofs.YtkhdnaopdhnkaaaDoor
open Go.RowKit
set_option linter.unusedVariables false
set_option maxRecDepth 100000

def LUsedIs : Prop := ∀ (a : Option Addr) (n c : Nat) (l : List Cl) (s : Bool) (w : World), Rd w a n 16 (cellsV l) → n ≤ 2000 → n ≤ c → c ≤ maxLen → Calls Tryd.prog 20 #[.agg #[.slice a n c, .bool s]] w fun e w' => e = .returned (.int .i64 (usedI l : Nat)) ∧ Kept [] w w'
def LTextIs : Prop := ∀ (a : Option Addr) (n c : Nat) (l : List Cl) (s : Bool) (w : World), Rd w a n 16 (cellsV l) → n ≤ 1000 → n ≤ c → c ≤ maxLen → Calls Tryd.prog 22 #[.agg #[.slice a n c, .bool s]] w fun e w' => e = .returned (.string (textsB (trimL l))) ∧ Kept [] w w'
def LEqualIs : Prop := ∀ (a : Option Addr) (n c : Nat) (l : List Cl) (s : Bool) (a2 : Option Addr) (n2 c2 : Nat) (l2 : List Cl) (s2 : Bool) (w : World), Rd w a n 16 (cellsV l) → Rd w a2 n2 16 (cellsV l2) → n ≤ 2000 → n2 ≤ 2000 → Calls Tryd.prog 24 #[.agg #[.slice a n c, .bool s], .agg #[.slice a2 n2 c2, .bool s2]] w fun e w' => e = .returned (.bool (decide (s = s2 ∧ l = l2))) ∧ Kept [] w w'
def LCopyIs : Prop := ∀ (a : Option Addr) (n c : Nat) (l : List Cl) (s : Bool) (w : World), Rd w a n 16 (cellsV l) → n ≤ 1000 → Calls Tryd.prog 27 #[.agg #[.slice a n c, .bool s]] w (LinRet w l s)

theorem str6_neq (t : ByteArray) (w : World) : (binOp .neq 9 (.string t) (.string t)).run Tryd.prog w = .ok (.bool false) w := by
  go_simp

set_option maxHeartbeats 4000000 in
theorem LineLooks_main (KN : Known6Is) (LU : LUsedIs) (LT : LTextIs) (LE : LEqualIs) (LC : LCopyIs) (a : Option Addr) (n c : Nat) (l : List Cl) (s : Bool) (a2 : Option Addr) (n2 c2 : Nat) (l2 : List Cl) (s2 : Bool) (w : World) (ht : Tabs w) (hr : Rd w a n 16 (cellsV l)) (hn : n ≤ 40) (hnc : n ≤ c) (hcm : c ≤ maxLen) (hr2 : Rd w a2 n2 16 (cellsV l2)) (hn2 : n2 ≤ 40) :
    Calls Tryd.prog 4 #[.agg #[.slice a n c, .bool s], .agg #[.slice a2 n2 c2, .bool s2]] w fun e w' => e = .returned (.bool true) ∧ Kept [] w w' := by
  obtain ⟨W0, hW0⟩ : ∃ z : World, z = (w.alloc (.cells #[.slice a n c, .bool s] 27)).alloc (.cells #[.slice a2 n2 c2, .bool s2] 27) := ⟨_, rfl⟩
  have hk0 : Kept [] w W0 := by rw [hW0]; exact ((Kept.refl [] w).alloc _).alloc _
  have hb0 : Hid (LinIn W0 w.heap.size a n c s) := hide (by rw [hW0]; exact (LinIn.new w a n c s).kept ((Kept.refl [] _).alloc _) (by simp))
  have hz0 : Hid (LinIn W0 (w.heap.size + 1) a2 n2 c2 s2) := hide (by rw [hW0]; exact heap_new_at (by simp))
  have hl := hide hr.clen
  have hT := hide (fun w1 (hk : Kept [] W0 w1) => ht.kept (hk0.trans hk (by simp)))
  have hR := hide (fun w1 (hk : Kept [] W0 w1) => hr.kept (hk0.trans hk (by simp)) (by simp))
  have hR2 := hide (fun w1 (hk : Kept [] W0 w1) => hr2.kept (hk0.trans hk (by simp)) (by simp))
  have hK := hide (fun w1 hk => KN w1 (hT.out w1 hk))
  have hSm := hide (fun w1 => small_any a n c s w1)
  have hSm2 := hide (fun w1 => small_any a2 n2 c2 s2 w1)
  rw [decide_eq_true hn] at hSm
  rw [decide_eq_true hn2] at hSm2
  have hU := hide (fun w1 hk => LU a n c l s w1 (hR.out w1 hk) (by omega) hnc hcm)
  have hrU := hide (fun w1 hk => rUsed_any a n c s l w1 (hR.out w1 hk) (by omega))
  have hTx := hide (fun w1 hk => LT a n c l s w1 (hR.out w1 hk) (by omega) hnc hcm)
  have hrT := hide (fun w1 hk => rText6_any a n c s l w1 (hR.out w1 hk) (by omega) hnc hcm)
  have hE := hide (fun w1 hk => LE a n c l s a2 n2 c2 l2 s2 w1 (hR.out w1 hk) (hR2.out w1 hk) (by omega) (by omega))
  have hrE := hide (fun w1 hk => rSame6_any a n c s l a2 n2 c2 s2 l2 w1 (hR.out w1 hk) (hR2.out w1 hk) (by omega))
  have hEE := hide (fun w1 hk => LE a n c l s a n c l s w1 (hR.out w1 hk) (hR.out w1 hk) (by omega) (by omega))
  rw [show decide (s = s ∧ l = l) = true by simp] at hEE
  have hrC := hide (fun w1 hk => rCopy_any a n c s l w1 (hR.out w1 hk) (by omega))
  have hC := hide (fun w1 hk => LC a n c l s w1 (hR.out w1 hk) (by omega))
  have hst := str6_neq (textsB (trimL l))
  have hni : (n : Int) ≤ 40 := by omega
  have hni2 : (n2 : Int) ≤ 40 := by omega
  clear KN LU LT LE LC ht hr hr2
  generalize decide (s = s2 ∧ l = l2) = bb at *
  generalize textsB (trimL l) = tx at *
  generalize usedI l = us at *
  have hbn : (bb != bb) = false := by simp
  have hun : ((us : Int) != (us : Int)) = false := by simp
  go_enter Tryd.func4, Tryd.ntmps4
  go_upto_region 1 with fail
  rw [← hW0]
  clear hW0
  obtain ⟨q0, q1⟩ := hb0.out.at
  go_wp2_with fail
  refine (hSm.out _).mono ?_
  rintro e w1 ⟨rfl, hk1⟩
  clear q0 q1
  obtain ⟨q0, q1⟩ := (hz0.out.kept hk1 (by simp)).at
  go_wp2_with fail
  refine (hSm2.out _).mono ?_
  rintro e w2 ⟨rfl, hj2⟩
  have hk2 := hk1.trans hj2 (by simp)
  clear q0 q1
  have hF : ∀ {w' : World}, Kept [] w2 w' → LinIn w' w.heap.size a n c s ∧ LinIn w' (w.heap.size + 1) a2 n2 c2 s2 := fun hk => ⟨hb0.out.kept (hk2.trans hk (by simp)) (by simp), hz0.out.kept (hk2.trans hk (by simp)) (by simp)⟩
  go_upto_region 3 with fail
  refine wp_region_held_drew (S := (fun w' => LinIn w' w.heap.size a n c s ∧ LinIn w' (w.heap.size + 1) a2 n2 c2 s2)) (by kernel_rfl) ?_ (fun hHeld => ?_)
  · (try dsimp only); (first | exact hF c7 | exact hF c6 | exact hF c5 | exact hF c4 | exact hF c3 | exact hF c2' | exact hF c1 | exact hF (Kept.refl [] w2).drew)
  refine wpAnyH_take (i := 0) (v := (.agg #[.slice a n c, .bool s])) rfl (by kernel_rfl) (by kernel_rfl) (by kernel_rfl) (fun _ _ _ h => h) (yieldsIf_load_mid (by rfl) 27 _ rfl w.heap.size 0 rfl (linL a n c s) _ (fun _ h => h.1.range) Tryd.underlying27 rfl (by kernel_rfl)) (by assumption) ?_
  try simp only [Act.put, List.getElem_toArray, List.getElem_cons_zero, List.setIfInBounds_toArray, List.set_cons_zero, List.set_cons_succ]
  refine wpAnyH_take (i := 2) (v := (.agg #[.slice a n c, .bool s])) rfl (by kernel_rfl) (by kernel_rfl) (by kernel_rfl) (fun _ _ _ h => h) (yieldsIf_load_mid (by rfl) 27 _ rfl w.heap.size 0 rfl (linL a n c s) _ (fun _ h => h.1.range) Tryd.underlying27 rfl (by kernel_rfl)) (by assumption) ?_
  try simp only [Act.put, List.getElem_toArray, List.getElem_cons_succ, List.getElem_cons_zero, List.setIfInBounds_toArray, List.set_cons_zero, List.set_cons_succ]
  refine wpAnyH_ready (rs := [1]) (by kernel_rfl) (by simp) ?_
  refine AllReadyH.cons rfl (fun K hK => ?_) AllReadyH.nil
  go_simp
  refine (hU.out _ (hk2.trans (Kept.refl [] w2).drew (by simp))).mono ?_; rintro e wa ⟨rfl, k1⟩; have c1 : Kept [] w2 wa := (Kept.refl [] w2).drew.trans k1 (by simp)
  try go_wp2_with fail
  refine hK.out _ _ ?_ (fun hHeld => ?_)
  · (try dsimp only); (first | exact hF c7 | exact hF c6 | exact hF c5 | exact hF c4 | exact hF c3 | exact hF c2' | exact hF c1 | exact hF (Kept.refl [] w2).drew)
  clear hK K
  try simp only [Act.put, List.getElem_toArray, List.getElem_cons_succ, List.getElem_cons_zero, List.setIfInBounds_toArray, List.set_cons_zero, List.set_cons_succ]
  refine wpAnyH_ready (rs := [3]) (by kernel_rfl) (by simp) ?_
  refine AllReadyH.cons rfl (fun K hK => ?_) AllReadyH.nil
  go_simp
  refine (hrU.out _ (hk2.trans c1 (by simp))).mono ?_; rintro e wb ⟨rfl, k2⟩; have c2' : Kept [] w2 wb := c1.trans k2 (by simp)
  try go_wp2_with fail
  refine hK.out _ _ ?_ (fun hHeld => ?_)
  · (try dsimp only); (first | exact hF c7 | exact hF c6 | exact hF c5 | exact hF c4 | exact hF c3 | exact hF c2' | exact hF c1 | exact hF (Kept.refl [] w2).drew)
  clear hK K
  try simp only [Act.put, List.getElem_toArray, List.getElem_cons_succ, List.getElem_cons_zero, List.setIfInBounds_toArray, List.set_cons_zero, List.set_cons_succ]
  refine wpAnyH_take (i := 4) (v := ?_) rfl (by kernel_rfl) (by kernel_rfl) (by kernel_rfl) (fun _ _ _ h => h) (Or.inl ⟨by rfl, ?_⟩) (by assumption) ?_
  rotate_left
  · (intro wq hSw; (try dsimp only at hSw); go_simp; try with_reducible rfl)
  try simp only [Act.put, List.getElem_toArray, List.getElem_cons_succ, List.getElem_cons_zero, List.setIfInBounds_toArray, List.set_cons_zero, List.set_cons_succ]
  refine wpAnyH_take (i := 5) (v := ?_) rfl (by kernel_rfl) (by kernel_rfl) (by kernel_rfl) (fun _ _ _ h => h) (Or.inl ⟨by rfl, ?_⟩) (by assumption) ?_
  rotate_left
  · (intro wq hSw; (try dsimp only at hSw); go_simp; try with_reducible rfl)
  try simp only [Act.put, List.getElem_toArray, List.getElem_cons_succ, List.getElem_cons_zero, List.setIfInBounds_toArray, List.set_cons_zero, List.set_cons_succ]
  refine wpAnyH_take (i := 6) (v := (.agg #[.slice a n c, .bool s])) rfl (by kernel_rfl) (by kernel_rfl) (by kernel_rfl) (fun _ _ _ h => h) (yieldsIf_load_mid (by rfl) 27 _ rfl w.heap.size 0 rfl (linL a n c s) _ (fun _ h => h.1.range) Tryd.underlying27 rfl (by kernel_rfl)) (by assumption) ?_
  try simp only [Act.put, List.getElem_toArray, List.getElem_cons_succ, List.getElem_cons_zero, List.setIfInBounds_toArray, List.set_cons_zero, List.set_cons_succ]
  refine wpAnyH_take (i := 8) (v := (.agg #[.slice a n c, .bool s])) rfl (by kernel_rfl) (by kernel_rfl) (by kernel_rfl) (fun _ _ _ h => h) (yieldsIf_load_mid (by rfl) 27 _ rfl w.heap.size 0 rfl (linL a n c s) _ (fun _ h => h.1.range) Tryd.underlying27 rfl (by kernel_rfl)) (by assumption) ?_
  try simp only [Act.put, List.getElem_toArray, List.getElem_cons_succ, List.getElem_cons_zero, List.setIfInBounds_toArray, List.set_cons_zero, List.set_cons_succ]
  refine wpAnyH_ready (rs := [7]) (by kernel_rfl) (by simp) ?_
  refine AllReadyH.cons rfl (fun K hK => ?_) AllReadyH.nil
  go_simp
  refine (hTx.out _ (hk2.trans c2' (by simp))).mono ?_; rintro e wc ⟨rfl, k3⟩; have c3 : Kept [] w2 wc := c2'.trans k3 (by simp)
  try go_wp2_with fail
  refine hK.out _ _ ?_ (fun hHeld => ?_)
  · (try dsimp only); (first | exact hF c7 | exact hF c6 | exact hF c5 | exact hF c4 | exact hF c3 | exact hF c2' | exact hF c1 | exact hF (Kept.refl [] w2).drew)
  clear hK K
  try simp only [Act.put, List.getElem_toArray, List.getElem_cons_succ, List.getElem_cons_zero, List.setIfInBounds_toArray, List.set_cons_zero, List.set_cons_succ]
  refine wpAnyH_ready (rs := [9]) (by kernel_rfl) (by simp) ?_
  refine AllReadyH.cons rfl (fun K hK => ?_) AllReadyH.nil
  go_simp
  refine (hrT.out _ (hk2.trans c3 (by simp))).mono ?_; rintro e wd ⟨rfl, k4⟩; have c4 : Kept [] w2 wd := c3.trans k4 (by simp)
  try go_wp2_with fail
  refine hK.out _ _ ?_ (fun hHeld => ?_)
  · (try dsimp only); (first | exact hF c7 | exact hF c6 | exact hF c5 | exact hF c4 | exact hF c3 | exact hF c2' | exact hF c1 | exact hF (Kept.refl [] w2).drew)
  clear hK K
  try simp only [Act.put, List.getElem_toArray, List.getElem_cons_succ, List.getElem_cons_zero, List.setIfInBounds_toArray, List.set_cons_zero, List.set_cons_succ]
  refine wpAnyH_take (i := 10) (v := ?_) rfl (by kernel_rfl) (by kernel_rfl) (by kernel_rfl) (fun _ _ _ h => h) (Or.inl ⟨by rfl, ?_⟩) (by assumption) ?_
  rotate_left
  · (intro wq hSw; (try dsimp only at hSw); go_simp; try with_reducible rfl)
  try simp only [Act.put, List.getElem_toArray, List.getElem_cons_succ, List.getElem_cons_zero, List.setIfInBounds_toArray, List.set_cons_zero, List.set_cons_succ]
  refine wpAnyH_take (i := 11) (v := ?_) rfl (by kernel_rfl) (by kernel_rfl) (by kernel_rfl) (fun _ _ _ h => h) (Or.inl ⟨by rfl, ?_⟩) (by assumption) ?_
  rotate_left
  · (intro wq hSw; (try dsimp only at hSw); go_simp; try with_reducible rfl)
  try simp only [Act.put, List.getElem_toArray, List.getElem_cons_succ, List.getElem_cons_zero, List.setIfInBounds_toArray, List.set_cons_zero, List.set_cons_succ]
  refine wpAnyH_take (i := 12) (v := ?_) rfl (by kernel_rfl) (by kernel_rfl) (by kernel_rfl) (fun _ _ _ h => h) (Or.inl ⟨by rfl, ?_⟩) (by assumption) ?_
  rotate_left
  · (intro wq hSw; (try dsimp only at hSw); go_simp; try with_reducible rfl)
  try simp only [Act.put, List.getElem_toArray, List.getElem_cons_succ, List.getElem_cons_zero, List.setIfInBounds_toArray, List.set_cons_zero, List.set_cons_succ]
  refine wpAnyH_take (i := 13) (v := (.agg #[.slice a n c, .bool s])) rfl (by kernel_rfl) (by kernel_rfl) (by kernel_rfl) (fun _ _ _ h => h) (yieldsIf_load_mid (by rfl) 27 _ rfl w.heap.size 0 rfl (linL a n c s) _ (fun _ h => h.1.range) Tryd.underlying27 rfl (by kernel_rfl)) (by assumption) ?_
  try simp only [Act.put, List.getElem_toArray, List.getElem_cons_succ, List.getElem_cons_zero, List.setIfInBounds_toArray, List.set_cons_zero, List.set_cons_succ]
  refine wpAnyH_take (i := 14) (v := (.agg #[.slice a2 n2 c2, .bool s2])) rfl (by kernel_rfl) (by kernel_rfl) (by kernel_rfl) (fun _ _ _ h => h) (yieldsIf_load_mid (by rfl) 27 _ rfl (w.heap.size + 1) 0 rfl (linL a2 n2 c2 s2) _ (fun _ h => h.2.range) Tryd.underlying27 rfl (by kernel_rfl)) (by assumption) ?_
  try simp only [Act.put, List.getElem_toArray, List.getElem_cons_succ, List.getElem_cons_zero, List.setIfInBounds_toArray, List.set_cons_zero, List.set_cons_succ]
  refine wpAnyH_take (i := 16) (v := (.agg #[.slice a n c, .bool s])) rfl (by kernel_rfl) (by kernel_rfl) (by kernel_rfl) (fun _ _ _ h => h) (yieldsIf_load_mid (by rfl) 27 _ rfl w.heap.size 0 rfl (linL a n c s) _ (fun _ h => h.1.range) Tryd.underlying27 rfl (by kernel_rfl)) (by assumption) ?_
  try simp only [Act.put, List.getElem_toArray, List.getElem_cons_succ, List.getElem_cons_zero, List.setIfInBounds_toArray, List.set_cons_zero, List.set_cons_succ]
  refine wpAnyH_take (i := 17) (v := (.agg #[.slice a2 n2 c2, .bool s2])) rfl (by kernel_rfl) (by kernel_rfl) (by kernel_rfl) (fun _ _ _ h => h) (yieldsIf_load_mid (by rfl) 27 _ rfl (w.heap.size + 1) 0 rfl (linL a2 n2 c2 s2) _ (fun _ h => h.2.range) Tryd.underlying27 rfl (by kernel_rfl)) (by assumption) ?_
  try simp only [Act.put, List.getElem_toArray, List.getElem_cons_succ, List.getElem_cons_zero, List.setIfInBounds_toArray, List.set_cons_zero, List.set_cons_succ]
  refine wpAnyH_ready (rs := [15]) (by kernel_rfl) (by simp) ?_
  refine AllReadyH.cons rfl (fun K hK => ?_) AllReadyH.nil
  go_simp
  refine (hE.out _ (hk2.trans c4 (by simp))).mono ?_; rintro e we ⟨rfl, k5⟩; have c5 : Kept [] w2 we := c4.trans k5 (by simp)
  try go_wp2_with fail
  refine hK.out _ _ ?_ (fun hHeld => ?_)
  · (try dsimp only); (first | exact hF c7 | exact hF c6 | exact hF c5 | exact hF c4 | exact hF c3 | exact hF c2' | exact hF c1 | exact hF (Kept.refl [] w2).drew)
  clear hK K
  try simp only [Act.put, List.getElem_toArray, List.getElem_cons_succ, List.getElem_cons_zero, List.setIfInBounds_toArray, List.set_cons_zero, List.set_cons_succ]
  refine wpAnyH_ready (rs := [18]) (by kernel_rfl) (by simp) ?_
  refine AllReadyH.cons rfl (fun K hK => ?_) AllReadyH.nil
  go_simp
  refine (hrE.out _ (hk2.trans c5 (by simp))).mono ?_; rintro e wf ⟨rfl, k6⟩; have c6 : Kept [] w2 wf := c5.trans k6 (by simp)
  try go_wp2_with fail
  refine hK.out _ _ ?_ (fun hHeld => ?_)
  · (try dsimp only); (first | exact hF c7 | exact hF c6 | exact hF c5 | exact hF c4 | exact hF c3 | exact hF c2' | exact hF c1 | exact hF (Kept.refl [] w2).drew)
  clear hK K
  try simp only [Act.put, List.getElem_toArray, List.getElem_cons_succ, List.getElem_cons_zero, List.setIfInBounds_toArray, List.set_cons_zero, List.set_cons_succ]
  refine wpAnyH_take (i := 19) (v := ?_) rfl (by kernel_rfl) (by kernel_rfl) (by kernel_rfl) (fun _ _ _ h => h) (Or.inl ⟨by rfl, ?_⟩) (by assumption) ?_
  rotate_left
  · (intro wq hSw; (try dsimp only at hSw); go_simp; try with_reducible rfl)
  try simp only [Act.put, List.getElem_toArray, List.getElem_cons_succ, List.getElem_cons_zero, List.setIfInBounds_toArray, List.set_cons_zero, List.set_cons_succ]
  refine wpAnyH_take (i := 20) (v := ?_) rfl (by kernel_rfl) (by kernel_rfl) (by kernel_rfl) (fun _ _ _ h => h) (Or.inl ⟨by rfl, ?_⟩) (by assumption) ?_
  rotate_left
  · (intro wq hSw; (try dsimp only at hSw); go_simp; try with_reducible rfl)
  try simp only [Act.put, List.getElem_toArray, List.getElem_cons_succ, List.getElem_cons_zero, List.setIfInBounds_toArray, List.set_cons_zero, List.set_cons_succ]
  refine wpAnyH_take (i := 21) (v := ?_) rfl (by kernel_rfl) (by kernel_rfl) (by kernel_rfl) (fun _ _ _ h => h) (Or.inl ⟨by rfl, ?_⟩) (by assumption) ?_
  rotate_left
  · (intro wq hSw; (try dsimp only at hSw); go_simp; try with_reducible rfl)
  try simp only [Act.put, List.getElem_toArray, List.getElem_cons_succ, List.getElem_cons_zero, List.setIfInBounds_toArray, List.set_cons_zero, List.set_cons_succ]
  refine wpAnyH_take (i := 22) (v := (.agg #[.slice a n c, .bool s])) rfl (by kernel_rfl) (by kernel_rfl) (by kernel_rfl) (fun _ _ _ h => h) (yieldsIf_load_mid (by rfl) 27 _ rfl w.heap.size 0 rfl (linL a n c s) _ (fun _ h => h.1.range) Tryd.underlying27 rfl (by kernel_rfl)) (by assumption) ?_
  try simp only [Act.put, List.getElem_toArray, List.getElem_cons_succ, List.getElem_cons_zero, List.setIfInBounds_toArray, List.set_cons_zero, List.set_cons_succ]
  refine wpAnyH_take (i := 23) (v := (.agg #[.slice a n c, .bool s])) rfl (by kernel_rfl) (by kernel_rfl) (by kernel_rfl) (fun _ _ _ h => h) (yieldsIf_load_mid (by rfl) 27 _ rfl w.heap.size 0 rfl (linL a n c s) _ (fun _ h => h.1.range) Tryd.underlying27 rfl (by kernel_rfl)) (by assumption) ?_
  try simp only [Act.put, List.getElem_toArray, List.getElem_cons_succ, List.getElem_cons_zero, List.setIfInBounds_toArray, List.set_cons_zero, List.set_cons_succ]
  refine wpAnyH_ready (rs := [24]) (by kernel_rfl) (by simp) ?_
  refine AllReadyH.cons rfl (fun K hK => ?_) AllReadyH.nil
  go_simp
  refine (hEE.out _ (hk2.trans c6 (by simp))).mono ?_; rintro e wg ⟨rfl, k7⟩; have c7 : Kept [] w2 wg := c6.trans k7 (by simp)
  try go_wp2_with fail
  refine hK.out _ _ ?_ (fun hHeld => ?_)
  · (try dsimp only); (first | exact hF c7 | exact hF c6 | exact hF c5 | exact hF c4 | exact hF c3 | exact hF c2' | exact hF c1 | exact hF (Kept.refl [] w2).drew)
  clear hK K
  try simp only [Act.put, List.getElem_toArray, List.getElem_cons_succ, List.getElem_cons_zero, List.setIfInBounds_toArray, List.set_cons_zero, List.set_cons_succ]
  refine wpAnyH_take (i := 25) (v := ?_) rfl (by kernel_rfl) (by kernel_rfl) (by kernel_rfl) (fun _ _ _ h => h) (Or.inl ⟨by rfl, ?_⟩) (by assumption) ?_
  rotate_left
  · (intro wq hSw; (try dsimp only at hSw); go_simp; try with_reducible rfl)
  try simp only [Act.put, List.getElem_toArray, List.getElem_cons_succ, List.getElem_cons_zero, List.setIfInBounds_toArray, List.set_cons_zero, List.set_cons_succ]
  refine wpAnyH_take (i := 26) (v := ?_) rfl (by kernel_rfl) (by kernel_rfl) (by kernel_rfl) (fun _ _ _ h => h) (Or.inl ⟨by rfl, ?_⟩) (by assumption) ?_
  rotate_left
  · (intro wq hSw; (try dsimp only at hSw); go_simp; try with_reducible rfl)
  try simp only [Act.put, List.getElem_toArray, List.getElem_cons_succ, List.getElem_cons_zero, List.setIfInBounds_toArray, List.set_cons_zero, List.set_cons_succ]
  refine wpAnyH_done (by kernel_rfl) ?_ _
  have hk3 := hk2.trans c7 (by simp)
  obtain ⟨q0, q1⟩ := (hF c7).1.at
  go_wp2_with fail
  refine (hrC.out wg hk3).mono ?_
  rintro e w3 ⟨a5, n5, c5, rfl, ho5, _, _, hj3⟩
  obtain rfl : n = n5 := by have h1 := ho5.rd.clen; have h2 := hl.out; have h3 : l.length = n5 := h1; omega
  have hk33 := hk3.trans hj3 (by simp)
  clear q0 q1
  go_wp2_with (refine wpList_store_lin rfl rfl rfl w3.heap.size rfl (LinIn.new w3 none 0 0 false) a5 n c5 s rfl ?_; intro w4 hb4 hj4; have hj34 : Kept [] w3 w4 := ((Kept.refl [] w3).alloc (.cells #[.slice none 0 0, .bool false] 27)).trans hj4 (by simp); have hk4 := hk33.trans hj34 (by simp); obtain ⟨q0, q1⟩ := (hb0.out.kept hk4 (by simp)).at)
  have ho54 := ho5.kept hj34 (by simp)
  have hlt5 : ∀ g ∈ blk a5, g < w3.heap.size := fun g hg => (ho5.ge g hg).2
  have hs34 : w3.heap.size < w4.heap.size := hb4.lt
  refine (hC.out w4 hk4).mono ?_
  rintro e w5 ⟨a6, n6, c6, rfl, ho6, _, _, hj5⟩
  obtain rfl : n = n6 := by have h1 := ho6.rd.clen; have h2 := hl.out; have h3 : l.length = n6 := h1; omega
  have hk5 := hk4.trans hj5 (by simp)
  have hb45 := hb4.kept hj5 (by simp)
  clear q0 q1
  go_wp2_with (refine wpList_store_lin rfl rfl rfl w5.heap.size rfl (LinIn.new w5 none 0 0 false) a6 n c6 s rfl ?_; intro w6 hb6 hj6; have hj56 : Kept [] w5 w6 := ((Kept.refl [] w5).alloc (.cells #[.slice none 0 0, .bool false] 27)).trans hj6 (by simp); have hk6 := hk5.trans hj56 (by simp); obtain ⟨q0, q1⟩ := (hb45.kept hj56 (by simp)).at; obtain ⟨r0, r1⟩ := hb6.at)
  have hj46 := hj5.trans hj56 (by simp)
  have ho66 := ho6.kept hj56 (by simp)
  have hge6 : ∀ g ∈ blk a6, w4.heap.size ≤ g := fun g hg => (ho6.ge g hg).1
  refine (same_same s l a6 n c6 a5 n c5 w6 ho66.rd (ho54.kept hj46 (by simp)).rd (by omega)).mono ?_
  rintro e w7 ⟨rfl, hj7⟩
  clear q0 q1 r0 r1
  obtain ⟨q0, q1⟩ := (hb6.kept hj7 (by simp)).at
  go_wp2_with fail
  refine (Stain_any a6 n c6 _ _ w7 (ho66.kept hj7 (by simp)) (by omega)).mono ?_
  rintro e w8 ⟨rfl, hj8⟩
  have hj48 := (hj46.trans hj7 (by simp)).trans hj8 (fun x hx => .inr (hge6 x hx))
  have hk8 := hk4.trans hj48 (by simp)
  clear q0 q1
  obtain ⟨q0, q1⟩ := (hb0.out.kept hk8 (by simp)).at
  obtain ⟨r0, r1⟩ := (hb4.kept hj48 (by simp)).at
  go_wp2_with fail
  refine (same_same s l a n c a5 n c5 w8 (hR.out w8 hk8) (ho54.kept hj48 (by simp)).rd (by omega)).mono ?_
  rintro e w9 ⟨rfl, hj9⟩
  have hk9 := hk8.trans hj9 (by simp)
  go_wp2_with fail
  refine (hK.out w9 hk9).mono ?_
  rintro e w10 ⟨rfl, hj10⟩
  go_wp2_with fail
  go_ret
  exact ⟨rfl, hk0.trans (hk9.trans hj10 (by simp)) (by simp)⟩
theorem LineLooks_walk (KN : Known6Is) (LU : LUsedIs) (LT : LTextIs) (LE : LEqualIs) (LC : LCopyIs) (a : Option Addr) (n c : Nat) (l : List Cl) (s : Bool) (a2 : Option Addr) (n2 c2 : Nat) (l2 : List Cl) (s2 : Bool) (w : World) (ht : Tabs w) (hr : Rd w a n 16 (cellsV l)) (hnc : n ≤ c) (hcm : c ≤ maxLen) (hr2 : Rd w a2 n2 16 (cellsV l2)) :
    Calls Tryd.prog 4 #[.agg #[.slice a n c, .bool s], .agg #[.slice a2 n2 c2, .bool s2]] w fun e w' => e = .returned (.bool true) ∧ Kept [] w w' := by
  by_cases hn : n ≤ 40
  · by_cases hn2 : n2 ≤ 40
    · exact LineLooks_main KN LU LT LE LC a n c l s a2 n2 c2 l2 s2 w ht hr hn hnc hcm hr2 hn2
    · obtain ⟨W0, hW0⟩ : ∃ z : World, z = (w.alloc (.cells #[.slice a n c, .bool s] 27)).alloc (.cells #[.slice a2 n2 c2, .bool s2] 27) := ⟨_, rfl⟩
      have hk0 : Kept [] w W0 := by rw [hW0]; exact ((Kept.refl [] w).alloc _).alloc _
      have hb0 : Hid (LinIn W0 w.heap.size a n c s) := hide (by rw [hW0]; exact (LinIn.new w a n c s).kept ((Kept.refl [] _).alloc _) (by simp))
      have hz0 : Hid (LinIn W0 (w.heap.size + 1) a2 n2 c2 s2) := hide (by rw [hW0]; exact heap_new_at (by simp))
      have hSm := hide (fun w1 => small_any a n c s w1)
      have hSm2 := hide (fun w1 => small_any a2 n2 c2 s2 w1)
      rw [decide_eq_true hn] at hSm
      rw [decide_eq_false hn2] at hSm2
      have hK := hide (fun w1 (hk : Kept [] w w1) => KN w1 (ht.kept hk))
      clear KN LU LT LE LC ht hr hr2
      go_enter Tryd.func4, Tryd.ntmps4
      go_upto_region 1 with fail
      rw [← hW0]
      clear hW0
      obtain ⟨q0, q1⟩ := hb0.out.at
      go_wp2_with fail
      refine (hSm.out _).mono ?_
      rintro e w1 ⟨rfl, hk1⟩
      clear q0 q1
      obtain ⟨q0, q1⟩ := (hz0.out.kept hk1 (by simp)).at
      go_wp2_with fail
      refine (hSm2.out _).mono ?_
      rintro e w2 ⟨rfl, hj2⟩
      have hk2 := hk0.trans (hk1.trans hj2 (by simp)) (by simp)
      go_wp2_with fail
      refine (hK.out w2 hk2).mono ?_
      rintro e w3 ⟨rfl, hj3⟩
      go_wp2_with fail
      go_ret
      exact ⟨rfl, hk2.trans hj3 (by simp)⟩
  · obtain ⟨W0, hW0⟩ : ∃ z : World, z = (w.alloc (.cells #[.slice a n c, .bool s] 27)).alloc (.cells #[.slice a2 n2 c2, .bool s2] 27) := ⟨_, rfl⟩
    have hk0 : Kept [] w W0 := by rw [hW0]; exact ((Kept.refl [] w).alloc _).alloc _
    have hb0 : Hid (LinIn W0 w.heap.size a n c s) := hide (by rw [hW0]; exact (LinIn.new w a n c s).kept ((Kept.refl [] _).alloc _) (by simp))
    have hSm := hide (fun w1 => small_any a n c s w1)
    rw [decide_eq_false hn] at hSm
    have hK := hide (fun w1 (hk : Kept [] w w1) => KN w1 (ht.kept hk))
    clear KN LU LT LE LC ht hr hr2
    go_enter Tryd.func4, Tryd.ntmps4
    go_upto_region 1 with fail
    rw [← hW0]
    clear hW0
    obtain ⟨q0, q1⟩ := hb0.out.at
    go_wp2_with fail
    refine (hSm.out _).mono ?_
    rintro e w1 ⟨rfl, hk1⟩
    have hk2 := hk0.trans hk1 (by simp)
    go_wp2_with fail
    refine (hK.out w1 hk2).mono ?_
    rintro e w3 ⟨rfl, hj3⟩
    go_wp2_with fail
    go_ret
    exact ⟨rfl, hk2.trans hj3 (by simp)⟩
end Go.Proofs.YtkhdnaopdhnkaaaDoor
