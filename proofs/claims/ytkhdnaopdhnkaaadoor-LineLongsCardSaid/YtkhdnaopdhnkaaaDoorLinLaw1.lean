/- The walk of LineNew. -/
import Derived.Test.YtkhdnaopdhnkaaaDoorLinAsk
namespace Go.Proofs.YtkhdnaopdhnkaaaDoor
open Go.RowKit
set_option linter.unusedVariables false
set_option maxRecDepth 100000

def LValidIs : Prop := ∀ (a : Option Addr) (n c : Nat) (l : List Cl) (s : Bool) (w : World), Tabs w → Rd w a n 16 (cellsV l) → n ≤ 2000 → Calls Tryd.prog 13 #[.agg #[.slice a n c, .bool s]] w fun e w' => e = .returned (.bool (validL l)) ∧ Kept [] w w'
def Known6Is : Prop := ∀ w, Tabs w → Calls Tryd.prog 9 #[] w fun e w' => e = .returned (.bool true) ∧ Kept [] w w'

theorem newR_ok (N : Nat) (h : N ≤ 1000) : newR (N : Int) = ((newL N, false), 0) := by unfold newR newE; rw [if_pos (by omega)]; rfl
theorem newR_no (k : Int) (h : ¬ (0 ≤ k ∧ k ≤ 1000)) : newR k = (([], false), 2) := by unfold newR newE; rw [if_neg h]
theorem ofL_ok {l : List Cl} {s : Bool} (h : validL l = true) : ofL l s = ((l, s), 0) := by unfold ofL; rw [if_pos h]
theorem ofL_no {l : List Cl} {s : Bool} (h : validL l = false) : ofL l s = (([], false), 2) := by unfold ofL; rw [if_neg (by rw [h]; simp)]

set_option maxHeartbeats 2000000 in
theorem LineNew_ni (KN : Known6Is) (LV : LValidIs) (LN : LNewIs) (LO : LOfIs) (k : Int) (hc : ¬ (0 ≤ k ∧ k ≤ 1000)) (a : Option Addr) (n c : Nat) (l : List Cl) (s : Bool) (w : World) (ht : Tabs w) (hr : Rd w a n 16 (cellsV l)) (hn : n ≤ 40) (hnc : n ≤ c) (hcm : c ≤ maxLen) (hv : validL l = false) :
    Calls Tryd.prog 3 #[.int .i64 k, .slice a n c, .bool s] w fun e w' => e = .returned (.bool true) ∧ Kept [] w w' := by
  have hl := hr.clen
  have hl := hide hl
  have hT := hide (fun w1 (hk : Kept [] w w1) => ht.kept hk)
  have hR := hide (fun w1 (hk : Kept [] w w1) => hr.kept hk (by simp))
  have hK := hide (fun w1 hk => KN w1 (hT.out w1 hk))
  have hCo := hide (fun w1 => rColumns_any k w1)
  have hVa := hide (fun w1 hk => LV a n c l s w1 (hT.out w1 hk) (hR.out w1 hk) (by omega))
  have hRv := hide (fun w1 hk => rValid6_any a n c s l w1 (hR.out w1 hk))
  rw [hv] at hVa hRv
  rw [decide_eq_false hc] at hCo
  have hNa := hide (fun w1 => news_ask LN k none 0 0 false [] 2 true w1 (Rd.nil _ _ _) (by rw [newR_no k hc]; simp))
  have hOf := hide (fun w1 hk => of6_ask LO a n c l s none 0 0 false [] 2 true w1 (hT.out w1 hk) (hR.out w1 hk) (by omega) hnc hcm (Rd.nil _ _ _) (by rw [ofL_no hv]; simp))
  have hni : (n : Int) ≤ 40 := by omega
  clear KN LV LN LO ht hr hv
  go_enter Tryd.func3, Tryd.ntmps3
  go_wp2_with fail
  refine (hCo.out w).mono ?_
  rintro e w0 ⟨rfl, rfl⟩
  go_wp2_with fail
  refine (hNa.out w0).mono ?_
  rintro e w3 ⟨rfl, hk3⟩
  have hs3 := hk3.size
  go_wp2_with (refine wpList_store_lin rfl rfl rfl w3.heap.size rfl (LinIn.new w3 none 0 0 false) a n c s rfl ?_; intro w4 hb4 hj4)
  have hk4 : Kept [] w0 w4 := (hk3.trans ((Kept.refl [] w3).alloc _) (by simp)).trans hj4 (by simp; omega)
  have hb4 := hide hb4
  refine wp_region_held_drew (S := (fun w' => LinIn w' w3.heap.size a n c s)) (by kernel_rfl) ?_ (fun hHeld => ?_)
  · (try dsimp only); (first | exact hb4.out.kept (((Kept.refl [] w4).drew.trans k1 (by simp)).trans k2 (by simp)) (by simp) | exact hb4.out.kept ((Kept.refl [] w4).drew.trans k1 (by simp)) (by simp) | exact hb4.out.kept (Kept.refl [] w4).drew (by simp))
  refine wpAnyH_take (i := 0) (v := (.agg #[.slice a n c, .bool s])) rfl (by kernel_rfl) (by kernel_rfl) (by kernel_rfl) (fun _ _ _ h => h) (yieldsIf_load_mid (by rfl) 27 _ rfl w3.heap.size 0 rfl (linL a n c s) _ (fun _ h => h.range) Tryd.underlying27 rfl (by kernel_rfl)) (by assumption) ?_
  try simp only [Act.put, List.getElem_toArray, List.getElem_cons_zero, List.setIfInBounds_toArray, List.set_cons_zero, List.set_cons_succ]
  refine wpAnyH_take (i := 2) (v := (.agg #[.slice a n c, .bool s])) rfl (by kernel_rfl) (by kernel_rfl) (by kernel_rfl) (fun _ _ _ h => h) (yieldsIf_load_mid (by rfl) 27 _ rfl w3.heap.size 0 rfl (linL a n c s) _ (fun _ h => h.range) Tryd.underlying27 rfl (by kernel_rfl)) (by assumption) ?_
  try simp only [Act.put, List.getElem_toArray, List.getElem_cons_succ, List.getElem_cons_zero, List.setIfInBounds_toArray, List.set_cons_zero, List.set_cons_succ]
  refine wpAnyH_ready (rs := [1]) (by kernel_rfl) (by simp) ?_
  refine AllReadyH.cons rfl (fun K hK => ?_) AllReadyH.nil
  go_simp
  refine (hVa.out w4.drew (hk4.trans (Kept.refl [] w4).drew (by simp))).mono ?_; rintro e w5 ⟨rfl, k1⟩
  try go_wp2_with fail
  refine hK.out _ _ ?_ (fun hHeld => ?_)
  · (try dsimp only); (first | exact hb4.out.kept (((Kept.refl [] w4).drew.trans k1 (by simp)).trans k2 (by simp)) (by simp) | exact hb4.out.kept ((Kept.refl [] w4).drew.trans k1 (by simp)) (by simp) | exact hb4.out.kept (Kept.refl [] w4).drew (by simp))
  clear hK K
  try simp only [Act.put, List.getElem_toArray, List.getElem_cons_succ, List.getElem_cons_zero, List.setIfInBounds_toArray, List.set_cons_zero, List.set_cons_succ]
  refine wpAnyH_ready (rs := [3]) (by kernel_rfl) (by simp) ?_
  refine AllReadyH.cons rfl (fun K hK => ?_) AllReadyH.nil
  go_simp
  refine (hRv.out w5 ((hk4.trans (Kept.refl [] w4).drew (by simp)).trans k1 (by simp))).mono ?_; rintro e w6 ⟨rfl, k2⟩
  try go_wp2_with fail
  refine hK.out _ _ ?_ (fun hHeld => ?_)
  · (try dsimp only); (first | exact hb4.out.kept (((Kept.refl [] w4).drew.trans k1 (by simp)).trans k2 (by simp)) (by simp) | exact hb4.out.kept ((Kept.refl [] w4).drew.trans k1 (by simp)) (by simp) | exact hb4.out.kept (Kept.refl [] w4).drew (by simp))
  clear hK K
  try simp only [Act.put, List.getElem_toArray, List.getElem_cons_succ, List.getElem_cons_zero, List.setIfInBounds_toArray, List.set_cons_zero, List.set_cons_succ]
  refine wpAnyH_take (i := 4) (v := ?_) rfl (by kernel_rfl) (by kernel_rfl) (by kernel_rfl) (fun _ _ _ h => h) (Or.inl ⟨by rfl, ?_⟩) (by assumption) ?_
  rotate_left
  · (intro wq hSw; (try dsimp only at hSw); go_simp; try with_reducible rfl)
  try simp only [Act.put, List.getElem_toArray, List.getElem_cons_succ, List.getElem_cons_zero, List.setIfInBounds_toArray, List.set_cons_zero, List.set_cons_succ]
  refine wpAnyH_done (by kernel_rfl) ?_ _
  have hj6 : Kept [] w4 w6 := ((Kept.refl [] w4).drew.trans k1 (by simp)).trans k2 (by simp)
  have hk6 := hk4.trans hj6 (by simp)
  have hb6 := hb4.out.kept hj6 (by simp)
  obtain ⟨q0, q1⟩ := hb6.at
  go_wp2_with fail
  refine (hRv.out w6 hk6).mono ?_
  rintro e w7 ⟨rfl, hj7⟩
  have hk7 := hk6.trans hj7 (by simp)
  go_wp2_with fail
  refine (hOf.out w7 hk7).mono ?_
  rintro e w8 ⟨rfl, hj8⟩
  have hk8 := hk7.trans hj8 (by simp)
  go_wp2_with fail
  refine (hK.out w8 hk8).mono ?_
  rintro e w9 ⟨rfl, hj9⟩
  go_wp2_with fail
  go_ret
  exact ⟨rfl, hk8.trans hj9 (by simp)⟩

set_option maxHeartbeats 2000000 in
theorem LineNew_nv (KN : Known6Is) (LV : LValidIs) (LN : LNewIs) (LO : LOfIs) (k : Int) (hc : ¬ (0 ≤ k ∧ k ≤ 1000)) (a : Option Addr) (n c : Nat) (l : List Cl) (s : Bool) (w : World) (ht : Tabs w) (hr : Rd w a n 16 (cellsV l)) (hn : n ≤ 40) (hnc : n ≤ c) (hcm : c ≤ maxLen) (hv : validL l = true) :
    Calls Tryd.prog 3 #[.int .i64 k, .slice a n c, .bool s] w fun e w' => e = .returned (.bool true) ∧ Kept [] w w' := by
  have hl := hr.clen
  have hl := hide hl
  have hT := hide (fun w1 (hk : Kept [] w w1) => ht.kept hk)
  have hR := hide (fun w1 (hk : Kept [] w w1) => hr.kept hk (by simp))
  have hK := hide (fun w1 hk => KN w1 (hT.out w1 hk))
  have hCo := hide (fun w1 => rColumns_any k w1)
  have hVa := hide (fun w1 hk => LV a n c l s w1 (hT.out w1 hk) (hR.out w1 hk) (by omega))
  have hRv := hide (fun w1 hk => rValid6_any a n c s l w1 (hR.out w1 hk))
  rw [hv] at hVa hRv
  rw [decide_eq_false hc] at hCo
  have hNa := hide (fun w1 => news_ask LN k none 0 0 false [] 2 true w1 (Rd.nil _ _ _) (by rw [newR_no k hc]; simp))
  have hOf := hide (fun a1 c1 w1 ht1 hr1 h1 h2 => LO a1 n c1 l s w1 ht1 hr1 (by omega) h1 h2)
  rw [ofL_ok hv] at hOf
  have hIs := hide (fun a2 n2 c2 w1 hr2 hr3 hn2 => is_any a2 n2 c2 s l 0 a n c s l 0 w1 hr2 hr3 hn2)
  rw [show (decide (s = s ∧ l = l) && decide ((0 : Int) = 0)) = true by simp] at hIs
  have hni : (n : Int) ≤ 40 := by omega
  clear KN LV LN LO ht hr hv
  go_enter Tryd.func3, Tryd.ntmps3
  go_wp2_with fail
  refine (hCo.out w).mono ?_
  rintro e w0 ⟨rfl, rfl⟩
  go_wp2_with fail
  refine (hNa.out w0).mono ?_
  rintro e w3 ⟨rfl, hk3⟩
  have hs3 := hk3.size
  go_wp2_with (refine wpList_store_lin rfl rfl rfl w3.heap.size rfl (LinIn.new w3 none 0 0 false) a n c s rfl ?_; intro w4 hb4 hj4)
  have hk4 : Kept [] w0 w4 := (hk3.trans ((Kept.refl [] w3).alloc _) (by simp)).trans hj4 (by simp; omega)
  have hb4 := hide hb4
  refine wp_region_held_drew (S := (fun w' => LinIn w' w3.heap.size a n c s)) (by kernel_rfl) ?_ (fun hHeld => ?_)
  · (try dsimp only); (first | exact hb4.out.kept (((Kept.refl [] w4).drew.trans k1 (by simp)).trans k2 (by simp)) (by simp) | exact hb4.out.kept ((Kept.refl [] w4).drew.trans k1 (by simp)) (by simp) | exact hb4.out.kept (Kept.refl [] w4).drew (by simp))
  refine wpAnyH_take (i := 0) (v := (.agg #[.slice a n c, .bool s])) rfl (by kernel_rfl) (by kernel_rfl) (by kernel_rfl) (fun _ _ _ h => h) (yieldsIf_load_mid (by rfl) 27 _ rfl w3.heap.size 0 rfl (linL a n c s) _ (fun _ h => h.range) Tryd.underlying27 rfl (by kernel_rfl)) (by assumption) ?_
  try simp only [Act.put, List.getElem_toArray, List.getElem_cons_zero, List.setIfInBounds_toArray, List.set_cons_zero, List.set_cons_succ]
  refine wpAnyH_take (i := 2) (v := (.agg #[.slice a n c, .bool s])) rfl (by kernel_rfl) (by kernel_rfl) (by kernel_rfl) (fun _ _ _ h => h) (yieldsIf_load_mid (by rfl) 27 _ rfl w3.heap.size 0 rfl (linL a n c s) _ (fun _ h => h.range) Tryd.underlying27 rfl (by kernel_rfl)) (by assumption) ?_
  try simp only [Act.put, List.getElem_toArray, List.getElem_cons_succ, List.getElem_cons_zero, List.setIfInBounds_toArray, List.set_cons_zero, List.set_cons_succ]
  refine wpAnyH_ready (rs := [1]) (by kernel_rfl) (by simp) ?_
  refine AllReadyH.cons rfl (fun K hK => ?_) AllReadyH.nil
  go_simp
  refine (hVa.out w4.drew (hk4.trans (Kept.refl [] w4).drew (by simp))).mono ?_; rintro e w5 ⟨rfl, k1⟩
  try go_wp2_with fail
  refine hK.out _ _ ?_ (fun hHeld => ?_)
  · (try dsimp only); (first | exact hb4.out.kept (((Kept.refl [] w4).drew.trans k1 (by simp)).trans k2 (by simp)) (by simp) | exact hb4.out.kept ((Kept.refl [] w4).drew.trans k1 (by simp)) (by simp) | exact hb4.out.kept (Kept.refl [] w4).drew (by simp))
  clear hK K
  try simp only [Act.put, List.getElem_toArray, List.getElem_cons_succ, List.getElem_cons_zero, List.setIfInBounds_toArray, List.set_cons_zero, List.set_cons_succ]
  refine wpAnyH_ready (rs := [3]) (by kernel_rfl) (by simp) ?_
  refine AllReadyH.cons rfl (fun K hK => ?_) AllReadyH.nil
  go_simp
  refine (hRv.out w5 ((hk4.trans (Kept.refl [] w4).drew (by simp)).trans k1 (by simp))).mono ?_; rintro e w6 ⟨rfl, k2⟩
  try go_wp2_with fail
  refine hK.out _ _ ?_ (fun hHeld => ?_)
  · (try dsimp only); (first | exact hb4.out.kept (((Kept.refl [] w4).drew.trans k1 (by simp)).trans k2 (by simp)) (by simp) | exact hb4.out.kept ((Kept.refl [] w4).drew.trans k1 (by simp)) (by simp) | exact hb4.out.kept (Kept.refl [] w4).drew (by simp))
  clear hK K
  try simp only [Act.put, List.getElem_toArray, List.getElem_cons_succ, List.getElem_cons_zero, List.setIfInBounds_toArray, List.set_cons_zero, List.set_cons_succ]
  refine wpAnyH_take (i := 4) (v := ?_) rfl (by kernel_rfl) (by kernel_rfl) (by kernel_rfl) (fun _ _ _ h => h) (Or.inl ⟨by rfl, ?_⟩) (by assumption) ?_
  rotate_left
  · (intro wq hSw; (try dsimp only at hSw); go_simp; try with_reducible rfl)
  try simp only [Act.put, List.getElem_toArray, List.getElem_cons_succ, List.getElem_cons_zero, List.setIfInBounds_toArray, List.set_cons_zero, List.set_cons_succ]
  refine wpAnyH_done (by kernel_rfl) ?_ _
  have hj6 : Kept [] w4 w6 := ((Kept.refl [] w4).drew.trans k1 (by simp)).trans k2 (by simp)
  have hk6 := hk4.trans hj6 (by simp)
  have hb6 := hb4.out.kept hj6 (by simp)
  obtain ⟨q0, q1⟩ := hb6.at
  go_wp2_with fail
  refine (hRv.out w6 hk6).mono ?_
  rintro e w7 ⟨rfl, hj7⟩
  have hk7 := hk6.trans hj7 (by simp)
  have hone := cellsV_one l
  have hr7 := hide (hR.out w7 hk7)
  have hb7 := hide (hb6.kept hj7 (by simp))
  clear hb6 q0 q1
  go_wp2_with (at_builtin; refine wpList_app ?_ rfl elCell rfl rfl (Own.nil w7 w0.heap.size 60 16) rfl hr7.out hone ?o1 ?o2; intro a8 c8 w8 ho8 hj8 hat8)
  case o1 => omega
  case o2 => exact hk7.size
  rw [Nat.zero_add, List.nil_append] at ho8
  have hk8 := hk7.trans hj8 (by simp [blk])
  have hb8 := hide (hb7.out.kept hj8 (by simp [blk]))
  try rw [Nat.zero_add]
  go_wp2_with fail
  refine (hOf.out a8 c8 w8 (hT.out w8 hk8) ho8.rd ho8.caps.1 ho8.caps.2).mono ?_
  rintro e w9 ⟨a9, n9, c9, rfl, ho9, _, _, hj9⟩
  have hk9 := hk8.trans hj9 (by simp)
  have hb9 := hide (hb8.out.kept hj9 (by simp))
  have ho89 := ho8.kept hj9 (by simp)
  have hs9 := hk9.size
  have hlt8 : ∀ g ∈ blk a8, w7.heap.size ≤ g ∧ g < w8.heap.size := fun g hg => ⟨(hat8 g hg).resolve_left (by simp [blk]), (ho8.ge g hg).2⟩
  have h79 := hj9.size
  have h3lt : w3.heap.size < w7.heap.size := by have := hb7.out.lt; omega
  go_wp2_with (refine wpList_store_lin rfl rfl rfl w9.heap.size rfl (LinIn.new w9 none 0 0 false) a9 n9 c9 s rfl ?_; intro w10 hb10 hj10)
  have hj10' : Kept [] w9 w10 := ((Kept.refl [] w9).alloc _).trans hj10 (by simp)
  have hk10 := hk9.trans hj10' (by simp)
  have hb710 := hb9.out.kept hj10' (by simp)
  refine (Stain_any a8 n c8 _ l w10 (ho89.kept hj10' (by simp)) (by omega)).mono ?_
  rintro e w11 ⟨rfl, hj11⟩
  have hk11 := hk10.trans hj11 (fun x hx => .inr (by have := hlt8 x hx; have := hk7.size; omega))
  have hb711 := hb710.kept hj11 (fun hm => by have := hlt8 _ hm; omega)
  have hb11 := hb10.kept hj11 (fun hm => by have := hlt8 _ hm; omega)
  have ho911 := (ho9.kept hj10' (by simp)).kept hj11 (fun g hg hm => by have := (ho9.ge g hg).1; have := hlt8 g hm; omega)
  have hn9 : n9 = n := by have h1 := ho911.rd.clen; have h2 := hl.out; have h3 : l.length = n9 := h1; omega
  have hr911 : Rd w11 a9 n 16 (cellsV l) := by rw [← hn9]; exact ho911.rd
  obtain ⟨u0, u1⟩ := hb711.at
  obtain ⟨v0, v1⟩ := hb11.at
  go_wp2_with fail
  refine (hIs.out a9 n c9 w11 hr911 (hR.out w11 hk11) (by omega)).mono ?_
  rintro e w12 ⟨rfl, hj12⟩
  have hk12 := hk11.trans hj12 (by simp)
  go_wp2_with fail
  refine (hK.out w12 hk12).mono ?_
  rintro e w13 ⟨rfl, hj13⟩
  go_wp2_with fail
  go_ret
  exact ⟨rfl, hk12.trans hj13 (by simp)⟩

set_option maxHeartbeats 2000000 in
theorem LineNew_ci (KN : Known6Is) (LV : LValidIs) (LN : LNewIs) (LO : LOfIs) (N : Nat) (hc : N ≤ 1000) (a : Option Addr) (n c : Nat) (l : List Cl) (s : Bool) (w : World) (ht : Tabs w) (hr : Rd w a n 16 (cellsV l)) (hn : n ≤ 40) (hnc : n ≤ c) (hcm : c ≤ maxLen) (hv : validL l = false) :
    Calls Tryd.prog 3 #[.int .i64 (N : Int), .slice a n c, .bool s] w fun e w' => e = .returned (.bool true) ∧ Kept [] w w' := by
  have hl := hr.clen
  have hl := hide hl
  have hT := hide (fun w1 (hk : Kept [] w w1) => ht.kept hk)
  have hR := hide (fun w1 (hk : Kept [] w w1) => hr.kept hk (by simp))
  have hK := hide (fun w1 hk => KN w1 (hT.out w1 hk))
  have hCo := hide (fun w1 => rColumns_any (N : Int) w1)
  have hVa := hide (fun w1 hk => LV a n c l s w1 (hT.out w1 hk) (hR.out w1 hk) (by omega))
  have hRv := hide (fun w1 hk => rValid6_any a n c s l w1 (hR.out w1 hk))
  rw [hv] at hVa hRv
  rw [decide_eq_true (by omega)] at hCo
  have hNw := hide (fun w1 => rNew_any N (by omega) w1)
  have hNa := hide (fun a2 n2 c2 w1 hr2 => news_ask LN (N : Int) a2 n2 c2 false (newL N) 0 true w1 hr2 (by rw [newR_ok N hc]; simp))
  have hOf := hide (fun w1 hk => of6_ask LO a n c l s none 0 0 false [] 2 true w1 (hT.out w1 hk) (hR.out w1 hk) (by omega) hnc hcm (Rd.nil _ _ _) (by rw [ofL_no hv]; simp))
  have hni : (n : Int) ≤ 40 := by omega
  clear KN LV LN LO ht hr hv
  go_enter Tryd.func3, Tryd.ntmps3
  go_wp2_with fail
  refine (hCo.out w).mono ?_
  rintro e w0 ⟨rfl, rfl⟩
  go_wp2_with fail
  refine (hNw.out w0).mono ?_
  rintro e w2 ⟨a2, n2, c2, rfl, ho2, _, _, hk2⟩
  go_wp2_with fail
  refine (hNa.out a2 n2 c2 w2 ho2.rd).mono ?_
  rintro e w3 ⟨rfl, hj3⟩
  have hk3 := hk2.trans hj3 (by simp)
  have hs3 := hk3.size
  go_wp2_with (refine wpList_store_lin rfl rfl rfl w3.heap.size rfl (LinIn.new w3 none 0 0 false) a n c s rfl ?_; intro w4 hb4 hj4)
  have hk4 : Kept [] w0 w4 := (hk3.trans ((Kept.refl [] w3).alloc _) (by simp)).trans hj4 (by simp; omega)
  have hb4 := hide hb4
  refine wp_region_held_drew (S := (fun w' => LinIn w' w3.heap.size a n c s)) (by kernel_rfl) ?_ (fun hHeld => ?_)
  · (try dsimp only); (first | exact hb4.out.kept (((Kept.refl [] w4).drew.trans k1 (by simp)).trans k2 (by simp)) (by simp) | exact hb4.out.kept ((Kept.refl [] w4).drew.trans k1 (by simp)) (by simp) | exact hb4.out.kept (Kept.refl [] w4).drew (by simp))
  refine wpAnyH_take (i := 0) (v := (.agg #[.slice a n c, .bool s])) rfl (by kernel_rfl) (by kernel_rfl) (by kernel_rfl) (fun _ _ _ h => h) (yieldsIf_load_mid (by rfl) 27 _ rfl w3.heap.size 0 rfl (linL a n c s) _ (fun _ h => h.range) Tryd.underlying27 rfl (by kernel_rfl)) (by assumption) ?_
  try simp only [Act.put, List.getElem_toArray, List.getElem_cons_zero, List.setIfInBounds_toArray, List.set_cons_zero, List.set_cons_succ]
  refine wpAnyH_take (i := 2) (v := (.agg #[.slice a n c, .bool s])) rfl (by kernel_rfl) (by kernel_rfl) (by kernel_rfl) (fun _ _ _ h => h) (yieldsIf_load_mid (by rfl) 27 _ rfl w3.heap.size 0 rfl (linL a n c s) _ (fun _ h => h.range) Tryd.underlying27 rfl (by kernel_rfl)) (by assumption) ?_
  try simp only [Act.put, List.getElem_toArray, List.getElem_cons_succ, List.getElem_cons_zero, List.setIfInBounds_toArray, List.set_cons_zero, List.set_cons_succ]
  refine wpAnyH_ready (rs := [1]) (by kernel_rfl) (by simp) ?_
  refine AllReadyH.cons rfl (fun K hK => ?_) AllReadyH.nil
  go_simp
  refine (hVa.out w4.drew (hk4.trans (Kept.refl [] w4).drew (by simp))).mono ?_; rintro e w5 ⟨rfl, k1⟩
  try go_wp2_with fail
  refine hK.out _ _ ?_ (fun hHeld => ?_)
  · (try dsimp only); (first | exact hb4.out.kept (((Kept.refl [] w4).drew.trans k1 (by simp)).trans k2 (by simp)) (by simp) | exact hb4.out.kept ((Kept.refl [] w4).drew.trans k1 (by simp)) (by simp) | exact hb4.out.kept (Kept.refl [] w4).drew (by simp))
  clear hK K
  try simp only [Act.put, List.getElem_toArray, List.getElem_cons_succ, List.getElem_cons_zero, List.setIfInBounds_toArray, List.set_cons_zero, List.set_cons_succ]
  refine wpAnyH_ready (rs := [3]) (by kernel_rfl) (by simp) ?_
  refine AllReadyH.cons rfl (fun K hK => ?_) AllReadyH.nil
  go_simp
  refine (hRv.out w5 ((hk4.trans (Kept.refl [] w4).drew (by simp)).trans k1 (by simp))).mono ?_; rintro e w6 ⟨rfl, k2⟩
  try go_wp2_with fail
  refine hK.out _ _ ?_ (fun hHeld => ?_)
  · (try dsimp only); (first | exact hb4.out.kept (((Kept.refl [] w4).drew.trans k1 (by simp)).trans k2 (by simp)) (by simp) | exact hb4.out.kept ((Kept.refl [] w4).drew.trans k1 (by simp)) (by simp) | exact hb4.out.kept (Kept.refl [] w4).drew (by simp))
  clear hK K
  try simp only [Act.put, List.getElem_toArray, List.getElem_cons_succ, List.getElem_cons_zero, List.setIfInBounds_toArray, List.set_cons_zero, List.set_cons_succ]
  refine wpAnyH_take (i := 4) (v := ?_) rfl (by kernel_rfl) (by kernel_rfl) (by kernel_rfl) (fun _ _ _ h => h) (Or.inl ⟨by rfl, ?_⟩) (by assumption) ?_
  rotate_left
  · (intro wq hSw; (try dsimp only at hSw); go_simp; try with_reducible rfl)
  try simp only [Act.put, List.getElem_toArray, List.getElem_cons_succ, List.getElem_cons_zero, List.setIfInBounds_toArray, List.set_cons_zero, List.set_cons_succ]
  refine wpAnyH_done (by kernel_rfl) ?_ _
  have hj6 : Kept [] w4 w6 := ((Kept.refl [] w4).drew.trans k1 (by simp)).trans k2 (by simp)
  have hk6 := hk4.trans hj6 (by simp)
  have hb6 := hb4.out.kept hj6 (by simp)
  obtain ⟨q0, q1⟩ := hb6.at
  go_wp2_with fail
  refine (hRv.out w6 hk6).mono ?_
  rintro e w7 ⟨rfl, hj7⟩
  have hk7 := hk6.trans hj7 (by simp)
  go_wp2_with fail
  refine (hOf.out w7 hk7).mono ?_
  rintro e w8 ⟨rfl, hj8⟩
  have hk8 := hk7.trans hj8 (by simp)
  go_wp2_with fail
  refine (hK.out w8 hk8).mono ?_
  rintro e w9 ⟨rfl, hj9⟩
  go_wp2_with fail
  go_ret
  exact ⟨rfl, hk8.trans hj9 (by simp)⟩

set_option maxHeartbeats 2000000 in
theorem LineNew_cv (KN : Known6Is) (LV : LValidIs) (LN : LNewIs) (LO : LOfIs) (N : Nat) (hc : N ≤ 1000) (a : Option Addr) (n c : Nat) (l : List Cl) (s : Bool) (w : World) (ht : Tabs w) (hr : Rd w a n 16 (cellsV l)) (hn : n ≤ 40) (hnc : n ≤ c) (hcm : c ≤ maxLen) (hv : validL l = true) :
    Calls Tryd.prog 3 #[.int .i64 (N : Int), .slice a n c, .bool s] w fun e w' => e = .returned (.bool true) ∧ Kept [] w w' := by
  have hl := hr.clen
  have hl := hide hl
  have hT := hide (fun w1 (hk : Kept [] w w1) => ht.kept hk)
  have hR := hide (fun w1 (hk : Kept [] w w1) => hr.kept hk (by simp))
  have hK := hide (fun w1 hk => KN w1 (hT.out w1 hk))
  have hCo := hide (fun w1 => rColumns_any (N : Int) w1)
  have hVa := hide (fun w1 hk => LV a n c l s w1 (hT.out w1 hk) (hR.out w1 hk) (by omega))
  have hRv := hide (fun w1 hk => rValid6_any a n c s l w1 (hR.out w1 hk))
  rw [hv] at hVa hRv
  rw [decide_eq_true (by omega)] at hCo
  have hNw := hide (fun w1 => rNew_any N (by omega) w1)
  have hNa := hide (fun a2 n2 c2 w1 hr2 => news_ask LN (N : Int) a2 n2 c2 false (newL N) 0 true w1 hr2 (by rw [newR_ok N hc]; simp))
  have hOf := hide (fun a1 c1 w1 ht1 hr1 h1 h2 => LO a1 n c1 l s w1 ht1 hr1 (by omega) h1 h2)
  rw [ofL_ok hv] at hOf
  have hIs := hide (fun a2 n2 c2 w1 hr2 hr3 hn2 => is_any a2 n2 c2 s l 0 a n c s l 0 w1 hr2 hr3 hn2)
  rw [show (decide (s = s ∧ l = l) && decide ((0 : Int) = 0)) = true by simp] at hIs
  have hni : (n : Int) ≤ 40 := by omega
  clear KN LV LN LO ht hr hv
  go_enter Tryd.func3, Tryd.ntmps3
  go_wp2_with fail
  refine (hCo.out w).mono ?_
  rintro e w0 ⟨rfl, rfl⟩
  go_wp2_with fail
  refine (hNw.out w0).mono ?_
  rintro e w2 ⟨a2, n2, c2, rfl, ho2, _, _, hk2⟩
  go_wp2_with fail
  refine (hNa.out a2 n2 c2 w2 ho2.rd).mono ?_
  rintro e w3 ⟨rfl, hj3⟩
  have hk3 := hk2.trans hj3 (by simp)
  have hs3 := hk3.size
  go_wp2_with (refine wpList_store_lin rfl rfl rfl w3.heap.size rfl (LinIn.new w3 none 0 0 false) a n c s rfl ?_; intro w4 hb4 hj4)
  have hk4 : Kept [] w0 w4 := (hk3.trans ((Kept.refl [] w3).alloc _) (by simp)).trans hj4 (by simp; omega)
  have hb4 := hide hb4
  refine wp_region_held_drew (S := (fun w' => LinIn w' w3.heap.size a n c s)) (by kernel_rfl) ?_ (fun hHeld => ?_)
  · (try dsimp only); (first | exact hb4.out.kept (((Kept.refl [] w4).drew.trans k1 (by simp)).trans k2 (by simp)) (by simp) | exact hb4.out.kept ((Kept.refl [] w4).drew.trans k1 (by simp)) (by simp) | exact hb4.out.kept (Kept.refl [] w4).drew (by simp))
  refine wpAnyH_take (i := 0) (v := (.agg #[.slice a n c, .bool s])) rfl (by kernel_rfl) (by kernel_rfl) (by kernel_rfl) (fun _ _ _ h => h) (yieldsIf_load_mid (by rfl) 27 _ rfl w3.heap.size 0 rfl (linL a n c s) _ (fun _ h => h.range) Tryd.underlying27 rfl (by kernel_rfl)) (by assumption) ?_
  try simp only [Act.put, List.getElem_toArray, List.getElem_cons_zero, List.setIfInBounds_toArray, List.set_cons_zero, List.set_cons_succ]
  refine wpAnyH_take (i := 2) (v := (.agg #[.slice a n c, .bool s])) rfl (by kernel_rfl) (by kernel_rfl) (by kernel_rfl) (fun _ _ _ h => h) (yieldsIf_load_mid (by rfl) 27 _ rfl w3.heap.size 0 rfl (linL a n c s) _ (fun _ h => h.range) Tryd.underlying27 rfl (by kernel_rfl)) (by assumption) ?_
  try simp only [Act.put, List.getElem_toArray, List.getElem_cons_succ, List.getElem_cons_zero, List.setIfInBounds_toArray, List.set_cons_zero, List.set_cons_succ]
  refine wpAnyH_ready (rs := [1]) (by kernel_rfl) (by simp) ?_
  refine AllReadyH.cons rfl (fun K hK => ?_) AllReadyH.nil
  go_simp
  refine (hVa.out w4.drew (hk4.trans (Kept.refl [] w4).drew (by simp))).mono ?_; rintro e w5 ⟨rfl, k1⟩
  try go_wp2_with fail
  refine hK.out _ _ ?_ (fun hHeld => ?_)
  · (try dsimp only); (first | exact hb4.out.kept (((Kept.refl [] w4).drew.trans k1 (by simp)).trans k2 (by simp)) (by simp) | exact hb4.out.kept ((Kept.refl [] w4).drew.trans k1 (by simp)) (by simp) | exact hb4.out.kept (Kept.refl [] w4).drew (by simp))
  clear hK K
  try simp only [Act.put, List.getElem_toArray, List.getElem_cons_succ, List.getElem_cons_zero, List.setIfInBounds_toArray, List.set_cons_zero, List.set_cons_succ]
  refine wpAnyH_ready (rs := [3]) (by kernel_rfl) (by simp) ?_
  refine AllReadyH.cons rfl (fun K hK => ?_) AllReadyH.nil
  go_simp
  refine (hRv.out w5 ((hk4.trans (Kept.refl [] w4).drew (by simp)).trans k1 (by simp))).mono ?_; rintro e w6 ⟨rfl, k2⟩
  try go_wp2_with fail
  refine hK.out _ _ ?_ (fun hHeld => ?_)
  · (try dsimp only); (first | exact hb4.out.kept (((Kept.refl [] w4).drew.trans k1 (by simp)).trans k2 (by simp)) (by simp) | exact hb4.out.kept ((Kept.refl [] w4).drew.trans k1 (by simp)) (by simp) | exact hb4.out.kept (Kept.refl [] w4).drew (by simp))
  clear hK K
  try simp only [Act.put, List.getElem_toArray, List.getElem_cons_succ, List.getElem_cons_zero, List.setIfInBounds_toArray, List.set_cons_zero, List.set_cons_succ]
  refine wpAnyH_take (i := 4) (v := ?_) rfl (by kernel_rfl) (by kernel_rfl) (by kernel_rfl) (fun _ _ _ h => h) (Or.inl ⟨by rfl, ?_⟩) (by assumption) ?_
  rotate_left
  · (intro wq hSw; (try dsimp only at hSw); go_simp; try with_reducible rfl)
  try simp only [Act.put, List.getElem_toArray, List.getElem_cons_succ, List.getElem_cons_zero, List.setIfInBounds_toArray, List.set_cons_zero, List.set_cons_succ]
  refine wpAnyH_done (by kernel_rfl) ?_ _
  have hj6 : Kept [] w4 w6 := ((Kept.refl [] w4).drew.trans k1 (by simp)).trans k2 (by simp)
  have hk6 := hk4.trans hj6 (by simp)
  have hb6 := hb4.out.kept hj6 (by simp)
  obtain ⟨q0, q1⟩ := hb6.at
  go_wp2_with fail
  refine (hRv.out w6 hk6).mono ?_
  rintro e w7 ⟨rfl, hj7⟩
  have hk7 := hk6.trans hj7 (by simp)
  have hone := cellsV_one l
  have hr7 := hide (hR.out w7 hk7)
  have hb7 := hide (hb6.kept hj7 (by simp))
  clear hb6 q0 q1
  go_wp2_with (at_builtin; refine wpList_app ?_ rfl elCell rfl rfl (Own.nil w7 w0.heap.size 60 16) rfl hr7.out hone ?o1 ?o2; intro a8 c8 w8 ho8 hj8 hat8)
  case o1 => omega
  case o2 => exact hk7.size
  rw [Nat.zero_add, List.nil_append] at ho8
  have hk8 := hk7.trans hj8 (by simp [blk])
  have hb8 := hide (hb7.out.kept hj8 (by simp [blk]))
  try rw [Nat.zero_add]
  go_wp2_with fail
  refine (hOf.out a8 c8 w8 (hT.out w8 hk8) ho8.rd ho8.caps.1 ho8.caps.2).mono ?_
  rintro e w9 ⟨a9, n9, c9, rfl, ho9, _, _, hj9⟩
  have hk9 := hk8.trans hj9 (by simp)
  have hb9 := hide (hb8.out.kept hj9 (by simp))
  have ho89 := ho8.kept hj9 (by simp)
  have hs9 := hk9.size
  have hlt8 : ∀ g ∈ blk a8, w7.heap.size ≤ g ∧ g < w8.heap.size := fun g hg => ⟨(hat8 g hg).resolve_left (by simp [blk]), (ho8.ge g hg).2⟩
  have h79 := hj9.size
  have h3lt : w3.heap.size < w7.heap.size := by have := hb7.out.lt; omega
  go_wp2_with (refine wpList_store_lin rfl rfl rfl w9.heap.size rfl (LinIn.new w9 none 0 0 false) a9 n9 c9 s rfl ?_; intro w10 hb10 hj10)
  have hj10' : Kept [] w9 w10 := ((Kept.refl [] w9).alloc _).trans hj10 (by simp)
  have hk10 := hk9.trans hj10' (by simp)
  have hb710 := hb9.out.kept hj10' (by simp)
  refine (Stain_any a8 n c8 _ l w10 (ho89.kept hj10' (by simp)) (by omega)).mono ?_
  rintro e w11 ⟨rfl, hj11⟩
  have hk11 := hk10.trans hj11 (fun x hx => .inr (by have := hlt8 x hx; have := hk7.size; omega))
  have hb711 := hb710.kept hj11 (fun hm => by have := hlt8 _ hm; omega)
  have hb11 := hb10.kept hj11 (fun hm => by have := hlt8 _ hm; omega)
  have ho911 := (ho9.kept hj10' (by simp)).kept hj11 (fun g hg hm => by have := (ho9.ge g hg).1; have := hlt8 g hm; omega)
  have hn9 : n9 = n := by have h1 := ho911.rd.clen; have h2 := hl.out; have h3 : l.length = n9 := h1; omega
  have hr911 : Rd w11 a9 n 16 (cellsV l) := by rw [← hn9]; exact ho911.rd
  obtain ⟨u0, u1⟩ := hb711.at
  obtain ⟨v0, v1⟩ := hb11.at
  go_wp2_with fail
  refine (hIs.out a9 n c9 w11 hr911 (hR.out w11 hk11) (by omega)).mono ?_
  rintro e w12 ⟨rfl, hj12⟩
  have hk12 := hk11.trans hj12 (by simp)
  go_wp2_with fail
  refine (hK.out w12 hk12).mono ?_
  rintro e w13 ⟨rfl, hj13⟩
  go_wp2_with fail
  go_ret
  exact ⟨rfl, hk12.trans hj13 (by simp)⟩

theorem LineNew_walk (KN : Known6Is) (LV : LValidIs) (LN : LNewIs) (LO : LOfIs) (k : Int) (a : Option Addr) (n c : Nat) (l : List Cl) (s : Bool) (w : World) (ht : Tabs w) (hr : Rd w a n 16 (cellsV l)) (hnc : n ≤ c) (hcm : c ≤ maxLen) :
    Calls Tryd.prog 3 #[.int .i64 k, .slice a n c, .bool s] w fun e w' => e = .returned (.bool true) ∧ Kept [] w w' := by
  by_cases hn : n ≤ 40
  · by_cases hc : 0 ≤ k ∧ k ≤ 1000
    · obtain ⟨N, rfl⟩ : ∃ N : Nat, k = N := ⟨k.toNat, by omega⟩
      cases hv : validL l with
      | true => exact LineNew_cv KN LV LN LO N (by omega) a n c l s w ht hr hn hnc hcm hv
      | false => exact LineNew_ci KN LV LN LO N (by omega) a n c l s w ht hr hn hnc hcm hv
    · cases hv : validL l with
      | true => exact LineNew_nv KN LV LN LO k hc a n c l s w ht hr hn hnc hcm hv
      | false => exact LineNew_ni KN LV LN LO k hc a n c l s w ht hr hn hnc hcm hv
  · have hni : (40 : Int) < (n : Int) := by omega
    have hK := hide (KN w ht)
    clear KN ht hr
    go_enter Tryd.func3, Tryd.ntmps3
    go_wp2_with fail
    refine hK.out.mono ?_
    rintro e w1 ⟨rfl, hk1⟩
    go_wp2_with fail
    go_ret
    exact ⟨rfl, hk1⟩
end Go.Proofs.YtkhdnaopdhnkaaaDoor
