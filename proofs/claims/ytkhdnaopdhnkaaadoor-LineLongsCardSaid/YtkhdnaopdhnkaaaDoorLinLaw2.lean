/- The walk of LineFits. -/
import Derived.Test.YtkhdnaopdhnkaaaDoorLinLaw1
namespace Go.Proofs.YtkhdnaopdhnkaaaDoor
open Go.RowKit
set_option linter.unusedVariables false
set_option maxRecDepth 100000

theorem trimE_ok {l : List Cl} {s : Bool} (h : validL l = true) : trimE l s = ((trimL l, s), 0) := by unfold trimE; rw [if_pos h]
theorem trimE_no {l : List Cl} {s : Bool} (h : validL l = false) : trimE l s = (([], false), 2) := by unfold trimE; rw [if_neg (by rw [h]; simp)]
theorem fitE_ok {l : List Cl} {s : Bool} {N : Nat} (h : validL l = true) (hN : N ≤ 1000) : fitE l s (N : Int) = ((fitL l N, s), 0) := by unfold fitE; rw [if_pos ⟨h, by omega, by omega⟩]; rfl
theorem fitE_no {l : List Cl} {s : Bool} {k : Int} (h : validL l = false) : fitE l s k = (([], false), 2) := by unfold fitE; rw [if_neg (by rw [h]; simp)]
theorem fitE_out {l : List Cl} {s : Bool} {k : Int} (h : ¬ (0 ≤ k ∧ k ≤ 1000)) : fitE l s k = (([], false), 2) := by unfold fitE; rw [if_neg (fun hh => h hh.2)]
theorem trimL_len (l : List Cl) : (trimL l).length ≤ l.length := by unfold trimL; rw [List.length_take]; omega
theorem fitL_len (l : List Cl) (N : Nat) (h : l.length ≤ 40) (hN : N ≤ 1000) : (fitL l N).length ≤ 1000 := by simp only [fitL, List.length_append, fixI_len', List.length_take, List.length_replicate]; omega

theorem is_same (s : Bool) (L : List Cl) (a2 : Option Addr) (n2 c2 : Nat) (a3 : Option Addr) (n3 c3 : Nat) (w : World) (h2 : Rd w a2 n2 16 (cellsV L)) (h3 : Rd w a3 n3 16 (cellsV L)) (hn : n2 ≤ 1000000) :
    Calls Tryd.prog 18 #[.agg #[.slice a2 n2 c2, .bool s], .int .i64 0, .agg #[.slice a3 n3 c3, .bool s], .int .i64 0] w fun e w' => e = .returned (.bool true) ∧ Kept [] w w' := by
  have := is_any a2 n2 c2 s L 0 a3 n3 c3 s L 0 w h2 h3 hn
  rwa [show (decide (s = s ∧ L = L) && decide ((0 : Int) = 0)) = true by simp] at this
theorem same_same (s : Bool) (L : List Cl) (a2 : Option Addr) (n2 c2 : Nat) (a3 : Option Addr) (n3 c3 : Nat) (w : World) (h2 : Rd w a2 n2 16 (cellsV L)) (h3 : Rd w a3 n3 16 (cellsV L)) (hn : n2 ≤ 1000000) :
    Calls Tryd.prog 25 #[.agg #[.slice a2 n2 c2, .bool s], .agg #[.slice a3 n3 c3, .bool s]] w fun e w' => e = .returned (.bool true) ∧ Kept [] w w' := by
  have := rSame6_any a2 n2 c2 s L a3 n3 c3 s L w h2 h3 hn
  rwa [show decide (s = s ∧ L = L) = true by simp] at this

set_option maxHeartbeats 2000000 in
theorem LineFits_i (KN : Known6Is) (LT : LTrimIs) (LF : LFitIs) (k : Int) (a : Option Addr) (n c : Nat) (l : List Cl) (s : Bool) (w : World) (ht : Tabs w) (hr : Rd w a n 16 (cellsV l)) (hn : n ≤ 40) (hnc : n ≤ c) (hcm : c ≤ maxLen) (hv : validL l = false) :
    Calls Tryd.prog 5 #[.agg #[.slice a n c, .bool s], .int .i64 k] w fun e w' => e = .returned (.bool true) ∧ Kept [] w w' := by
  obtain ⟨W0, hW0⟩ : ∃ z : World, z = w.alloc (.cells #[.slice a n c, .bool s] 27) := ⟨_, rfl⟩
  have hk0 : Kept [] w W0 := by rw [hW0]; exact (Kept.refl [] w).alloc _
  have hb0 : Hid (LinIn W0 w.heap.size a n c s) := hide (by rw [hW0]; exact LinIn.new w a n c s)
  have hs0 : Hid (W0.heap.size = w.heap.size + 1) := hide (by rw [hW0]; simp)
  have hl := hr.clen
  have hl := hide hl
  have hT := hide (fun w1 (hk : Kept [] W0 w1) => ht.kept (hk0.trans hk (by simp)))
  have hR := hide (fun w1 (hk : Kept [] W0 w1) => hr.kept (hk0.trans hk (by simp)) (by simp))
  have hK := hide (fun w1 hk => KN w1 (hT.out w1 hk))
  have hSm := hide (small_any a n c s W0)
  have hCp := hide (fun w1 hk => rCopy_any a n c s l w1 (hR.out w1 hk) (by omega))
  have hRv := hide (fun w1 hk => rValid6_any a n c s l w1 (hR.out w1 hk))
  rw [hv] at hRv
  rw [decide_eq_true hn] at hSm
  have hTa := hide (fun a5 c5 w1 hk hr5 h1 h2 => trims_ask LT a5 n c5 l s none 0 0 false [] 2 true w1 (hT.out w1 hk) hr5 (by omega) h1 h2 (Rd.nil _ _ _) (by rw [trimE_no hv]; simp))
  have hFa := hide (fun a5 c5 w1 hk hr5 h1 h2 => fits_ask LF a5 n c5 l s k none 0 0 false [] 2 true w1 (hT.out w1 hk) hr5 (by omega) h1 h2 (Rd.nil _ _ _) (by rw [fitE_no hv]; simp))
  have hni : (n : Int) ≤ 40 := by omega
  clear KN LT LF ht hr
  go_enter Tryd.func5, Tryd.ntmps5
  go_upto_region 1 with fail
  rw [← hW0]
  clear hW0
  obtain ⟨q0, q1⟩ := hb0.out.at
  go_wp2_with fail
  refine hSm.out.mono ?_
  rintro e w1 ⟨rfl, hk1⟩
  obtain ⟨r0, r1⟩ := (hb0.out.kept hk1 (by simp)).at
  go_wp2_with fail
  refine (hCp.out w1 hk1).mono ?_
  rintro e w2 ⟨a5, n5, c5, rfl, ho5, h51, h52, hj2⟩
  obtain rfl : n = n5 := by have h1 := ho5.rd.clen; have h2 := hl.out; have h3 : l.length = n5 := h1; omega
  have hk2 := hk1.trans hj2 (by simp)
  have hs2 := hk2.size
  clear q0 q1 r0 r1
  go_wp2_with (refine wpList_store_lin rfl rfl rfl w2.heap.size rfl (LinIn.new w2 none 0 0 false) a5 n c5 s rfl ?_; intro w3 hb3 hj3; have hk3 := (hk2.trans ((Kept.refl [] w2).alloc (.cells #[.slice none 0 0, .bool false] 27)) (by simp)).trans hj3 (by simp; omega); obtain ⟨q0, q1⟩ := (hb0.out.kept hk3 (by simp)).at)
  have ho53 := ho5.kept (((Kept.refl [] w2).alloc (.cells #[.slice none 0 0, .bool false] 27)).trans hj3 (by simp)) (by simp)
  refine (hRv.out w3 hk3).mono ?_
  rintro e w4 ⟨rfl, hj4⟩
  have hk4 := hk3.trans hj4 (by simp)
  have hb4 := hb3.kept hj4 (by simp)
  have ho54 := hide (ho53.kept hj4 (by simp))
  obtain ⟨r0, r1⟩ := hb4.at
  go_wp2_with fail
  refine (hTa.out a5 c5 w4 hk4 ho54.out.rd h51 h52).mono ?_
  rintro e w5 ⟨rfl, hj5⟩
  have hk5 := hk4.trans hj5 (by simp)
  clear r0 r1
  obtain ⟨r0, r1⟩ := (hb4.kept hj5 (by simp)).at
  go_wp2_with fail
  refine (hFa.out a5 c5 w5 hk5 (ho54.out.kept hj5 (by simp)).rd h51 h52).mono ?_
  rintro e w6 ⟨rfl, hj6⟩
  have hk6 := hk5.trans hj6 (by simp)
  go_wp2_with fail
  refine (hK.out w6 hk6).mono ?_
  rintro e w7 ⟨rfl, hj7⟩
  go_wp2_with fail
  go_ret
  exact ⟨rfl, hk0.trans (hk6.trans hj7 (by simp)) (by simp)⟩

set_option maxHeartbeats 2000000 in
theorem LineFits_vn (KN : Known6Is) (LT : LTrimIs) (LF : LFitIs) (k : Int) (hc : ¬ (0 ≤ k ∧ k ≤ 1000)) (a : Option Addr) (n c : Nat) (l : List Cl) (s : Bool) (w : World) (ht : Tabs w) (hr : Rd w a n 16 (cellsV l)) (hn : n ≤ 40) (hnc : n ≤ c) (hcm : c ≤ maxLen) (hv : validL l = true) :
    Calls Tryd.prog 5 #[.agg #[.slice a n c, .bool s], .int .i64 k] w fun e w' => e = .returned (.bool true) ∧ Kept [] w w' := by
  obtain ⟨W0, hW0⟩ : ∃ z : World, z = w.alloc (.cells #[.slice a n c, .bool s] 27) := ⟨_, rfl⟩
  have hk0 : Kept [] w W0 := by rw [hW0]; exact (Kept.refl [] w).alloc _
  have hb0 : Hid (LinIn W0 w.heap.size a n c s) := hide (by rw [hW0]; exact LinIn.new w a n c s)
  have hs0 : Hid (W0.heap.size = w.heap.size + 1) := hide (by rw [hW0]; simp)
  have hl := hr.clen
  have hl := hide hl
  have hT := hide (fun w1 (hk : Kept [] W0 w1) => ht.kept (hk0.trans hk (by simp)))
  have hR := hide (fun w1 (hk : Kept [] W0 w1) => hr.kept (hk0.trans hk (by simp)) (by simp))
  have hK := hide (fun w1 hk => KN w1 (hT.out w1 hk))
  have hSm := hide (small_any a n c s W0)
  have hCp := hide (fun w1 hk => rCopy_any a n c s l w1 (hR.out w1 hk) (by omega))
  have hRv := hide (fun w1 hk => rValid6_any a n c s l w1 (hR.out w1 hk))
  rw [hv] at hRv
  rw [decide_eq_true hn] at hSm
  have hTr := hide (fun a5 c5 w1 hk hr5 h1 h2 => LT a5 n c5 l s w1 (hT.out w1 hk) hr5 (by omega) h1 h2)
  rw [trimE_ok hv] at hTr
  have hRt := hide (fun w1 hk => rTrim_any a n c s l w1 (hR.out w1 hk) (by omega) hnc hcm)
  have hCo := hide (fun w1 => rColumns_any k w1)
  rw [decide_eq_false hc] at hCo
  have hFa := hide (fun a5 c5 w1 hk hr5 h1 h2 => fits_ask LF a5 n c5 l s k none 0 0 false [] 2 true w1 (hT.out w1 hk) hr5 (by omega) h1 h2 (Rd.nil _ _ _) (by rw [fitE_out hc]; simp))
  have hni : (n : Int) ≤ 40 := by omega
  clear KN LT LF ht hr
  go_enter Tryd.func5, Tryd.ntmps5
  go_upto_region 1 with fail
  rw [← hW0]
  clear hW0
  obtain ⟨q0, q1⟩ := hb0.out.at
  go_wp2_with fail
  refine hSm.out.mono ?_
  rintro e w1 ⟨rfl, hk1⟩
  obtain ⟨r0, r1⟩ := (hb0.out.kept hk1 (by simp)).at
  go_wp2_with fail
  refine (hCp.out w1 hk1).mono ?_
  rintro e w2 ⟨a5, n5, c5, rfl, ho5, h51, h52, hj2⟩
  obtain rfl : n = n5 := by have h1 := ho5.rd.clen; have h2 := hl.out; have h3 : l.length = n5 := h1; omega
  have hk2 := hk1.trans hj2 (by simp)
  have hs2 := hk2.size
  clear q0 q1 r0 r1
  go_wp2_with (refine wpList_store_lin rfl rfl rfl w2.heap.size rfl (LinIn.new w2 none 0 0 false) a5 n c5 s rfl ?_; intro w3 hb3 hj3; have hk3 := (hk2.trans ((Kept.refl [] w2).alloc (.cells #[.slice none 0 0, .bool false] 27)) (by simp)).trans hj3 (by simp; omega); obtain ⟨q0, q1⟩ := (hb0.out.kept hk3 (by simp)).at)
  have ho53 := ho5.kept (((Kept.refl [] w2).alloc (.cells #[.slice none 0 0, .bool false] 27)).trans hj3 (by simp)) (by simp)
  refine (hRv.out w3 hk3).mono ?_
  rintro e w4 ⟨rfl, hj4⟩
  have hk4 := hk3.trans hj4 (by simp)
  have hb4 := hb3.kept hj4 (by simp)
  have ho54 := hide (ho53.kept hj4 (by simp))
  obtain ⟨r0, r1⟩ := hb4.at
  go_wp2_with fail
  refine (hTr.out a5 c5 w4 hk4 ho54.out.rd h51 h52).mono ?_
  rintro e w5 ⟨a6, n6, c6, rfl, ho6, _, _, hj5⟩
  have hn6 : n6 ≤ 40 := by have h1 := ho6.rd.clen; have h2 : (trimL l).length = n6 := h1; have h3 := trimL_len l; have h4 := hl.out; omega
  have hk5 := hk4.trans hj5 (by simp)
  have hs5 := hk5.size
  have hs24 : w2.heap.size < w4.heap.size := hb4.lt
  have hs45 := hj5.size
  have hlt5 : ∀ g ∈ blk a5, g < w2.heap.size := fun g hg => (ho5.ge g hg).2
  clear r0 r1 q0 q1
  go_wp2_with (refine wpList_store_lin rfl rfl rfl w5.heap.size rfl (LinIn.new w5 none 0 0 false) a6 n6 c6 s rfl ?_; intro w6 hb6 hj6)
  have hj56 : Kept [] w5 w6 := ((Kept.refl [] w5).alloc _).trans hj6 (by simp)
  have hk6 := hk5.trans hj56 (by simp)
  have ho66 := ho6.kept hj56 (by simp)
  have hbA := hb0.out.kept hk6 (by simp)
  have hbX := hb6
  have hrX := ho66.rd
  refine wp_region_held_drew (S := (fun w' => LinIn w' w.heap.size a n c s ∧ LinIn w' w5.heap.size a6 n6 c6 s)) (by kernel_rfl) ?_ (fun hHeld => ?_)
  · (try dsimp only); (first | exact ⟨hbA.kept (((Kept.refl [] w6).drew.trans k1 (by simp)).trans k2 (by simp)) (by simp), hbX.kept (((Kept.refl [] w6).drew.trans k1 (by simp)).trans k2 (by simp)) (by simp)⟩ | exact ⟨hbA.kept ((Kept.refl [] w6).drew.trans k1 (by simp)) (by simp), hbX.kept ((Kept.refl [] w6).drew.trans k1 (by simp)) (by simp)⟩ | exact ⟨hbA.kept (Kept.refl [] w6).drew (by simp), hbX.kept (Kept.refl [] w6).drew (by simp)⟩)
  refine wpAnyH_take (i := 0) (v := (.agg #[.slice a6 n6 c6, .bool s])) rfl (by kernel_rfl) (by kernel_rfl) (by kernel_rfl) (fun _ _ _ h => h) (yieldsIf_load_mid (by rfl) 27 _ rfl w5.heap.size 0 rfl (linL a6 n6 c6 s) _ (fun _ h => h.2.range) Tryd.underlying27 rfl (by kernel_rfl)) (by assumption) ?_
  try simp only [Act.put, List.getElem_toArray, List.getElem_cons_zero, List.setIfInBounds_toArray, List.set_cons_zero, List.set_cons_succ]
  refine wpAnyH_take (i := 1) (v := ?_) rfl (by kernel_rfl) (by kernel_rfl) (by kernel_rfl) (fun _ _ _ h => h) (Or.inl ⟨by rfl, ?_⟩) (by assumption) ?_
  rotate_left
  · (intro wq hSw; (try dsimp only at hSw); go_simp; try with_reducible rfl)
  try simp only [Act.put, List.getElem_toArray, List.getElem_cons_succ, List.getElem_cons_zero, List.setIfInBounds_toArray, List.set_cons_zero, List.set_cons_succ]
  refine wpAnyH_take (i := 2) (v := (.agg #[.slice a n c, .bool s])) rfl (by kernel_rfl) (by kernel_rfl) (by kernel_rfl) (fun _ _ _ h => h) (yieldsIf_load_mid (by rfl) 27 _ rfl w.heap.size 0 rfl (linL a n c s) _ (fun _ h => h.1.range) Tryd.underlying27 rfl (by kernel_rfl)) (by assumption) ?_
  try simp only [Act.put, List.getElem_toArray, List.getElem_cons_succ, List.getElem_cons_zero, List.setIfInBounds_toArray, List.set_cons_zero, List.set_cons_succ]
  refine wpAnyH_ready (rs := [3]) (by kernel_rfl) (by simp) ?_
  refine AllReadyH.cons rfl (fun K hK => ?_) AllReadyH.nil
  go_simp
  refine (hRt.out w6.drew (hk6.trans (Kept.refl [] w6).drew (by simp))).mono ?_; rintro e wA ⟨aT, nT, cT, rfl, hoT, _, _, k1⟩
  try go_wp2_with fail
  refine hK.out _ _ ?_ (fun hHeld => ?_)
  · (try dsimp only); (first | exact ⟨hbA.kept (((Kept.refl [] w6).drew.trans k1 (by simp)).trans k2 (by simp)) (by simp), hbX.kept (((Kept.refl [] w6).drew.trans k1 (by simp)).trans k2 (by simp)) (by simp)⟩ | exact ⟨hbA.kept ((Kept.refl [] w6).drew.trans k1 (by simp)) (by simp), hbX.kept ((Kept.refl [] w6).drew.trans k1 (by simp)) (by simp)⟩ | exact ⟨hbA.kept (Kept.refl [] w6).drew (by simp), hbX.kept (Kept.refl [] w6).drew (by simp)⟩)
  clear hK K
  try simp only [Act.put, List.getElem_toArray, List.getElem_cons_succ, List.getElem_cons_zero, List.setIfInBounds_toArray, List.set_cons_zero, List.set_cons_succ]
  refine wpAnyH_ready (rs := [4]) (by kernel_rfl) (by simp) ?_
  refine AllReadyH.cons rfl (fun K hK => ?_) AllReadyH.nil
  go_simp
  refine (is_same s _ a6 n6 c6 aT nT cT wA (hrX.kept ((Kept.refl [] w6).drew.trans k1 (by simp)) (by simp)) hoT.rd (by omega)).mono ?_; rintro e wB ⟨rfl, k2⟩
  try go_wp2_with fail
  refine hK.out _ _ ?_ (fun hHeld => ?_)
  · (try dsimp only); (first | exact ⟨hbA.kept (((Kept.refl [] w6).drew.trans k1 (by simp)).trans k2 (by simp)) (by simp), hbX.kept (((Kept.refl [] w6).drew.trans k1 (by simp)).trans k2 (by simp)) (by simp)⟩ | exact ⟨hbA.kept ((Kept.refl [] w6).drew.trans k1 (by simp)) (by simp), hbX.kept ((Kept.refl [] w6).drew.trans k1 (by simp)) (by simp)⟩ | exact ⟨hbA.kept (Kept.refl [] w6).drew (by simp), hbX.kept (Kept.refl [] w6).drew (by simp)⟩)
  clear hK K
  try simp only [Act.put, List.getElem_toArray, List.getElem_cons_succ, List.getElem_cons_zero, List.setIfInBounds_toArray, List.set_cons_zero, List.set_cons_succ]
  refine wpAnyH_take (i := 5) (v := ?_) rfl (by kernel_rfl) (by kernel_rfl) (by kernel_rfl) (fun _ _ _ h => h) (Or.inl ⟨by rfl, ?_⟩) (by assumption) ?_
  rotate_left
  · (intro wq hSw; (try dsimp only at hSw); go_simp; try with_reducible rfl)
  try simp only [Act.put, List.getElem_toArray, List.getElem_cons_succ, List.getElem_cons_zero, List.setIfInBounds_toArray, List.set_cons_zero, List.set_cons_succ]
  refine wpAnyH_done (by kernel_rfl) ?_ _
  have hj7 : Kept [] w6 wB := ((Kept.refl [] w6).drew.trans k1 (by simp)).trans k2 (by simp)
  have hk7 := hk6.trans hj7 (by simp)
  have hb7 := hb6.kept hj7 (by simp)
  obtain ⟨t0, t1⟩ := hb7.at
  go_wp2_with fail
  refine (Stain_any a6 n6 c6 _ _ wB (ho66.kept hj7 (by simp)) (by omega)).mono ?_
  rintro e w8 ⟨rfl, hj8⟩
  have hk48 : Kept [] w4 w8 := ((hj5.trans hj56 (by simp)).trans hj7 (by simp)).trans hj8 (fun x hx => .inr (ho6.ge x hx).1)
  have hk8 := hk4.trans hk48 (by simp)
  have hb8 := hb4.kept hk48 (by simp)
  have ho58 := ho54.out.kept hk48 (by simp)
  have hbx8 := hb7.kept hj8 (fun hm => by have := (ho6.ge _ hm).2; omega)
  have hs58 := hbx8.lt
  clear t0 t1
  go_wp2_with fail
  refine (hCo.out w8).mono ?_
  rintro e w9 ⟨rfl, hw9⟩
  subst w9
  obtain ⟨t0, t1⟩ := hb8.at
  go_wp2_with fail
  refine (hFa.out a5 c5 w8 hk8 ho58.rd h51 h52).mono ?_
  rintro e w9 ⟨rfl, hj9⟩
  have hk9 := hk8.trans hj9 (by simp)
  go_wp2_with fail
  refine (hK.out w9 hk9).mono ?_
  rintro e w10 ⟨rfl, hj10⟩
  go_wp2_with fail
  go_ret
  exact ⟨rfl, hk0.trans (hk9.trans hj10 (by simp)) (by simp)⟩

set_option maxHeartbeats 2000000 in
theorem LineFits_vc (KN : Known6Is) (LT : LTrimIs) (LF : LFitIs) (N : Nat) (hc : N ≤ 1000) (a : Option Addr) (n c : Nat) (l : List Cl) (s : Bool) (w : World) (ht : Tabs w) (hr : Rd w a n 16 (cellsV l)) (hn : n ≤ 40) (hnc : n ≤ c) (hcm : c ≤ maxLen) (hv : validL l = true) :
    Calls Tryd.prog 5 #[.agg #[.slice a n c, .bool s], .int .i64 (N : Int)] w fun e w' => e = .returned (.bool true) ∧ Kept [] w w' := by
  obtain ⟨W0, hW0⟩ : ∃ z : World, z = w.alloc (.cells #[.slice a n c, .bool s] 27) := ⟨_, rfl⟩
  have hk0 : Kept [] w W0 := by rw [hW0]; exact (Kept.refl [] w).alloc _
  have hb0 : Hid (LinIn W0 w.heap.size a n c s) := hide (by rw [hW0]; exact LinIn.new w a n c s)
  have hs0 : Hid (W0.heap.size = w.heap.size + 1) := hide (by rw [hW0]; simp)
  have hl := hr.clen
  have hl := hide hl
  have hT := hide (fun w1 (hk : Kept [] W0 w1) => ht.kept (hk0.trans hk (by simp)))
  have hR := hide (fun w1 (hk : Kept [] W0 w1) => hr.kept (hk0.trans hk (by simp)) (by simp))
  have hK := hide (fun w1 hk => KN w1 (hT.out w1 hk))
  have hSm := hide (small_any a n c s W0)
  have hCp := hide (fun w1 hk => rCopy_any a n c s l w1 (hR.out w1 hk) (by omega))
  have hRv := hide (fun w1 hk => rValid6_any a n c s l w1 (hR.out w1 hk))
  rw [hv] at hRv
  rw [decide_eq_true hn] at hSm
  have hTr := hide (fun a5 c5 w1 hk hr5 h1 h2 => LT a5 n c5 l s w1 (hT.out w1 hk) hr5 (by omega) h1 h2)
  rw [trimE_ok hv] at hTr
  have hRt := hide (fun w1 hk => rTrim_any a n c s l w1 (hR.out w1 hk) (by omega) hnc hcm)
  have hCo := hide (fun w1 => rColumns_any (N : Int) w1)
  rw [decide_eq_true (by omega)] at hCo
  have hfl := hide (fitL_len l N (by have := hl.out; omega) hc)
  have hFi := hide (fun a5 c5 w1 hk hr5 h1 h2 => LF a5 n c5 l s (N : Int) w1 (hT.out w1 hk) hr5 (by omega) h1 h2)
  rw [fitE_ok hv hc] at hFi
  have hRf := hide (fun w1 hk => rFit_any a n c s l N (by omega) w1 (hR.out w1 hk) (by omega) hnc hcm)
  have hni : (n : Int) ≤ 40 := by omega
  clear KN LT LF ht hr
  go_enter Tryd.func5, Tryd.ntmps5
  go_upto_region 1 with fail
  rw [← hW0]
  clear hW0
  obtain ⟨q0, q1⟩ := hb0.out.at
  go_wp2_with fail
  refine hSm.out.mono ?_
  rintro e w1 ⟨rfl, hk1⟩
  obtain ⟨r0, r1⟩ := (hb0.out.kept hk1 (by simp)).at
  go_wp2_with fail
  refine (hCp.out w1 hk1).mono ?_
  rintro e w2 ⟨a5, n5, c5, rfl, ho5, h51, h52, hj2⟩
  obtain rfl : n = n5 := by have h1 := ho5.rd.clen; have h2 := hl.out; have h3 : l.length = n5 := h1; omega
  have hk2 := hk1.trans hj2 (by simp)
  have hs2 := hk2.size
  clear q0 q1 r0 r1
  go_wp2_with (refine wpList_store_lin rfl rfl rfl w2.heap.size rfl (LinIn.new w2 none 0 0 false) a5 n c5 s rfl ?_; intro w3 hb3 hj3; have hk3 := (hk2.trans ((Kept.refl [] w2).alloc (.cells #[.slice none 0 0, .bool false] 27)) (by simp)).trans hj3 (by simp; omega); obtain ⟨q0, q1⟩ := (hb0.out.kept hk3 (by simp)).at)
  have ho53 := ho5.kept (((Kept.refl [] w2).alloc (.cells #[.slice none 0 0, .bool false] 27)).trans hj3 (by simp)) (by simp)
  refine (hRv.out w3 hk3).mono ?_
  rintro e w4 ⟨rfl, hj4⟩
  have hk4 := hk3.trans hj4 (by simp)
  have hb4 := hb3.kept hj4 (by simp)
  have ho54 := hide (ho53.kept hj4 (by simp))
  obtain ⟨r0, r1⟩ := hb4.at
  go_wp2_with fail
  refine (hTr.out a5 c5 w4 hk4 ho54.out.rd h51 h52).mono ?_
  rintro e w5 ⟨a6, n6, c6, rfl, ho6, _, _, hj5⟩
  have hn6 : n6 ≤ 40 := by have h1 := ho6.rd.clen; have h2 : (trimL l).length = n6 := h1; have h3 := trimL_len l; have h4 := hl.out; omega
  have hk5 := hk4.trans hj5 (by simp)
  have hs5 := hk5.size
  have hs24 : w2.heap.size < w4.heap.size := hb4.lt
  have hs45 := hj5.size
  have hlt5 : ∀ g ∈ blk a5, g < w2.heap.size := fun g hg => (ho5.ge g hg).2
  clear r0 r1 q0 q1
  go_wp2_with (refine wpList_store_lin rfl rfl rfl w5.heap.size rfl (LinIn.new w5 none 0 0 false) a6 n6 c6 s rfl ?_; intro w6 hb6 hj6)
  have hj56 : Kept [] w5 w6 := ((Kept.refl [] w5).alloc _).trans hj6 (by simp)
  have hk6 := hk5.trans hj56 (by simp)
  have ho66 := ho6.kept hj56 (by simp)
  have hbA := hb0.out.kept hk6 (by simp)
  have hbX := hb6
  have hrX := ho66.rd
  refine wp_region_held_drew (S := (fun w' => LinIn w' w.heap.size a n c s ∧ LinIn w' w5.heap.size a6 n6 c6 s)) (by kernel_rfl) ?_ (fun hHeld => ?_)
  · (try dsimp only); (first | exact ⟨hbA.kept (((Kept.refl [] w6).drew.trans k1 (by simp)).trans k2 (by simp)) (by simp), hbX.kept (((Kept.refl [] w6).drew.trans k1 (by simp)).trans k2 (by simp)) (by simp)⟩ | exact ⟨hbA.kept ((Kept.refl [] w6).drew.trans k1 (by simp)) (by simp), hbX.kept ((Kept.refl [] w6).drew.trans k1 (by simp)) (by simp)⟩ | exact ⟨hbA.kept (Kept.refl [] w6).drew (by simp), hbX.kept (Kept.refl [] w6).drew (by simp)⟩)
  refine wpAnyH_take (i := 0) (v := (.agg #[.slice a6 n6 c6, .bool s])) rfl (by kernel_rfl) (by kernel_rfl) (by kernel_rfl) (fun _ _ _ h => h) (yieldsIf_load_mid (by rfl) 27 _ rfl w5.heap.size 0 rfl (linL a6 n6 c6 s) _ (fun _ h => h.2.range) Tryd.underlying27 rfl (by kernel_rfl)) (by assumption) ?_
  try simp only [Act.put, List.getElem_toArray, List.getElem_cons_zero, List.setIfInBounds_toArray, List.set_cons_zero, List.set_cons_succ]
  refine wpAnyH_take (i := 1) (v := ?_) rfl (by kernel_rfl) (by kernel_rfl) (by kernel_rfl) (fun _ _ _ h => h) (Or.inl ⟨by rfl, ?_⟩) (by assumption) ?_
  rotate_left
  · (intro wq hSw; (try dsimp only at hSw); go_simp; try with_reducible rfl)
  try simp only [Act.put, List.getElem_toArray, List.getElem_cons_succ, List.getElem_cons_zero, List.setIfInBounds_toArray, List.set_cons_zero, List.set_cons_succ]
  refine wpAnyH_take (i := 2) (v := (.agg #[.slice a n c, .bool s])) rfl (by kernel_rfl) (by kernel_rfl) (by kernel_rfl) (fun _ _ _ h => h) (yieldsIf_load_mid (by rfl) 27 _ rfl w.heap.size 0 rfl (linL a n c s) _ (fun _ h => h.1.range) Tryd.underlying27 rfl (by kernel_rfl)) (by assumption) ?_
  try simp only [Act.put, List.getElem_toArray, List.getElem_cons_succ, List.getElem_cons_zero, List.setIfInBounds_toArray, List.set_cons_zero, List.set_cons_succ]
  refine wpAnyH_ready (rs := [3]) (by kernel_rfl) (by simp) ?_
  refine AllReadyH.cons rfl (fun K hK => ?_) AllReadyH.nil
  go_simp
  refine (hRt.out w6.drew (hk6.trans (Kept.refl [] w6).drew (by simp))).mono ?_; rintro e wA ⟨aT, nT, cT, rfl, hoT, _, _, k1⟩
  try go_wp2_with fail
  refine hK.out _ _ ?_ (fun hHeld => ?_)
  · (try dsimp only); (first | exact ⟨hbA.kept (((Kept.refl [] w6).drew.trans k1 (by simp)).trans k2 (by simp)) (by simp), hbX.kept (((Kept.refl [] w6).drew.trans k1 (by simp)).trans k2 (by simp)) (by simp)⟩ | exact ⟨hbA.kept ((Kept.refl [] w6).drew.trans k1 (by simp)) (by simp), hbX.kept ((Kept.refl [] w6).drew.trans k1 (by simp)) (by simp)⟩ | exact ⟨hbA.kept (Kept.refl [] w6).drew (by simp), hbX.kept (Kept.refl [] w6).drew (by simp)⟩)
  clear hK K
  try simp only [Act.put, List.getElem_toArray, List.getElem_cons_succ, List.getElem_cons_zero, List.setIfInBounds_toArray, List.set_cons_zero, List.set_cons_succ]
  refine wpAnyH_ready (rs := [4]) (by kernel_rfl) (by simp) ?_
  refine AllReadyH.cons rfl (fun K hK => ?_) AllReadyH.nil
  go_simp
  refine (is_same s _ a6 n6 c6 aT nT cT wA (hrX.kept ((Kept.refl [] w6).drew.trans k1 (by simp)) (by simp)) hoT.rd (by omega)).mono ?_; rintro e wB ⟨rfl, k2⟩
  try go_wp2_with fail
  refine hK.out _ _ ?_ (fun hHeld => ?_)
  · (try dsimp only); (first | exact ⟨hbA.kept (((Kept.refl [] w6).drew.trans k1 (by simp)).trans k2 (by simp)) (by simp), hbX.kept (((Kept.refl [] w6).drew.trans k1 (by simp)).trans k2 (by simp)) (by simp)⟩ | exact ⟨hbA.kept ((Kept.refl [] w6).drew.trans k1 (by simp)) (by simp), hbX.kept ((Kept.refl [] w6).drew.trans k1 (by simp)) (by simp)⟩ | exact ⟨hbA.kept (Kept.refl [] w6).drew (by simp), hbX.kept (Kept.refl [] w6).drew (by simp)⟩)
  clear hK K
  try simp only [Act.put, List.getElem_toArray, List.getElem_cons_succ, List.getElem_cons_zero, List.setIfInBounds_toArray, List.set_cons_zero, List.set_cons_succ]
  refine wpAnyH_take (i := 5) (v := ?_) rfl (by kernel_rfl) (by kernel_rfl) (by kernel_rfl) (fun _ _ _ h => h) (Or.inl ⟨by rfl, ?_⟩) (by assumption) ?_
  rotate_left
  · (intro wq hSw; (try dsimp only at hSw); go_simp; try with_reducible rfl)
  try simp only [Act.put, List.getElem_toArray, List.getElem_cons_succ, List.getElem_cons_zero, List.setIfInBounds_toArray, List.set_cons_zero, List.set_cons_succ]
  refine wpAnyH_done (by kernel_rfl) ?_ _
  have hj7 : Kept [] w6 wB := ((Kept.refl [] w6).drew.trans k1 (by simp)).trans k2 (by simp)
  have hk7 := hk6.trans hj7 (by simp)
  have hb7 := hb6.kept hj7 (by simp)
  obtain ⟨t0, t1⟩ := hb7.at
  go_wp2_with fail
  refine (Stain_any a6 n6 c6 _ _ wB (ho66.kept hj7 (by simp)) (by omega)).mono ?_
  rintro e w8 ⟨rfl, hj8⟩
  have hk48 : Kept [] w4 w8 := ((hj5.trans hj56 (by simp)).trans hj7 (by simp)).trans hj8 (fun x hx => .inr (ho6.ge x hx).1)
  have hk8 := hk4.trans hk48 (by simp)
  have hb8 := hb4.kept hk48 (by simp)
  have ho58 := ho54.out.kept hk48 (by simp)
  have hbx8 := hb7.kept hj8 (fun hm => by have := (ho6.ge _ hm).2; omega)
  have hs58 := hbx8.lt
  clear t0 t1
  go_wp2_with fail
  refine (hCo.out w8).mono ?_
  rintro e w9 ⟨rfl, hw9⟩
  subst w9
  obtain ⟨t0, t1⟩ := hb8.at
  go_wp2_with fail
  refine (hFi.out a5 c5 w8 hk8 ho58.rd h51 h52).mono ?_
  rintro e w9 ⟨a9, n9, c9, rfl, ho9, _, _, hj9⟩
  have hn9 : n9 ≤ 1000 := by have h1 := ho9.rd.clen; have h2 : (fitL l N).length = n9 := h1; have h3 := hfl.out; omega
  have hge9 : ∀ g ∈ blk a9, w8.heap.size ≤ g := fun g hg => (ho9.ge g hg).1
  have hk9 := hk8.trans hj9 (by simp)
  have hbx9 := hbx8.kept hj9 (by simp)
  clear t0 t1
  go_wp2_with (refine wpList_store_lin rfl rfl rfl w5.heap.size rfl hbx9 a9 n9 c9 s rfl ?_; intro w10 hb10 hj10)
  have hk10 := hk9.trans hj10 (by simp; omega)
  have ho910 := ho9.kept hj10 (fun g hg hm => by have := hge9 g hg; simp at hm; omega)
  have hb810 := (hb8.kept hj9 (by simp)).kept hj10 (by simp; omega)
  have ho510 := (ho58.kept hj9 (by simp)).kept hj10 (fun g hg hm => by have := hlt5 g hg; simp at hm; omega)
  have hbA := hb0.out.kept hk10 (by simp)
  have hbX := hb10
  have hrX := ho910.rd
  refine wp_region_held_drew (S := (fun w' => LinIn w' w.heap.size a n c s ∧ LinIn w' w5.heap.size a9 n9 c9 s)) (by kernel_rfl) ?_ (fun hHeld => ?_)
  · (try dsimp only); (first | exact ⟨hbA.kept (((Kept.refl [] w10).drew.trans k1 (by simp)).trans k2 (by simp)) (by simp), hbX.kept (((Kept.refl [] w10).drew.trans k1 (by simp)).trans k2 (by simp)) (by simp)⟩ | exact ⟨hbA.kept ((Kept.refl [] w10).drew.trans k1 (by simp)) (by simp), hbX.kept ((Kept.refl [] w10).drew.trans k1 (by simp)) (by simp)⟩ | exact ⟨hbA.kept (Kept.refl [] w10).drew (by simp), hbX.kept (Kept.refl [] w10).drew (by simp)⟩)
  refine wpAnyH_take (i := 0) (v := (.agg #[.slice a9 n9 c9, .bool s])) rfl (by kernel_rfl) (by kernel_rfl) (by kernel_rfl) (fun _ _ _ h => h) (yieldsIf_load_mid (by rfl) 27 _ rfl w5.heap.size 0 rfl (linL a9 n9 c9 s) _ (fun _ h => h.2.range) Tryd.underlying27 rfl (by kernel_rfl)) (by assumption) ?_
  try simp only [Act.put, List.getElem_toArray, List.getElem_cons_zero, List.setIfInBounds_toArray, List.set_cons_zero, List.set_cons_succ]
  refine wpAnyH_take (i := 1) (v := ?_) rfl (by kernel_rfl) (by kernel_rfl) (by kernel_rfl) (fun _ _ _ h => h) (Or.inl ⟨by rfl, ?_⟩) (by assumption) ?_
  rotate_left
  · (intro wq hSw; (try dsimp only at hSw); go_simp; try with_reducible rfl)
  try simp only [Act.put, List.getElem_toArray, List.getElem_cons_succ, List.getElem_cons_zero, List.setIfInBounds_toArray, List.set_cons_zero, List.set_cons_succ]
  refine wpAnyH_take (i := 2) (v := (.agg #[.slice a n c, .bool s])) rfl (by kernel_rfl) (by kernel_rfl) (by kernel_rfl) (fun _ _ _ h => h) (yieldsIf_load_mid (by rfl) 27 _ rfl w.heap.size 0 rfl (linL a n c s) _ (fun _ h => h.1.range) Tryd.underlying27 rfl (by kernel_rfl)) (by assumption) ?_
  try simp only [Act.put, List.getElem_toArray, List.getElem_cons_succ, List.getElem_cons_zero, List.setIfInBounds_toArray, List.set_cons_zero, List.set_cons_succ]
  refine wpAnyH_take (i := 3) (v := ?_) rfl (by kernel_rfl) (by kernel_rfl) (by kernel_rfl) (fun _ _ _ h => h) (Or.inl ⟨by rfl, ?_⟩) (by assumption) ?_
  rotate_left
  · (intro wq hSw; (try dsimp only at hSw); go_simp; try with_reducible rfl)
  try simp only [Act.put, List.getElem_toArray, List.getElem_cons_succ, List.getElem_cons_zero, List.setIfInBounds_toArray, List.set_cons_zero, List.set_cons_succ]
  refine wpAnyH_ready (rs := [4]) (by kernel_rfl) (by simp) ?_
  refine AllReadyH.cons rfl (fun K hK => ?_) AllReadyH.nil
  go_simp
  refine (hRf.out w10.drew (hk10.trans (Kept.refl [] w10).drew (by simp))).mono ?_; rintro e wA ⟨aT, nT, cT, rfl, hoT, _, _, k1⟩
  try go_wp2_with fail
  refine hK.out _ _ ?_ (fun hHeld => ?_)
  · (try dsimp only); (first | exact ⟨hbA.kept (((Kept.refl [] w10).drew.trans k1 (by simp)).trans k2 (by simp)) (by simp), hbX.kept (((Kept.refl [] w10).drew.trans k1 (by simp)).trans k2 (by simp)) (by simp)⟩ | exact ⟨hbA.kept ((Kept.refl [] w10).drew.trans k1 (by simp)) (by simp), hbX.kept ((Kept.refl [] w10).drew.trans k1 (by simp)) (by simp)⟩ | exact ⟨hbA.kept (Kept.refl [] w10).drew (by simp), hbX.kept (Kept.refl [] w10).drew (by simp)⟩)
  clear hK K
  try simp only [Act.put, List.getElem_toArray, List.getElem_cons_succ, List.getElem_cons_zero, List.setIfInBounds_toArray, List.set_cons_zero, List.set_cons_succ]
  refine wpAnyH_ready (rs := [5]) (by kernel_rfl) (by simp) ?_
  refine AllReadyH.cons rfl (fun K hK => ?_) AllReadyH.nil
  go_simp
  refine (is_same s _ a9 n9 c9 aT nT cT wA (hrX.kept ((Kept.refl [] w10).drew.trans k1 (by simp)) (by simp)) hoT.rd (by omega)).mono ?_; rintro e wB ⟨rfl, k2⟩
  try go_wp2_with fail
  refine hK.out _ _ ?_ (fun hHeld => ?_)
  · (try dsimp only); (first | exact ⟨hbA.kept (((Kept.refl [] w10).drew.trans k1 (by simp)).trans k2 (by simp)) (by simp), hbX.kept (((Kept.refl [] w10).drew.trans k1 (by simp)).trans k2 (by simp)) (by simp)⟩ | exact ⟨hbA.kept ((Kept.refl [] w10).drew.trans k1 (by simp)) (by simp), hbX.kept ((Kept.refl [] w10).drew.trans k1 (by simp)) (by simp)⟩ | exact ⟨hbA.kept (Kept.refl [] w10).drew (by simp), hbX.kept (Kept.refl [] w10).drew (by simp)⟩)
  clear hK K
  try simp only [Act.put, List.getElem_toArray, List.getElem_cons_succ, List.getElem_cons_zero, List.setIfInBounds_toArray, List.set_cons_zero, List.set_cons_succ]
  refine wpAnyH_take (i := 6) (v := ?_) rfl (by kernel_rfl) (by kernel_rfl) (by kernel_rfl) (fun _ _ _ h => h) (Or.inl ⟨by rfl, ?_⟩) (by assumption) ?_
  rotate_left
  · (intro wq hSw; (try dsimp only at hSw); go_simp; try with_reducible rfl)
  try simp only [Act.put, List.getElem_toArray, List.getElem_cons_succ, List.getElem_cons_zero, List.setIfInBounds_toArray, List.set_cons_zero, List.set_cons_succ]
  refine wpAnyH_done (by kernel_rfl) ?_ _
  have hj11 : Kept [] w10 wB := ((Kept.refl [] w10).drew.trans k1 (by simp)).trans k2 (by simp)
  have hk11 := hk10.trans hj11 (by simp)
  obtain ⟨t0, t1⟩ := (hb10.kept hj11 (by simp)).at
  go_wp2_with fail
  refine (Stain_any a9 n9 c9 _ _ wB (ho910.kept hj11 (by simp)) (by omega)).mono ?_
  rintro e w12 ⟨rfl, hj12⟩
  have hs8 := hk8.size
  have hk12 := hk11.trans hj12 (fun x hx => .inr (by have := hge9 x hx; omega))
  have hb812 := (hb810.kept hj11 (by simp)).kept hj12 (fun hm => by have := hge9 _ hm; omega)
  have ho512 := (ho510.kept hj11 (by simp)).kept hj12 (fun g hg hm => by have := hlt5 g hg; have := hge9 g hm; omega)
  obtain ⟨u0, u1⟩ := hb812.at
  obtain ⟨v0, v1⟩ := (hb0.out.kept hk12 (by simp)).at
  clear t0 t1
  go_wp2_with fail
  refine (same_same s l a5 n c5 a n c w12 ho512.rd (hR.out w12 hk12) (by omega)).mono ?_
  rintro e w13 ⟨rfl, hj13⟩
  have hk13 := hk12.trans hj13 (by simp)
  go_wp2_with fail
  refine (hK.out w13 hk13).mono ?_
  rintro e w14 ⟨rfl, hj14⟩
  go_wp2_with fail
  go_ret
  exact ⟨rfl, hk0.trans (hk13.trans hj14 (by simp)) (by simp)⟩

theorem LineFits_walk (KN : Known6Is) (LT : LTrimIs) (LF : LFitIs) (k : Int) (a : Option Addr) (n c : Nat) (l : List Cl) (s : Bool) (w : World) (ht : Tabs w) (hr : Rd w a n 16 (cellsV l)) (hnc : n ≤ c) (hcm : c ≤ maxLen) :
    Calls Tryd.prog 5 #[.agg #[.slice a n c, .bool s], .int .i64 k] w fun e w' => e = .returned (.bool true) ∧ Kept [] w w' := by
  by_cases hn : n ≤ 40
  · cases hv : validL l with
    | false => exact LineFits_i KN LT LF k a n c l s w ht hr hn hnc hcm hv
    | true =>
      by_cases hc : 0 ≤ k ∧ k ≤ 1000
      · obtain ⟨N, rfl⟩ : ∃ N : Nat, k = N := ⟨k.toNat, by omega⟩
        exact LineFits_vc KN LT LF N (by omega) a n c l s w ht hr hn hnc hcm hv
      · exact LineFits_vn KN LT LF k hc a n c l s w ht hr hn hnc hcm hv
  · have hk0 : Kept [] w (w.alloc (.cells #[.slice a n c, .bool s] 27)) := (Kept.refl [] w).alloc _
    have hSm := hide (small_any a n c s (w.alloc (.cells #[.slice a n c, .bool s] 27)))
    rw [decide_eq_false hn] at hSm
    have hK := hide (fun w1 (hk : Kept [] w w1) => KN w1 (ht.kept hk))
    clear KN ht hr
    go_enter Tryd.func5, Tryd.ntmps5
    go_wp2_with fail
    refine hSm.out.mono ?_
    rintro e w1 ⟨rfl, hj1⟩
    have hk1 := hk0.trans hj1 (by simp)
    go_wp2_with fail
    refine (hK.out w1 hk1).mono ?_
    rintro e w2 ⟨rfl, hj2⟩
    go_wp2_with fail
    go_ret
    exact ⟨rfl, hk1.trans hj2 (by simp)⟩
end Go.Proofs.YtkhdnaopdhnkaaaDoor
