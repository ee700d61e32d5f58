/- Layer 8: the law's helper looks: a ring looks like the reference's. Layer 8: a call of the law, few, what stands at each call. Layer 8: the law's helper does: Push. Layer 8: the law's helper does: Set. Layer 8: the law's helper does: Limit. Layer 8: the law's helper does: Pop. Layer 8: the law's helper does: Clear. Layer 8: the law's helper does: Copy. -/
import Derived.Test.YtnkddhmhjnhgcaaGreatDoorRgRef7
import Derived.Test.YtnkddhmhjnhgcaaGreatDoorRnAll
namespace Go.Proofs.YtnkddhmhjnhgcaaGreatDoor
open Go.RowKit
set_option linter.unusedVariables false
set_option maxRecDepth 100000

section
variable {w : World} {b : Nat} {r : Rg} {B : List Nat}
theorem RN.box (h : RN w b r B) : ∃ a n c, RbIn w b r.limit r.places r.first r.next a n c ∧ n = r.ps.length ∧ rgOk r :=
  (show RP (fun _ => True) w b r from ⟨B, h, fun _ _ => trivial⟩).box
theorem RN.first (h : RN w b r B) : Calls Tryz.prog 17 #[.pointer (some ⟨b, 0, none⟩)] w fun e w' => e = .returned (.int .i64 (r.first : Nat)) ∧ Kept [] w w' := by
  obtain ⟨a, n, c, hb, _, _⟩ := h.box
  exact (First8_any _ _ _ _ _ _ _ _ w (.inr ⟨b, rfl, hb⟩)).mono fun e w' h' => ⟨by rw [h'.1], h'.2⟩
theorem RN.nexts (h : RN w b r B) : Calls Tryz.prog 18 #[.pointer (some ⟨b, 0, none⟩)] w fun e w' => e = .returned (.int .i64 (r.next : Nat)) ∧ Kept [] w w' := by
  obtain ⟨a, n, c, hb, _, _⟩ := h.box
  exact (Next8_any _ _ _ _ _ _ _ _ w (.inr ⟨b, rfl, hb⟩)).mono fun e w' h' => ⟨by rw [h'.1], h'.2⟩
theorem RN.most (h : RN w b r B) : Calls Tryz.prog 35 #[.pointer (some ⟨b, 0, none⟩)] w fun e w' => e = .returned (.int .i64 (r.limit : Nat)) ∧ Kept [] w w' := by
  obtain ⟨a, n, c, hb, _, _⟩ := h.box
  exact (Most8_any _ _ _ _ _ _ _ _ w (.inr ⟨b, rfl, hb⟩)).mono fun e w' h' => ⟨by rw [h'.1], h'.2⟩
theorem RN.pages (h : RN w b r B) : Calls Tryz.prog 16 #[.pointer (some ⟨b, 0, none⟩)] w fun e w' => e = .returned (.int .i64 (r.ps.length : Nat)) ∧ Kept [] w w' := by
  obtain ⟨a, n, c, hb, hn, _⟩ := h.box
  exact (Pages8_any _ _ _ _ _ _ _ _ w (.inr ⟨b, rfl, hb⟩)).mono fun e w' h' => ⟨by rw [h'.1, hn], h'.2⟩
theorem RN.lens (h : RN w b r B) : Calls Tryz.prog 23 #[.pointer (some ⟨b, 0, none⟩)] w fun e w' => e = .returned (.int .i64 (r.ls.length : Nat)) ∧ Kept [] w w' := by
  obtain ⟨a, n, c, hb, hn, hok⟩ := h.box
  have h1 := hok.le
  have h2 := hok.l2
  exact (Len8_any _ _ _ _ _ _ _ _ w (.inr ⟨b, rfl, hb⟩) _ (by rw [show ((r.next : Nat) : Int) - (r.first : Nat) = (r.ls.length : Nat) from by unfold Rg.next; omega, IntKind.wrap_i64]; omega)).mono fun e w' h' => h'
end
set_option maxHeartbeats 20000000 in
theorem looks8_any (b : Nat) (r : Rg) (B : List Nat) (a : Option Addr) (n c : Nat) (us : List LnA) (ap : Option Addr) (np cp : Nat) (w : World) (hp : RN w b r B) (hx : r.next ≤ 1000000000) (hls : r.ls.length ≤ 1000000) (hr : LnsR w a n us r.ls) (hnp : r.ps.length = np) :
    Calls Tryz.prog 9 #[.pointer (some ⟨b, 0, none⟩), .agg #[.int .i64 (r.limit : Nat), .int .i64 (r.places : Nat), .int .i64 (r.first : Nat), .slice a n c, .slice ap np cp]] w fun e w' => e = .returned (.bool true) ∧ Kept [] w w' := by
  obtain ⟨W0, hW0⟩ : ∃ z : World, z = w.alloc (.cells #[.int .i64 (r.limit : Nat), .int .i64 (r.places : Nat), .int .i64 (r.first : Nat), .slice a n c, .slice ap np cp] 33) := ⟨_, rfl⟩
  have hk0 : Kept [] w W0 := by rw [hW0]; exact (Kept.refl [] w).alloc _
  have hb0 : Hid (RgIn W0 w.heap.size (r.limit : Nat) (r.places : Nat) (r.first : Nat) a n c ap np cp) := hide (by rw [hW0]; exact RgIn.new w _ _ _ a n c ap np cp)
  have hok := hp.ok
  have hl := hr.len
  have hnx : r.next = r.first + n := by unfold Rg.next; rw [hl]
  have hll := hok.le
  have hl2 := hok.l2
  have hrg : rangeG r (r.first : Int) ((r.first + n : Nat) : Int) = (r.ls, 0) := by
    unfold rangeG
    rw [if_neg (by omega), if_neg (by omega)]
    simp only [Int.toNat_natCast]
    rw [List.take_of_length_le (by omega), Nat.sub_self, List.drop_zero]
  have hP := hide (fun w1 (hk : Kept [] W0 w1) => hp.kept (hk0.trans hk (by simp)) (by simp) : ∀ w1, Kept [] W0 w1 → RN w1 b r B)
  have hR := hide (fun w1 (hk : Kept [] W0 w1) => hr.kept (hk0.trans hk (by simp)) (by simp) (by simp))
  have hA := fun w1 hk => (hP.out w1 hk).first
  have hB := fun w1 hk => (hP.out w1 hk).nexts
  have hC := fun w1 hk => (hP.out w1 hk).lens
  have hD := fun w1 hk => (hP.out w1 hk).most
  have hE := fun w1 hk => (hP.out w1 hk).pages
  have hG := fun w1 hk => (hP.out w1 hk).range hx (r.first : Int) ((r.first + n : Nat) : Int)
  have hH := fun w1 hk => ranges8_any b r B (r.first : Int) ((r.first + n : Nat) : Int) 0 a n c us r.ls true w1 (hP.out w1 hk) hx (by omega) (hR.out w1 hk) (by rw [hrg]; simp)
  have hN := hide (fun w1 => rNext8_any (r.limit : Nat) (r.places : Nat) r.first a n c ap np cp w1 (by omega))
  have hbd := hide (fun (x : Ln) (hx : x ∈ r.ls) => by have := valid_len (hok.val x hx); omega : ∀ x ∈ r.ls, x.l.length ≤ 1000000)
  unfold Range8Ret at hG
  rw [hrg] at hG
  rw [hnx] at hB
  rw [hl] at hC
  rw [hnp] at hE
  replace hA := hide hA
  replace hB := hide hB
  replace hC := hide hC
  replace hD := hide hD
  replace hE := hide hE
  replace hG := hide hG
  replace hH := hide hH
  have hvl := hide hr.vlen
  have hn9 := hide (show n ≤ 1000000 by omega)
  have hl := hide hl
  clear hp hr hok hnx hls hll hl2 hrg hx hnp
  generalize hZ : r.first + n = z at *
  have hdec : decide (r.ls = r.ls) = true := by simp
  replace hZ := hide hZ
  generalize r.first = f at *
  generalize r.limit = m at *
  generalize r.places = p at *
  generalize r.ls = ls at *
  have e1 : ((f : Int) != (f : Int)) = false := by simp
  have e2 : ((z : Int) != (z : Int)) = false := by simp
  have e3 : ((n : Int) != (n : Int)) = false := by simp
  have e4 : ((m : Int) != (m : Int)) = false := by simp
  have e5 : ((np : Int) != (np : Int)) = false := by simp
  have hF : ∀ {w' : World}, Kept [] W0 w' → w'.cell? ⟨w.heap.size, 0, none⟩ = some (.int .i64 (m : Nat)) ∧ w'.cell? ⟨w.heap.size, 1, none⟩ = some (.int .i64 (p : Nat)) ∧ w'.cell? ⟨w.heap.size, 2, none⟩ = some (.int .i64 (f : Nat)) ∧ w'.cell? ⟨w.heap.size, 3, none⟩ = some (.slice a n c) ∧ w'.cell? ⟨w.heap.size, 4, none⟩ = some (.slice ap np cp) := fun hk => (hb0.out.kept hk (by simp)).at
  go_enter Tryz.func9, Tryz.ntmps9
  go_upto_region 1 with fail
  rw [← hW0]
  clear hW0
  refine wp_region_held_drew (S := (fun w' => w'.cell? ⟨w.heap.size, 0, none⟩ = some (.int .i64 (m : Nat)) ∧ w'.cell? ⟨w.heap.size, 1, none⟩ = some (.int .i64 (p : Nat)) ∧ w'.cell? ⟨w.heap.size, 2, none⟩ = some (.int .i64 (f : Nat)) ∧ w'.cell? ⟨w.heap.size, 3, none⟩ = some (.slice a n c) ∧ w'.cell? ⟨w.heap.size, 4, none⟩ = some (.slice ap np cp))) (by kernel_rfl) ?_ (fun hHeld => ?_)
  · (try dsimp only); (first | exact hF k6 | exact hF k5 | exact hF k4 | exact hF k3 | exact hF k2 | exact hF k1 | exact hF (Kept.refl [] W0).drew)
  refine wpAnyH_take (i := 0) (v := ?_) rfl (by kernel_rfl) (by kernel_rfl) (by kernel_rfl) (fun _ _ _ h => h) (Or.inl ⟨by rfl, ?_⟩) (by assumption) ?_
  rotate_left
  · (intro wq hSw; (try dsimp only at hSw); go_simp; try with_reducible rfl)
  try simp only [Act.put, List.getElem_toArray, List.getElem_cons_zero, List.setIfInBounds_toArray, List.set_cons_zero, List.set_cons_succ]
  refine wpAnyH_take (i := 2) (v := ?_) rfl (by kernel_rfl) (by kernel_rfl) (by kernel_rfl) (fun _ _ _ h => h) (Or.inl ⟨by rfl, ?_⟩) (by assumption) ?_
  rotate_left
  · (intro wq hSw; (try dsimp only at hSw); go_simp; try with_reducible rfl)
  try simp only [Act.put, List.getElem_toArray, List.getElem_cons_succ, List.getElem_cons_zero, List.setIfInBounds_toArray, List.set_cons_zero, List.set_cons_succ]
  refine wpAnyH_take (i := 3) (v := ?_) rfl (by kernel_rfl) (by kernel_rfl) (by kernel_rfl) (fun _ _ _ h => h) (Or.inl ⟨by rfl, ?_⟩) (by assumption) ?_
  rotate_left
  · (intro wq hSw; (try dsimp only at hSw); go_simp; try with_reducible rfl)
  try simp only [Act.put, List.getElem_toArray, List.getElem_cons_succ, List.getElem_cons_zero, List.setIfInBounds_toArray, List.set_cons_zero, List.set_cons_succ]
  refine wpAnyH_ready (rs := [1]) (by kernel_rfl) (by simp) ?_
  refine AllReadyH.cons rfl (fun K hK => ?_) AllReadyH.nil
  go_simp
  refine (hA.out _ (Kept.refl [] W0).drew).mono ?_; rintro e w1 ⟨rfl, i1⟩; have k1 : Kept [] W0 w1 := (Kept.refl [] W0).drew.trans i1 (by simp)
  try go_wp2_with fail
  refine hK.out _ _ ?_ (fun hHeld => ?_)
  · (try dsimp only); (first | exact hF k6 | exact hF k5 | exact hF k4 | exact hF k3 | exact hF k2 | exact hF k1 | exact hF (Kept.refl [] W0).drew)
  clear hK K
  try simp only [Act.put, List.getElem_toArray, List.getElem_cons_succ, List.getElem_cons_zero, List.setIfInBounds_toArray, List.set_cons_zero, List.set_cons_succ]
  refine wpAnyH_take (i := 4) (v := ?_) rfl (by kernel_rfl) (by kernel_rfl) (by kernel_rfl) (fun _ _ _ h => h) (Or.inl ⟨by rfl, ?_⟩) (by assumption) ?_
  rotate_left
  · (intro wq hSw; (try dsimp only at hSw); go_simp; try with_reducible rfl)
  try simp only [Act.put, List.getElem_toArray, List.getElem_cons_succ, List.getElem_cons_zero, List.setIfInBounds_toArray, List.set_cons_zero, List.set_cons_succ]
  refine wpAnyH_take (i := 5) (v := ?_) rfl (by kernel_rfl) (by kernel_rfl) (by kernel_rfl) (fun _ _ _ h => h) (Or.inl ⟨by rfl, ?_⟩) (by assumption) ?_
  rotate_left
  · (intro wq hSw; (try dsimp only at hSw); go_simp; try with_reducible rfl)
  try simp only [Act.put, List.getElem_toArray, List.getElem_cons_succ, List.getElem_cons_zero, List.setIfInBounds_toArray, List.set_cons_zero, List.set_cons_succ]
  refine wpAnyH_take (i := 6) (v := ?_) rfl (by kernel_rfl) (by kernel_rfl) (by kernel_rfl) (fun _ _ _ h => h) (Or.inl ⟨by rfl, ?_⟩) (by assumption) ?_
  rotate_left
  · (intro wq hSw; (try dsimp only at hSw); go_simp; try with_reducible rfl)
  try simp only [Act.put, List.getElem_toArray, List.getElem_cons_succ, List.getElem_cons_zero, List.setIfInBounds_toArray, List.set_cons_zero, List.set_cons_succ]
  refine wpAnyH_take (i := 8) (v := ?_) rfl (by kernel_rfl) (by kernel_rfl) (by kernel_rfl) (fun _ _ _ h => h) (Or.inl ⟨by rfl, ?_⟩) (by assumption) ?_
  rotate_left
  · (intro wq hSw; (try dsimp only at hSw); go_simp; try with_reducible rfl)
  try simp only [Act.put, List.getElem_toArray, List.getElem_cons_succ, List.getElem_cons_zero, List.setIfInBounds_toArray, List.set_cons_zero, List.set_cons_succ]
  refine wpAnyH_ready (rs := [7]) (by kernel_rfl) (by simp) ?_
  refine AllReadyH.cons rfl (fun K hK => ?_) AllReadyH.nil
  go_simp
  refine (hB.out w1 k1).mono ?_; rintro e w2 ⟨rfl, i2⟩; have k2 : Kept [] W0 w2 := k1.trans i2 (by simp)
  try go_wp2_with fail
  refine hK.out _ _ ?_ (fun hHeld => ?_)
  · (try dsimp only); (first | exact hF k6 | exact hF k5 | exact hF k4 | exact hF k3 | exact hF k2 | exact hF k1 | exact hF (Kept.refl [] W0).drew)
  clear hK K
  try simp only [Act.put, List.getElem_toArray, List.getElem_cons_succ, List.getElem_cons_zero, List.setIfInBounds_toArray, List.set_cons_zero, List.set_cons_succ]
  refine wpAnyH_ready (rs := [9]) (by kernel_rfl) (by simp) ?_
  refine AllReadyH.cons rfl (fun K hK => ?_) AllReadyH.nil
  go_simp
  refine (hN.out w2).mono ?_; rintro e w3 ⟨rfl, i3⟩; have k3 : Kept [] W0 w3 := k2.trans i3 (by simp)
  try go_wp2_with fail
  refine hK.out _ _ ?_ (fun hHeld => ?_)
  · (try dsimp only); (first | exact hF k6 | exact hF k5 | exact hF k4 | exact hF k3 | exact hF k2 | exact hF k1 | exact hF (Kept.refl [] W0).drew)
  clear hK K
  try simp only [Act.put, List.getElem_toArray, List.getElem_cons_succ, List.getElem_cons_zero, List.setIfInBounds_toArray, List.set_cons_zero, List.set_cons_succ]
  refine wpAnyH_take (i := 10) (v := ?_) rfl (by kernel_rfl) (by kernel_rfl) (by kernel_rfl) (fun _ _ _ h => h) (Or.inl ⟨by rfl, ?_⟩) (by assumption) ?_
  rotate_left
  · (intro wq hSw; (try dsimp only at hSw); go_simp; try with_reducible rfl)
  try simp only [Act.put, List.getElem_toArray, List.getElem_cons_succ, List.getElem_cons_zero, List.setIfInBounds_toArray, List.set_cons_zero, List.set_cons_succ]
  refine wpAnyH_take (i := 11) (v := ?_) rfl (by kernel_rfl) (by kernel_rfl) (by kernel_rfl) (fun _ _ _ h => h) (Or.inl ⟨by rfl, ?_⟩) (by assumption) ?_
  rotate_left
  · (intro wq hSw; (try dsimp only at hSw); go_simp; try with_reducible rfl)
  try simp only [Act.put, List.getElem_toArray, List.getElem_cons_succ, List.getElem_cons_zero, List.setIfInBounds_toArray, List.set_cons_zero, List.set_cons_succ]
  refine wpAnyH_take (i := 12) (v := ?_) rfl (by kernel_rfl) (by kernel_rfl) (by kernel_rfl) (fun _ _ _ h => h) (Or.inl ⟨by rfl, ?_⟩) (by assumption) ?_
  rotate_left
  · (intro wq hSw; (try dsimp only at hSw); go_simp; try with_reducible rfl)
  try simp only [Act.put, List.getElem_toArray, List.getElem_cons_succ, List.getElem_cons_zero, List.setIfInBounds_toArray, List.set_cons_zero, List.set_cons_succ]
  refine wpAnyH_take (i := 13) (v := ?_) rfl (by kernel_rfl) (by kernel_rfl) (by kernel_rfl) (fun _ _ _ h => h) (Or.inl ⟨by rfl, ?_⟩) (by assumption) ?_
  rotate_left
  · (intro wq hSw; (try dsimp only at hSw); go_simp; try with_reducible rfl)
  try simp only [Act.put, List.getElem_toArray, List.getElem_cons_succ, List.getElem_cons_zero, List.setIfInBounds_toArray, List.set_cons_zero, List.set_cons_succ]
  refine wpAnyH_take (i := 15) (v := ?_) rfl (by kernel_rfl) (by kernel_rfl) (by kernel_rfl) (fun _ _ _ h => h) (Or.inl ⟨by rfl, ?_⟩) (by assumption) ?_
  rotate_left
  · (intro wq hSw; (try dsimp only at hSw); go_simp; try with_reducible rfl)
  try simp only [Act.put, List.getElem_toArray, List.getElem_cons_succ, List.getElem_cons_zero, List.setIfInBounds_toArray, List.set_cons_zero, List.set_cons_succ]
  refine wpAnyH_take (i := 16) (v := ?_) rfl (by kernel_rfl) (by kernel_rfl) (by kernel_rfl) (fun _ _ _ h => h) (Or.inl ⟨by rfl, ?_⟩) (by assumption) ?_
  rotate_left
  · (intro wq hSw; (try dsimp only at hSw); go_simp; try with_reducible rfl)
  try simp only [Act.put, List.getElem_toArray, List.getElem_cons_succ, List.getElem_cons_zero, List.setIfInBounds_toArray, List.set_cons_zero, List.set_cons_succ]
  refine wpAnyH_take (i := 17) (v := ?_) rfl (by kernel_rfl) (by kernel_rfl) (by kernel_rfl) (fun _ _ _ h => h) (Or.inl ⟨by rfl, ?_⟩) (by assumption) ?_
  rotate_left
  · (intro wq hSw; (try dsimp only at hSw); go_simp; try with_reducible rfl)
  try simp only [Act.put, List.getElem_toArray, List.getElem_cons_succ, List.getElem_cons_zero, List.setIfInBounds_toArray, List.set_cons_zero, List.set_cons_succ]
  refine wpAnyH_ready (rs := [14]) (by kernel_rfl) (by simp) ?_
  refine AllReadyH.cons rfl (fun K hK => ?_) AllReadyH.nil
  go_simp
  refine (hC.out w3 k3).mono ?_; rintro e w4 ⟨rfl, i4⟩; have k4 : Kept [] W0 w4 := k3.trans i4 (by simp)
  try go_wp2_with fail
  refine hK.out _ _ ?_ (fun hHeld => ?_)
  · (try dsimp only); (first | exact hF k6 | exact hF k5 | exact hF k4 | exact hF k3 | exact hF k2 | exact hF k1 | exact hF (Kept.refl [] W0).drew)
  clear hK K
  try simp only [Act.put, List.getElem_toArray, List.getElem_cons_succ, List.getElem_cons_zero, List.setIfInBounds_toArray, List.set_cons_zero, List.set_cons_succ]
  refine wpAnyH_take (i := 18) (v := ?_) rfl (by kernel_rfl) (by kernel_rfl) (by kernel_rfl) (fun _ _ _ h => h) (Or.inl ⟨by rfl, ?_⟩) (by assumption) ?_
  rotate_left
  · (intro wq hSw; (try dsimp only at hSw); go_simp; try with_reducible rfl)
  try simp only [Act.put, List.getElem_toArray, List.getElem_cons_succ, List.getElem_cons_zero, List.setIfInBounds_toArray, List.set_cons_zero, List.set_cons_succ]
  refine wpAnyH_take (i := 19) (v := ?_) rfl (by kernel_rfl) (by kernel_rfl) (by kernel_rfl) (fun _ _ _ h => h) (Or.inl ⟨by rfl, ?_⟩) (by assumption) ?_
  rotate_left
  · (intro wq hSw; (try dsimp only at hSw); go_simp; try with_reducible rfl)
  try simp only [Act.put, List.getElem_toArray, List.getElem_cons_succ, List.getElem_cons_zero, List.setIfInBounds_toArray, List.set_cons_zero, List.set_cons_succ]
  refine wpAnyH_take (i := 20) (v := ?_) rfl (by kernel_rfl) (by kernel_rfl) (by kernel_rfl) (fun _ _ _ h => h) (Or.inl ⟨by rfl, ?_⟩) (by assumption) ?_
  rotate_left
  · (intro wq hSw; (try dsimp only at hSw); go_simp; try with_reducible rfl)
  try simp only [Act.put, List.getElem_toArray, List.getElem_cons_succ, List.getElem_cons_zero, List.setIfInBounds_toArray, List.set_cons_zero, List.set_cons_succ]
  refine wpAnyH_take (i := 21) (v := ?_) rfl (by kernel_rfl) (by kernel_rfl) (by kernel_rfl) (fun _ _ _ h => h) (Or.inl ⟨by rfl, ?_⟩) (by assumption) ?_
  rotate_left
  · (intro wq hSw; (try dsimp only at hSw); go_simp; try with_reducible rfl)
  try simp only [Act.put, List.getElem_toArray, List.getElem_cons_succ, List.getElem_cons_zero, List.setIfInBounds_toArray, List.set_cons_zero, List.set_cons_succ]
  refine wpAnyH_take (i := 23) (v := ?_) rfl (by kernel_rfl) (by kernel_rfl) (by kernel_rfl) (fun _ _ _ h => h) (Or.inl ⟨by rfl, ?_⟩) (by assumption) ?_
  rotate_left
  · (intro wq hSw; (try dsimp only at hSw); go_simp; try with_reducible rfl)
  try simp only [Act.put, List.getElem_toArray, List.getElem_cons_succ, List.getElem_cons_zero, List.setIfInBounds_toArray, List.set_cons_zero, List.set_cons_succ]
  refine wpAnyH_take (i := 24) (v := ?_) rfl (by kernel_rfl) (by kernel_rfl) (by kernel_rfl) (fun _ _ _ h => h) (Or.inl ⟨by rfl, ?_⟩) (by assumption) ?_
  rotate_left
  · (intro wq hSw; (try dsimp only at hSw); go_simp; try with_reducible rfl)
  try simp only [Act.put, List.getElem_toArray, List.getElem_cons_succ, List.getElem_cons_zero, List.setIfInBounds_toArray, List.set_cons_zero, List.set_cons_succ]
  refine wpAnyH_ready (rs := [22]) (by kernel_rfl) (by simp) ?_
  refine AllReadyH.cons rfl (fun K hK => ?_) AllReadyH.nil
  go_simp
  refine (hD.out w4 k4).mono ?_; rintro e w5 ⟨rfl, i5⟩; have k5 : Kept [] W0 w5 := k4.trans i5 (by simp)
  try go_wp2_with fail
  refine hK.out _ _ ?_ (fun hHeld => ?_)
  · (try dsimp only); (first | exact hF k6 | exact hF k5 | exact hF k4 | exact hF k3 | exact hF k2 | exact hF k1 | exact hF (Kept.refl [] W0).drew)
  clear hK K
  try simp only [Act.put, List.getElem_toArray, List.getElem_cons_succ, List.getElem_cons_zero, List.setIfInBounds_toArray, List.set_cons_zero, List.set_cons_succ]
  refine wpAnyH_take (i := 25) (v := ?_) rfl (by kernel_rfl) (by kernel_rfl) (by kernel_rfl) (fun _ _ _ h => h) (Or.inl ⟨by rfl, ?_⟩) (by assumption) ?_
  rotate_left
  · (intro wq hSw; (try dsimp only at hSw); go_simp; try with_reducible rfl)
  try simp only [Act.put, List.getElem_toArray, List.getElem_cons_succ, List.getElem_cons_zero, List.setIfInBounds_toArray, List.set_cons_zero, List.set_cons_succ]
  refine wpAnyH_take (i := 26) (v := ?_) rfl (by kernel_rfl) (by kernel_rfl) (by kernel_rfl) (fun _ _ _ h => h) (Or.inl ⟨by rfl, ?_⟩) (by assumption) ?_
  rotate_left
  · (intro wq hSw; (try dsimp only at hSw); go_simp; try with_reducible rfl)
  try simp only [Act.put, List.getElem_toArray, List.getElem_cons_succ, List.getElem_cons_zero, List.setIfInBounds_toArray, List.set_cons_zero, List.set_cons_succ]
  refine wpAnyH_take (i := 27) (v := ?_) rfl (by kernel_rfl) (by kernel_rfl) (by kernel_rfl) (fun _ _ _ h => h) (Or.inl ⟨by rfl, ?_⟩) (by assumption) ?_
  rotate_left
  · (intro wq hSw; (try dsimp only at hSw); go_simp; try with_reducible rfl)
  try simp only [Act.put, List.getElem_toArray, List.getElem_cons_succ, List.getElem_cons_zero, List.setIfInBounds_toArray, List.set_cons_zero, List.set_cons_succ]
  refine wpAnyH_take (i := 28) (v := ?_) rfl (by kernel_rfl) (by kernel_rfl) (by kernel_rfl) (fun _ _ _ h => h) (Or.inl ⟨by rfl, ?_⟩) (by assumption) ?_
  rotate_left
  · (intro wq hSw; (try dsimp only at hSw); go_simp; try with_reducible rfl)
  try simp only [Act.put, List.getElem_toArray, List.getElem_cons_succ, List.getElem_cons_zero, List.setIfInBounds_toArray, List.set_cons_zero, List.set_cons_succ]
  refine wpAnyH_take (i := 30) (v := ?_) rfl (by kernel_rfl) (by kernel_rfl) (by kernel_rfl) (fun _ _ _ h => h) (Or.inl ⟨by rfl, ?_⟩) (by assumption) ?_
  rotate_left
  · (intro wq hSw; (try dsimp only at hSw); go_simp; try with_reducible rfl)
  try simp only [Act.put, List.getElem_toArray, List.getElem_cons_succ, List.getElem_cons_zero, List.setIfInBounds_toArray, List.set_cons_zero, List.set_cons_succ]
  refine wpAnyH_take (i := 31) (v := ?_) rfl (by kernel_rfl) (by kernel_rfl) (by kernel_rfl) (fun _ _ _ h => h) (Or.inl ⟨by rfl, ?_⟩) (by assumption) ?_
  rotate_left
  · (intro wq hSw; (try dsimp only at hSw); go_simp; try with_reducible rfl)
  try simp only [Act.put, List.getElem_toArray, List.getElem_cons_succ, List.getElem_cons_zero, List.setIfInBounds_toArray, List.set_cons_zero, List.set_cons_succ]
  refine wpAnyH_take (i := 32) (v := ?_) rfl (by kernel_rfl) (by kernel_rfl) (by kernel_rfl) (fun _ _ _ h => h) (Or.inl ⟨by rfl, ?_⟩) (by assumption) ?_
  rotate_left
  · (intro wq hSw; (try dsimp only at hSw); go_simp; try with_reducible rfl)
  try simp only [Act.put, List.getElem_toArray, List.getElem_cons_succ, List.getElem_cons_zero, List.setIfInBounds_toArray, List.set_cons_zero, List.set_cons_succ]
  refine wpAnyH_ready (rs := [29]) (by kernel_rfl) (by simp) ?_
  refine AllReadyH.cons rfl (fun K hK => ?_) AllReadyH.nil
  go_simp
  refine (hE.out w5 k5).mono ?_; rintro e w6 ⟨rfl, i6⟩; have k6 : Kept [] W0 w6 := k5.trans i6 (by simp)
  try go_wp2_with fail
  refine hK.out _ _ ?_ (fun hHeld => ?_)
  · (try dsimp only); (first | exact hF k6 | exact hF k5 | exact hF k4 | exact hF k3 | exact hF k2 | exact hF k1 | exact hF (Kept.refl [] W0).drew)
  clear hK K
  try simp only [Act.put, List.getElem_toArray, List.getElem_cons_succ, List.getElem_cons_zero, List.setIfInBounds_toArray, List.set_cons_zero, List.set_cons_succ]
  refine wpAnyH_take (i := 33) (v := ?_) rfl (by kernel_rfl) (by kernel_rfl) (by kernel_rfl) (fun _ _ _ h => h) (Or.inl ⟨by rfl, ?_⟩) (by assumption) ?_
  rotate_left
  · (intro wq hSw; (try dsimp only at hSw); go_simp; try with_reducible rfl)
  try simp only [Act.put, List.getElem_toArray, List.getElem_cons_succ, List.getElem_cons_zero, List.setIfInBounds_toArray, List.set_cons_zero, List.set_cons_succ]
  refine wpAnyH_take (i := 34) (v := ?_) rfl (by kernel_rfl) (by kernel_rfl) (by kernel_rfl) (fun _ _ _ h => h) (Or.inl ⟨by rfl, ?_⟩) (by assumption) ?_
  rotate_left
  · (intro wq hSw; (try dsimp only at hSw); go_simp; try with_reducible rfl)
  try simp only [Act.put, List.getElem_toArray, List.getElem_cons_succ, List.getElem_cons_zero, List.setIfInBounds_toArray, List.set_cons_zero, List.set_cons_succ]
  refine wpAnyH_done (by kernel_rfl) ?_ _
  clear i1 i2 i3 i4 i5 i6 k1 k2 k3 k4 k5 hHeld
  go_upto_region 3 with fail
  refine wp_region_held_drew (S := (fun w' => w'.cell? ⟨w.heap.size, 0, none⟩ = some (.int .i64 (m : Nat)) ∧ w'.cell? ⟨w.heap.size, 1, none⟩ = some (.int .i64 (p : Nat)) ∧ w'.cell? ⟨w.heap.size, 2, none⟩ = some (.int .i64 (f : Nat)) ∧ w'.cell? ⟨w.heap.size, 3, none⟩ = some (.slice a n c) ∧ w'.cell? ⟨w.heap.size, 4, none⟩ = some (.slice ap np cp))) (by kernel_rfl) ?_ (fun hHeld => ?_)
  · (try dsimp only); (first | exact hF k8 | exact hF k7 | exact hF (k6.trans (Kept.refl [] w6).drew (by simp)))
  refine wpAnyH_take (i := 0) (v := ?_) rfl (by kernel_rfl) (by kernel_rfl) (by kernel_rfl) (fun _ _ _ h => h) (Or.inl ⟨by rfl, ?_⟩) (by assumption) ?_
  rotate_left
  · (intro wq hSw; (try dsimp only at hSw); go_simp; try with_reducible rfl)
  try simp only [Act.put, List.getElem_toArray, List.getElem_cons_zero, List.setIfInBounds_toArray, List.set_cons_zero, List.set_cons_succ]
  refine wpAnyH_take (i := 1) (v := ?_) rfl (by kernel_rfl) (by kernel_rfl) (by kernel_rfl) (fun _ _ _ h => h) (Or.inl ⟨by rfl, ?_⟩) (by assumption) ?_
  rotate_left
  · (intro wq hSw; (try dsimp only at hSw); go_simp; try with_reducible rfl)
  try simp only [Act.put, List.getElem_toArray, List.getElem_cons_succ, List.getElem_cons_zero, List.setIfInBounds_toArray, List.set_cons_zero, List.set_cons_succ]
  refine wpAnyH_take (i := 2) (v := ?_) rfl (by kernel_rfl) (by kernel_rfl) (by kernel_rfl) (fun _ _ _ h => h) (Or.inl ⟨by rfl, ?_⟩) (by assumption) ?_
  rotate_left
  · (intro wq hSw; (try dsimp only at hSw); go_simp; try with_reducible rfl)
  try simp only [Act.put, List.getElem_toArray, List.getElem_cons_succ, List.getElem_cons_zero, List.setIfInBounds_toArray, List.set_cons_zero, List.set_cons_succ]
  refine wpAnyH_take (i := 3) (v := ?_) rfl (by kernel_rfl) (by kernel_rfl) (by kernel_rfl) (fun _ _ _ h => h) (Or.inl ⟨by rfl, ?_⟩) (by assumption) ?_
  rotate_left
  · (intro wq hSw; (try dsimp only at hSw); go_simp; try with_reducible rfl)
  try simp only [Act.put, List.getElem_toArray, List.getElem_cons_succ, List.getElem_cons_zero, List.setIfInBounds_toArray, List.set_cons_zero, List.set_cons_succ]
  refine wpAnyH_ready (rs := [4]) (by kernel_rfl) (by simp) ?_
  refine AllReadyH.cons rfl (fun K hK => ?_) AllReadyH.nil
  go_simp
  refine (hN.out _).mono ?_; rintro e w7 ⟨rfl, i7⟩; have k7 : Kept [] W0 w7 := (k6.trans (Kept.refl [] w6).drew (by simp)).trans i7 (by simp)
  try go_wp2_with fail
  refine hK.out _ _ ?_ (fun hHeld => ?_)
  · (try dsimp only); (first | exact hF k8 | exact hF k7 | exact hF (k6.trans (Kept.refl [] w6).drew (by simp)))
  clear hK K
  try simp only [Act.put, List.getElem_toArray, List.getElem_cons_succ, List.getElem_cons_zero, List.setIfInBounds_toArray, List.set_cons_zero, List.set_cons_succ]
  refine wpAnyH_ready (rs := [5]) (by kernel_rfl) (by simp) ?_
  refine AllReadyH.cons rfl (fun K hK => ?_) AllReadyH.nil
  go_simp
  refine (hG.out w7 k7).mono ?_; rintro e w8 ⟨a6, n6, c6, vs6, rfl, hL6, h6a, h6b, hge6, hown6, hpw, hap, hj6⟩; have k8 : Kept [] W0 w8 := k7.trans hj6 (by simp)
  try go_wp2_with fail
  refine hK.out _ _ ?_ (fun hHeld => ?_)
  · (try dsimp only); (first | exact hF k8 | exact hF k7 | exact hF (k6.trans (Kept.refl [] w6).drew (by simp)))
  clear hK K
  try simp only [Act.put, List.getElem_toArray, List.getElem_cons_succ, List.getElem_cons_zero, List.setIfInBounds_toArray, List.set_cons_zero, List.set_cons_succ]
  refine wpAnyH_take (i := 6) (v := ?_) rfl (by kernel_rfl) (by kernel_rfl) (by kernel_rfl) (fun _ _ _ h => h) (Or.inl ⟨by rfl, ?_⟩) (by assumption) ?_
  rotate_left
  · (intro wq hSw; (try dsimp only at hSw); go_simp; try with_reducible rfl)
  try simp only [Act.put, List.getElem_toArray, List.getElem_cons_succ, List.getElem_cons_zero, List.setIfInBounds_toArray, List.set_cons_zero, List.set_cons_succ]
  refine wpAnyH_take (i := 7) (v := ?_) rfl (by kernel_rfl) (by kernel_rfl) (by kernel_rfl) (fun _ _ _ h => h) (Or.inl ⟨by rfl, ?_⟩) (by assumption) ?_
  rotate_left
  · (intro wq hSw; (try dsimp only at hSw); go_simp; try with_reducible rfl)
  try simp only [Act.put, List.getElem_toArray, List.getElem_cons_succ, List.getElem_cons_zero, List.setIfInBounds_toArray, List.set_cons_zero, List.set_cons_succ]
  refine wpAnyH_take (i := 8) (v := ?_) rfl (by kernel_rfl) (by kernel_rfl) (by kernel_rfl) (fun _ _ _ h => h) (Or.inl ⟨by rfl, ?_⟩) (by assumption) ?_
  rotate_left
  · (intro wq hSw; (try dsimp only at hSw); go_simp; try with_reducible rfl)
  try simp only [Act.put, List.getElem_toArray, List.getElem_cons_succ, List.getElem_cons_zero, List.setIfInBounds_toArray, List.set_cons_zero, List.set_cons_succ]
  refine wpAnyH_take (i := 9) (v := ?_) rfl (by kernel_rfl) (by kernel_rfl) (by kernel_rfl) (fun _ _ _ h => h) (Or.inl ⟨by rfl, ?_⟩) (by assumption) ?_
  rotate_left
  · (intro wq hSw; (try dsimp only at hSw); go_simp; try with_reducible rfl)
  try simp only [Act.put, List.getElem_toArray, List.getElem_cons_succ, List.getElem_cons_zero, List.setIfInBounds_toArray, List.set_cons_zero, List.set_cons_succ]
  refine wpAnyH_take (i := 10) (v := ?_) rfl (by kernel_rfl) (by kernel_rfl) (by kernel_rfl) (fun _ _ _ h => h) (Or.inl ⟨by rfl, ?_⟩) (by assumption) ?_
  rotate_left
  · (intro wq hSw; (try dsimp only at hSw); go_simp; try with_reducible rfl)
  try simp only [Act.put, List.getElem_toArray, List.getElem_cons_succ, List.getElem_cons_zero, List.setIfInBounds_toArray, List.set_cons_zero, List.set_cons_succ]
  refine wpAnyH_done (by kernel_rfl) ?_ _
  clear hHeld
  obtain ⟨q0, q1, q2, q3, q4⟩ := hF k8
  obtain rfl : n = n6 := by have h1 := hL6.len; have h2 := hl.out; omega
  have hv6 := hide hL6.vlen
  go_wp2_with fail
  refine (rAll6_any a6 n c6 vs6 ls a n c us ls w8 hL6 (hR.out w8 k8) hbd.out (by have := hn9.out; omega)).mono ?_
  rintro e w9 ⟨rfl, hj9⟩
  have hk9 := hide (k8.trans hj9 (by simp))
  have hrd9 := hide (hL6.rd.kept hj9 (by simp))
  have hown9 := hide (fun v hv => by obtain ⟨x, h1, h2⟩ := hown6 v hv; exact ⟨x, h1.kept hj9 (by simp), h2⟩ : ∀ v ∈ vs6, ∃ x, Own w9 w7.heap.size 86 v.a v.n v.c 16 (cellsV x) ∧ x.length ≤ 1000)
  have hpw := hide hpw
  have hap := hide hap
  have hkrs := hide k7.size
  clear hown6 hL6 hge6 q0 q1 q2 q3 q4 hj6 hj9 k6 k7 k8 i7
  go_wp2_with fail
  go_loopg [7, 63, 64, 65, 66, 67, 68, 69, 70, 71, 72] n (fun kx s7 s63 s64 s65 s66 s67 s68 s69 s70 s71 s72 wr => ∃ k : Nat, s63 = .int .i64 k ∧ k ≤ n ∧ n - k ≤ kx ∧ Hid (∀ j (h : j < vs6.length), k ≤ j → ∃ x, Own wr w7.heap.size 86 vs6[j].a vs6[j].n vs6[j].c 16 (cellsV x) ∧ x.length ≤ 1000) ∧ Hid (Kept (vs6.flatMap fun v => blk v.a) w9 wr))
  case atStart => exact ⟨0, rfl, Nat.zero_le _, by omega, hide (fun j h _ => hown9.out _ (List.getElem_mem h)), hide (Kept.refl _ _)⟩
  case round =>
    obtain ⟨k, rfl, hk, hg2, hO, hKq⟩ := hrel
    by_cases hlt : k < n
    · have hkv : k < vs6.length := by rw [hv6.out]; exact hlt
      have hkn : (k : Int) < (n : Int) := by omega
      obtain ⟨b6, o6, rfl⟩ := hrd9.out.rowAddr rowLn (by omega)
      obtain ⟨x, hx1, hx2⟩ := hO.out k hkv (Nat.le_refl _)
      have hrow6 : wr.rangeAt b6 (o6 + k * 2) (lnV vs6[k]) := (hrd9.out.kept hKq.out (fun y hy hm => by obtain ⟨v, hv, hm⟩ := List.mem_flatMap.1 hm; exact hap.out v hv y hy hm)).row rowLn k hkv
      have hpk := hide (fun j (hj : j < vs6.length) (hkj : k < j) => (List.pairwise_iff_getElem.1 hpw.out) k j hkv hj hkj)
      have hmem := hide (List.getElem_mem hkv)
      have r0 := hrow6 0 _ rfl
      have hnx : vs6[k].n ≤ 1000 := by have h1 : x.length = vs6[k].n := hx1.rd.clen; omega
      have hSt := hide (Stain_any vs6[k].a vs6[k].n vs6[k].c w7.heap.size x wr hx1 hnx)
      have hk1 : IntKind.i64.wrap ((k : Int) + 1) = (k : Int) + 1 := by rw [IntKind.wrap_i64]; have := hn9.out; omega
      rw [Nat.add_zero] at r0
      clear hrow6 hx1
      generalize vs6[k] = v at *
      go_wp2_with fail
      refine hSt.out.mono ?_
      rintro e w10 ⟨rfl, hj10⟩
      go_wp2_with fail
      go_roundg (n - (k + 1))
      case measure => omega
      case rel =>
        refine ⟨k + 1, by push_cast; rfl, by omega, Nat.le_refl _, hide (fun j hj hkj => ?_), hide (hKq.out.trans hj10 (fun y hy => .inl (List.mem_flatMap.2 ⟨v, hmem.out, hy⟩)))⟩
        obtain ⟨z, h1, h2⟩ := hO.out j hj (by omega)
        exact ⟨z, h1.kept hj10 (fun y hy hm => hpk.out j hj (by omega) y hm hy), h2⟩
    · obtain rfl : k = n := by omega
      have hkZ : Kept [] W0 wr := hk9.out.trans hKq.out (fun y hy => by
        obtain ⟨v, hv, hy⟩ := List.mem_flatMap.1 hy
        obtain ⟨x, h1, _⟩ := hown9.out v hv
        have h2 := (h1.ge y hy).1
        have h3 := hkrs.out
        exact .inr (by omega))
      go_upto_region 11 with fail
      refine wp_region_held_drew (S := (fun w' => w'.cell? ⟨w.heap.size, 0, none⟩ = some (.int .i64 (m : Nat)) ∧ w'.cell? ⟨w.heap.size, 1, none⟩ = some (.int .i64 (p : Nat)) ∧ w'.cell? ⟨w.heap.size, 2, none⟩ = some (.int .i64 (f : Nat)) ∧ w'.cell? ⟨w.heap.size, 3, none⟩ = some (.slice a k c) ∧ w'.cell? ⟨w.heap.size, 4, none⟩ = some (.slice ap np cp))) (by kernel_rfl) ?_ (fun hHeld => ?_)
      · (try dsimp only); (first | exact hF k12 | exact hF k11 | exact hF (hkZ.trans (Kept.refl [] wr).drew (by simp)))
      refine wpAnyH_take (i := 0) (v := ?_) rfl (by kernel_rfl) (by kernel_rfl) (by kernel_rfl) (fun _ _ _ h => h) (Or.inl ⟨by rfl, ?_⟩) (by assumption) ?_
      rotate_left
      · (intro wq hSw; (try dsimp only at hSw); go_simp; try with_reducible rfl)
      try simp only [Act.put, List.getElem_toArray, List.getElem_cons_zero, List.setIfInBounds_toArray, List.set_cons_zero, List.set_cons_succ]
      refine wpAnyH_take (i := 1) (v := ?_) rfl (by kernel_rfl) (by kernel_rfl) (by kernel_rfl) (fun _ _ _ h => h) (Or.inl ⟨by rfl, ?_⟩) (by assumption) ?_
      rotate_left
      · (intro wq hSw; (try dsimp only at hSw); go_simp; try with_reducible rfl)
      try simp only [Act.put, List.getElem_toArray, List.getElem_cons_succ, List.getElem_cons_zero, List.setIfInBounds_toArray, List.set_cons_zero, List.set_cons_succ]
      refine wpAnyH_take (i := 2) (v := ?_) rfl (by kernel_rfl) (by kernel_rfl) (by kernel_rfl) (fun _ _ _ h => h) (Or.inl ⟨by rfl, ?_⟩) (by assumption) ?_
      rotate_left
      · (intro wq hSw; (try dsimp only at hSw); go_simp; try with_reducible rfl)
      try simp only [Act.put, List.getElem_toArray, List.getElem_cons_succ, List.getElem_cons_zero, List.setIfInBounds_toArray, List.set_cons_zero, List.set_cons_succ]
      refine wpAnyH_take (i := 3) (v := ?_) rfl (by kernel_rfl) (by kernel_rfl) (by kernel_rfl) (fun _ _ _ h => h) (Or.inl ⟨by rfl, ?_⟩) (by assumption) ?_
      rotate_left
      · (intro wq hSw; (try dsimp only at hSw); go_simp; try with_reducible rfl)
      try simp only [Act.put, List.getElem_toArray, List.getElem_cons_succ, List.getElem_cons_zero, List.setIfInBounds_toArray, List.set_cons_zero, List.set_cons_succ]
      refine wpAnyH_take (i := 5) (v := ?_) rfl (by kernel_rfl) (by kernel_rfl) (by kernel_rfl) (fun _ _ _ h => h) (Or.inl ⟨by rfl, ?_⟩) (by assumption) ?_
      rotate_left
      · (intro wq hSw; (try dsimp only at hSw); go_simp; try with_reducible rfl)
      try simp only [Act.put, List.getElem_toArray, List.getElem_cons_succ, List.getElem_cons_zero, List.setIfInBounds_toArray, List.set_cons_zero, List.set_cons_succ]
      refine wpAnyH_take (i := 6) (v := ?_) rfl (by kernel_rfl) (by kernel_rfl) (by kernel_rfl) (fun _ _ _ h => h) (Or.inl ⟨by rfl, ?_⟩) (by assumption) ?_
      rotate_left
      · (intro wq hSw; (try dsimp only at hSw); go_simp; try with_reducible rfl)
      try simp only [Act.put, List.getElem_toArray, List.getElem_cons_succ, List.getElem_cons_zero, List.setIfInBounds_toArray, List.set_cons_zero, List.set_cons_succ]
      refine wpAnyH_ready (rs := [4]) (by kernel_rfl) (by simp) ?_
      refine AllReadyH.cons rfl (fun K hK => ?_) AllReadyH.nil
      go_simp
      refine (hN.out _).mono ?_; rintro e w11 ⟨rfl, i11⟩; have k11 : Kept [] W0 w11 := (hkZ.trans (Kept.refl [] wr).drew (by simp)).trans i11 (by simp)
      try go_wp2_with fail
      refine hK.out _ _ ?_ (fun hHeld => ?_)
      · (try dsimp only); (first | exact hF k12 | exact hF k11 | exact hF (hkZ.trans (Kept.refl [] wr).drew (by simp)))
      clear hK K
      try simp only [Act.put, List.getElem_toArray, List.getElem_cons_succ, List.getElem_cons_zero, List.setIfInBounds_toArray, List.set_cons_zero, List.set_cons_succ]
      refine wpAnyH_ready (rs := [7]) (by kernel_rfl) (by simp) ?_
      refine AllReadyH.cons rfl (fun K hK => ?_) AllReadyH.nil
      go_simp
      refine (hH.out w11 k11).mono ?_; rintro e w12 ⟨rfl, i12⟩; have k12 : Kept [] W0 w12 := k11.trans i12 (by simp)
      try go_wp2_with fail
      refine hK.out _ _ ?_ (fun hHeld => ?_)
      · (try dsimp only); (first | exact hF k12 | exact hF k11 | exact hF (hkZ.trans (Kept.refl [] wr).drew (by simp)))
      clear hK K
      try simp only [Act.put, List.getElem_toArray, List.getElem_cons_succ, List.getElem_cons_zero, List.setIfInBounds_toArray, List.set_cons_zero, List.set_cons_succ]
      refine wpAnyH_take (i := 8) (v := ?_) rfl (by kernel_rfl) (by kernel_rfl) (by kernel_rfl) (fun _ _ _ h => h) (Or.inl ⟨by rfl, ?_⟩) (by assumption) ?_
      rotate_left
      · (intro wq hSw; (try dsimp only at hSw); go_simp; try with_reducible rfl)
      try simp only [Act.put, List.getElem_toArray, List.getElem_cons_succ, List.getElem_cons_zero, List.setIfInBounds_toArray, List.set_cons_zero, List.set_cons_succ]
      refine wpAnyH_done (by kernel_rfl) ?_ _
      go_wp2_with fail
      go_ret
      exact ⟨rfl, hk0.trans k12 (by simp)⟩
end Go.Proofs.YtnkddhmhjnhgcaaGreatDoor
namespace Go.Proofs.YtnkddhmhjnhgcaaGreatDoor
open Go.RowKit
set_option linter.unusedVariables false
set_option linter.unusedSimpArgs false
set_option maxRecDepth 100000

/-- A call of the law: what it is, a number, a line. -/
structure AcA where
  wh : Int
  nm : Int
  to : Int
  a : Option Addr
  n : Nat
  c : Nat
  s : Bool
def acV (u : AcA) : List Value := [.int .i64 u.wh, .int .i64 u.nm, .int .i64 u.to, .slice u.a u.n u.c, .bool u.s]
theorem rowAc : RowOf acV 5 := ⟨by decide, fun _ => rfl, fun v u hu => by
  simp only [acV, List.mem_cons, List.not_mem_nil, or_false] at hu
  rcases hu with rfl | rfl | rfl | rfl | rfl <;> rfl⟩
def AcIn (W : World) (b : Nat) (u : AcA) : Prop := W.heap[b]? = some (.cells #[.int .i64 u.wh, .int .i64 u.nm, .int .i64 u.to, .slice u.a u.n u.c, .bool u.s] 38 (0, 0))
theorem AcIn.new (w : World) (u : AcA) : AcIn (w.alloc (.cells #[.int .i64 u.wh, .int .i64 u.nm, .int .i64 u.to, .slice u.a u.n u.c, .bool u.s] 38)) w.heap.size u := heap_alloc_new w _
theorem AcIn.kept {S : List Nat} {w w' : World} {b : Nat} {u : AcA} (h : AcIn w b u) (hk : Kept S w w') (hb : b ∉ S) : AcIn w' b u := hk.heap h hb
theorem AcIn.at {w : World} {b : Nat} {u : AcA} (h : AcIn w b u) : w.cell? ⟨b, 0, none⟩ = some (.int .i64 u.wh) ∧ w.cell? ⟨b, 1, none⟩ = some (.int .i64 u.nm) ∧ w.cell? ⟨b, 2, none⟩ = some (.int .i64 u.to) ∧ w.cell? ⟨b, 3, none⟩ = some (.slice u.a u.n u.c) ∧ w.cell? ⟨b, 4, none⟩ = some (.bool u.s) := by
  have e := fun j => cell_of_row w b j _ _ _ h
  exact ⟨e 0, e 1, e 2, e 3, e 4⟩
theorem AcIn.lt {w : World} {b : Nat} {u : AcA} (h : AcIn w b u) : b < w.heap.size := World.block_lt_of_cell? w _ h.at.1
theorem AcIn.range {w : World} {b : Nat} {u : AcA} (h : AcIn w b u) : w.rangeAt b 0 (acV u) := fun j v hv => by
  rw [cell_of_row w b (0 + j) _ _ _ h, Nat.zero_add]
  simpa [acV] using hv
theorem oneAc (u : AcA) : (#[Value.int .i64 u.wh, Value.int .i64 u.nm, Value.int .i64 u.to, Value.slice u.a u.n u.c, Value.bool u.s] : Array Value).all (·.oneCell') = true := by simp [Value.oneCell']
theorem wpList_store_ac {ops : Array Oper} {rest : List Oper} {op : Oper} {A : Act} {w : World} {Q : Exit → Act → World → Prop} {x y : Operand} (ho : op.op = .store 38 x y) (hgd : op.guard = none) (hd : op.dst = none) (b : Nat) (hx : A.eval x = .pointer (some ⟨b, 0, none⟩)) {u : AcA} (hb : AcIn w b u)
    (v : AcA) (hy : A.eval y = .agg #[.int .i64 v.wh, .int .i64 v.nm, .int .i64 v.to, .slice v.a v.n v.c, .bool v.s]) (h : ∀ w', AcIn w' b v → Kept [b] w w' → wpList Tryz.prog ops Q rest A w') : wpList Tryz.prog ops Q (op :: rest) A w :=
  wpList_store_rowTo hgd 38 x y ho hd b #[.int .i64 v.wh, .int .i64 v.nm, .int .i64 v.to, .slice v.a v.n v.c, .bool v.s] hx hy 38 _ hb (by kernel_rfl) rfl (oneAc v) (h _ (setRow_heap w b _ _ _ _ hb) ((Kept.refl [b] w).setRow (.inl (by simp)) _))
theorem results_does8 {fn : Func} {p q u : Tmp} {tmps : Array Value} {W : World} {b : Nat} {lim pl fi : Int} {a : Option Addr} {n c : Nat} {ap : Option Addr} {np cp : Nat} (h : fn.results = #[.tmp p, .cell q 33, .tmp u]) (hq : tmps.getD q undef = .pointer (some ⟨b, 0, none⟩)) (hc : RgIn W b lim pl fi a n c ap np cp) {v v2 : Value} (hp : tmps.getD p undef = v) (hu : tmps.getD u undef = v2) :
    (results fn tmps).run Tryz.prog W = .ok (.tuple #[v, .agg #[.int .i64 lim, .int .i64 pl, .int .i64 fi, .slice a n c, .slice ap np cp], v2]) W := by
  have hl := run_loadVar_mid (P := Tryz.prog) W b 0 33 (rgL lim pl fi a n c ap np cp) _ hc.range Tryz.underlying33 rfl (by kernel_rfl)
  rw [Array.getD_eq_getD_getElem?] at hp hq hu
  simp [results, h, hp, hq, hu, asAddr, hl, rgL]
def FewRet (N : Nat) (us : List AcA) (w : World) (e : Ending) (w' : World) : Prop := ∃ v : Bool, e = .returned (.bool v) ∧ (v = true → N ≤ 40 ∧ ∀ u ∈ us, u.n ≤ 20) ∧ Kept [] w w'
set_option maxHeartbeats 4000000 in
theorem few8_any (a1 : Option Addr) (N cN : Nat) (us : List AcA) (w : World) (hr : Rd w a1 N 5 (rowsV acV us)) :
    Calls Tryz.prog 7 #[.slice a1 N cN] w (FewRet N us w) := by
  have hul := hide (hr.rowLen rowAc)
  have hR := hide hr
  clear hr
  go_enter Tryz.func7, Tryz.ntmps7
  go_wp2_with fail
  go_loopg [3, 4, 5, 6, 7, 8, 9, 10, 11, 12, 13, 14, 15, 16, 17, 18, 19, 20, 21] 41 (fun kx s3 s4 s5 s6 s7 s8 s9 s10 s11 s12 s13 s14 s15 s16 s17 s18 s19 s20 s21 wr => ∃ k : Nat, s3 = .int .i64 k ∧ k ≤ N ∧ k ≤ 41 ∧ 41 - k ≤ kx ∧ Hid (∀ j (h : j < us.length), j < k → us[j].n ≤ 20) ∧ Kept [] w wr)
  case atStart => exact ⟨0, rfl, Nat.zero_le _, by decide, by omega, hide (fun j _ h => by omega), Kept.refl _ _⟩
  case round =>
    obtain ⟨k, rfl, hkN, hk41, hg, hall, hkr⟩ := hrel
    by_cases hlt : k < N
    · have hkn : (k : Int) < (N : Int) := by omega
      by_cases h41 : k < 41
      · have hk4 : (k : Int) < 41 := by omega
        have hku : k < us.length := by rw [hul.out]; exact hlt
        obtain ⟨g, o, rfl⟩ := hR.out.rowAddr rowAc (by omega)
        have hrow := (hR.out.kept hkr (by simp)).row rowAc k hku
        have r2 := hrow 3 _ rfl
        have hnx := hide (fun (hn : us[k].n ≤ 20) j (h : j < us.length) (hj : j < k + 1) => (by
          by_cases e : j = k
          · subst e; exact hn
          · exact hall.out j h (by omega) : us[j].n ≤ 20))
        have hmem := hide (List.getElem_mem hku)
        clear hrow
        have t4 : IntKind.i64.wrap ((k : Int) + 1) = (k : Int) + 1 := by rw [IntKind.wrap_i64]; omega
        generalize us[k] = u at *
        by_cases h20 : (u.n : Int) > 20
        · go_wp2_with fail
          go_ret
          exact ⟨false, rfl, fun h => (by cases h), hkr⟩
        · go_wp2_with fail
          go_roundg (41 - (k + 1))
          case measure => omega
          case rel => exact ⟨k + 1, by push_cast; rfl, by omega, by omega, Nat.le_refl _, hide (hnx.out (by omega)), hkr⟩
      · obtain rfl : k = 41 := by omega
        have hN40 : ¬ ((N : Int) ≤ 40) := by omega
        go_wp2_with fail
        go_ret
        exact ⟨_, rfl, fun h => (by simp at h; try omega), hkr⟩
    · obtain rfl : k = N := by omega
      by_cases h40 : (k : Int) ≤ 40
      · go_wp2_with fail
        go_ret
        exact ⟨_, rfl, fun _ => ⟨by omega, fun u hu => by obtain ⟨j, h1, h2⟩ := List.getElem_of_mem hu; rw [← h2]; exact hall.out j h1 (by rw [← hul.out]; exact h1)⟩, hkr⟩
      · go_wp2_with fail
        go_ret
        exact ⟨_, rfl, fun h => (by simp at h; try omega), hkr⟩

theorem LnsR.keptN {S : List Nat} {w w' : World} {a : Option Addr} {n : Nat} {vs : List LnA} {xs : List Ln} (h : LnsR w a n vs xs) (hk : Kept S w w') (h1 : ∀ g ∈ blkN a n, g ∉ S) (h2 : ∀ g ∈ blks vs, g ∉ S) : LnsR w' a n vs xs := ⟨h.rd.keptN hk h1, h.at'.kept hk h2⟩
theorem Rd.ltK {w : World} {a : Option Addr} {n k : Nat} {xs : List Value} (hk : 0 < k) (h : Rd w a n k xs) : ∀ g ∈ blkN a n, g < w.heap.size := fun g hg => by
  unfold blkN at hg
  split at hg
  · cases hg
  · rename_i hn
    refine h.lt (fun h0 => ?_) g hg
    have h1 := h.1
    rw [h0] at h1
    rcases Nat.mul_eq_zero.1 h1.symm with h2 | h2
    · exact hn (by simp [h2])
    · omega
/-- Where the law's walk stands: the program's ring at b, the reference's beside it, apart from it. -/
structure HR (w0 w : World) (b : Nat) (r : Rg) (B : List Nat) (a : Option Addr) (n c : Nat) (us : List LnA) (ap : Option Addr) (np cp : Nat) : Prop where
  tb : Tabs w
  kp : Kept [] w0 w
  rn : RN w b r B
  ge : ∀ y ∈ B, w0.heap.size ≤ y
  lr : LnsR w a n us r.ls
  nc : n ≤ c
  cm : c ≤ maxLen
  pr : Rd w ap np 2 (rowsV paV r.ps)
  pc : np ≤ cp
  pm : cp ≤ maxLen
  d1 : ∀ y ∈ blkN a n, y ∉ B
  d2 : ∀ y ∈ blks us, y ∉ B
  d3 : ∀ y ∈ blkN ap np, y ∉ B
section
variable {w0 w w' : World} {b : Nat} {r r' : Rg} {B B' : List Nat} {a a' ap ap' : Option Addr} {n c n' c' np cp np' cp' : Nat} {us us' : List LnA}
theorem HR.keep (h : HR w0 w b r B a n c us ap np cp) (hk : Kept [] w w') : HR w0 w' b r B a n c us ap np cp :=
  ⟨h.tb.kept hk, h.kp.trans hk (by simp), h.rn.kept hk (by simp), h.ge, h.lr.kept hk (by simp) (by simp), h.nc, h.cm, h.pr.kept hk (by simp), h.pc, h.pm, h.d1, h.d2, h.d3⟩
/-- The program's ring has changed, and so has the reference's: what it gives is the reference's or new. -/
theorem HR.both (h : HR w0 w b r B a n c us ap np cp) (h2 : 2 ≤ w0.heap.size) {w1 : World} (hk1 : Kept [] w w1) (hr : LnsR w1 a' n' us' r'.ls) (hnc : n' ≤ c') (hcm : c' ≤ maxLen) (hp : Rd w1 ap' np' 2 (rowsV paV r'.ps)) (hpc : np' ≤ cp') (hpm : cp' ≤ maxLen)
    (g1 : ∀ y ∈ blkN a' n', y ∈ blkN a n ∨ w.heap.size ≤ y) (g3 : ∀ y ∈ blkN ap' np', y ∈ blkN ap np ∨ w.heap.size ≤ y) (g2 : ∀ y ∈ blks us', y ∈ blks us ∨ w.heap.size ≤ y)
    {w2 : World} (hk2 : Kept [] w1 w2) (hn : RN w' b r' B') (hk : Kept B w2 w') (hB : ∀ y ∈ B', y ∈ B ∨ w2.heap.size ≤ y) : HR w0 w' b r' B' a' n' c' us' ap' np' cp' := by
  have hlt := h.rn.lt
  have hs1 := hk1.size
  have l1 : ∀ y ∈ blkN a' n', y < w1.heap.size := Rd.ltK (by decide) hr.rd
  have l2 : ∀ y ∈ blks us', y < w1.heap.size := hr.at'.lt
  have l3 : ∀ y ∈ blkN ap' np', y < w1.heap.size := Rd.ltK (by decide) hp
  have hs2 := hk2.size
  have e1 : ∀ y ∈ blkN a' n', y ∉ B := fun y hy hm => (g1 y hy).elim (fun q => h.d1 y q hm) (fun q => by have := hlt y hm; omega)
  have e2 : ∀ y ∈ blks us', y ∉ B := fun y hy hm => (g2 y hy).elim (fun q => h.d2 y q hm) (fun q => by have := hlt y hm; omega)
  have e3 : ∀ y ∈ blkN ap' np', y ∉ B := fun y hy hm => (g3 y hy).elim (fun q => h.d3 y q hm) (fun q => by have := hlt y hm; omega)
  have hk02 := hk1.trans hk2 (by simp)
  exact ⟨(h.tb.kept hk02).kept2 hk (fun x hx => by have := h.ge x hx; omega), (h.kp.trans hk02 (by simp)).trans hk (fun x hx => .inr (h.ge x hx)), hn,
    fun y hy => (hB y hy).elim (h.ge y) (fun q => by have := h.kp.size; omega),
    (hr.kept hk2 (by simp) (by simp)).keptN hk e1 e2, hnc, hcm, (hp.kept hk2 (by simp)).keptN hk e3, hpc, hpm,
    fun y hy hm => (hB y hm).elim (fun q => e1 y hy q) (fun q => by have := l1 y hy; omega),
    fun y hy hm => (hB y hm).elim (fun q => e2 y hy q) (fun q => by have := l2 y hy; omega),
    fun y hy hm => (hB y hm).elim (fun q => e3 y hy q) (fun q => by have := l3 y hy; omega)⟩
/-- Something between has changed: what is neither the rings' nor the reference's. -/
theorem HR.mid (h : HR w0 w b r B a n c us ap np cp) (h2 : 2 ≤ w0.heap.size) {S : List Nat} (hk : Kept S w w') {lo hi : Nat} (hl : w0.heap.size ≤ lo) (hS : ∀ y ∈ S, lo ≤ y ∧ y < hi) (o : ∀ y, (y ∈ B ∨ y ∈ blkN a n ∨ y ∈ blks us ∨ y ∈ blkN ap np) → y < lo ∨ hi ≤ y) : HR w0 w' b r B a n c us ap np cp := by
  have q : ∀ y, (y ∈ B ∨ y ∈ blkN a n ∨ y ∈ blks us ∨ y ∈ blkN ap np) → y ∉ S := fun y hy hm => by have := hS y hm; have := o y hy; omega
  exact ⟨h.tb.kept2 hk (fun x hx => by have := hS x hx; omega), h.kp.trans hk (fun x hx => .inr (by have := hS x hx; omega)), h.rn.kept hk (fun y hy => q y (.inl hy)), h.ge, h.lr.keptN hk (fun y hy => q y (.inr (.inl hy))) (fun y hy => q y (.inr (.inr (.inl hy)))), h.nc, h.cm, h.pr.keptN hk (fun y hy => q y (.inr (.inr (.inr hy)))), h.pc, h.pm, h.d1, h.d2, h.d3⟩
theorem HR.apart (h : HR w0 w b r B a n c us ap np cp) (h2 : 2 ≤ w0.heap.size) {S : List Nat} (hk : Kept S w w') (hS : ∀ y ∈ S, w0.heap.size ≤ y) (q : ∀ y, (y ∈ B ∨ y ∈ blkN a n ∨ y ∈ blks us ∨ y ∈ blkN ap np) → y ∉ S) : HR w0 w' b r B a n c us ap np cp :=
  ⟨h.tb.kept2 hk (fun x hx => by have := hS x hx; omega), h.kp.trans hk (fun x hx => .inr (hS x hx)), h.rn.kept hk (fun y hy => q y (.inl hy)), h.ge, h.lr.keptN hk (fun y hy => q y (.inr (.inl hy))) (fun y hy => q y (.inr (.inr (.inl hy)))), h.nc, h.cm, h.pr.keptN hk (fun y hy => q y (.inr (.inr (.inr hy)))), h.pc, h.pm, h.d1, h.d2, h.d3⟩
theorem popG_next (r : Rg) : (popG r).1.next ≤ r.next := by
  unfold popG
  split
  · simp
  · simp [Rg.next]
theorem pushG_next (r : Rg) (x : Ln) : (pushG r x).1.next ≤ r.next + 1 := by
  unfold pushG
  split
  · simp
  · simp only [evict_next]
    simp [Rg.next]
    omega
theorem limitG_next (r : Rg) (k : Int) : (limitG r k).1.next ≤ r.next := by
  unfold limitG
  split
  · simp
  · simp only [evict_next]
    simp [Rg.next]
theorem setG_next (r : Rg) (k : Int) (x : Ln) : (setG r k x).1.next ≤ r.next := by
  unfold setG
  repeat' split
  all_goals simp [Rg.next]
theorem RN.set (hp : RN w b r B) (hx : r.next ≤ 1000000000) (k : Int) (a1 : Option Addr) (n1 c1 : Nat) (x : Ln) (ht : Tabs w) (hr1 : Rd w a1 n1 16 (cellsV x.l)) :
    Calls Tryz.prog 21 #[.pointer (some ⟨b, 0, none⟩), .int .i64 k, .agg #[.slice a1 n1 c1, .bool x.s]] w (Rng8 b (setG r k x) B w) := by
  obtain ⟨a, n, c, ps, h, rfl, hl⟩ := hp
  exact Set8_any w b r a n c ps h hl hx k a1 n1 c1 x ht hr1
theorem RN.limit (hp : RN w b r B) (hx : r.next ≤ 1000000000) (k : Int) : Calls Tryz.prog 20 #[.pointer (some ⟨b, 0, none⟩), .int .i64 k] w (Rng8 b (limitG r k) B w) := by
  obtain ⟨a, n, c, ps, h, rfl, hl⟩ := hp
  exact Limit8_any w b r a n c ps h hl hx k
theorem RN.clear (hp : RN w b r B) : Calls Tryz.prog 22 #[.pointer (some ⟨b, 0, none⟩)] w (Did8 b (clearG r) B w) := by
  obtain ⟨a, n, c, ps, h, rfl, hl⟩ := hp
  exact Clear8_any w b r a n c ps h
end
/-- What does returns: the ring and the reference's that go on. -/
def Does8Ret (w0 w : World) (B : List Nat) (a : Option Addr) (n : Nat) (us : List LnA) (ap : Option Addr) (np : Nat) (k : Nat) (e : Ending) (w' : World) : Prop :=
  ∃ b r B' a' n' c' us' ap' np' cp', e = .returned (.tuple #[.pointer (some ⟨b, 0, none⟩), .agg #[.int .i64 (r.limit : Nat), .int .i64 (r.places : Nat), .int .i64 (r.first : Nat), .slice a' n' c', .slice ap' np' cp'], .bool true]) ∧ HR w0 w' b r B' a' n' c' us' ap' np' cp' ∧ r.next ≤ k ∧ Kept B w w' ∧ ∀ y, (y ∈ B' ∨ y ∈ blkN a' n' ∨ y ∈ blks us' ∨ y ∈ blkN ap' np') → (y ∈ B ∨ y ∈ blkN a n ∨ y ∈ blks us ∨ y ∈ blkN ap np) ∨ w.heap.size ≤ y
end Go.Proofs.YtnkddhmhjnhgcaaGreatDoor
namespace Go.Proofs.YtnkddhmhjnhgcaaGreatDoor
open Go.RowKit
set_option linter.unusedVariables false
set_option linter.unusedSimpArgs false
set_option maxRecDepth 100000

set_option maxHeartbeats 20000000 in
theorem does8Push (w0 w : World) (b : Nat) (r : Rg) (B : List Nat) (a : Option Addr) (n c : Nat) (us : List LnA) (ap : Option Addr) (np cp : Nat) (h : HR w0 w b r B a n c us ap np cp) (hw2 : 2 ≤ w0.heap.size) (u : AcA) (l : List Cl) (hr : Rd w u.a u.n 16 (cellsV l)) (huc : u.n ≤ u.c) (hum : u.c ≤ maxLen) (hun : u.n ≤ 20) (k : Nat) (hk : r.next ≤ k) (hk9 : k ≤ 1000) (hwh : u.wh = 0) :
    Calls Tryz.prog 8 #[.pointer (some ⟨b, 0, none⟩), .agg #[.int .i64 (r.limit : Nat), .int .i64 (r.places : Nat), .int .i64 (r.first : Nat), .slice a n c, .slice ap np cp], .agg #[.int .i64 u.wh, .int .i64 u.nm, .int .i64 u.to, .slice u.a u.n u.c, .bool u.s]] w (Does8Ret w0 w B a n us ap np (k + 1)) := by
  obtain ⟨W0, hW0⟩ : ∃ z : World, z = ((w.alloc (.cells #[.int .i64 (r.limit : Nat), .int .i64 (r.places : Nat), .int .i64 (r.first : Nat), .slice a n c, .slice ap np cp] 33)).alloc (.cells #[.int .i64 u.wh, .int .i64 u.nm, .int .i64 u.to, .slice u.a u.n u.c, .bool u.s] 38)).alloc (.cells #[.int .i64 0, .int .i64 0, .int .i64 0, .slice none 0 0, .slice none 0 0] 33) := ⟨_, rfl⟩
  have hk0 : Kept [] w W0 := by rw [hW0]; exact (((Kept.refl [] w).alloc _).alloc _).alloc _
  have hbs : Hid (RgIn W0 w.heap.size (r.limit : Nat) (r.places : Nat) (r.first : Nat) a n c ap np cp) := hide (by rw [hW0]; exact (RgIn.new w (r.limit : Nat) (r.places : Nat) (r.first : Nat) a n c ap np cp).kept (((Kept.refl [] _).alloc _).alloc _) (by simp))
  have hba : Hid (AcIn W0 (w.heap.size + 1) u) := hide (by rw [hW0]; exact AcIn.kept (heap_new_at (by simp)) ((Kept.refl [] _).alloc _) (by simp))
  have hbz : Hid (RgIn W0 (w.heap.size + 1 + 1) 0 0 0 none 0 0 none 0 0) := hide (by rw [hW0]; exact heap_new_at (by simp))
  have hs0 : w.heap.size + 1 + 1 < W0.heap.size := hbz.out.lt
  have hH := hide h
  have hR := hide (hr.kept hk0 (by simp))
  have hBlt := hide h.rn.lt
  have hNlt := hide (Rd.ltK (by decide) h.lr.rd)
  have hVlt := hide h.lr.at'.lt
  have hPlt := hide (Rd.ltK (by decide) h.pr)
  have hok := hide h.rn.ok
  have hll := hide h.lr.len
  have hpl := hide (h.pr.rowLen rowPa)
  have hw0s := hide h.kp.size
  have hkk := hide hk
  have hk99 := hide hk9
  have hn9 := hide (show n ≤ 1000 by have h1 := hll.out; have h2 : r.next = r.first + r.ls.length := rfl; omega)
  have hf9 := hide (show r.first ≤ 1000 by have h2 : r.next = r.first + r.ls.length := rfl; omega)
  have hx9 := hide (show r.next ≤ 1000000000 by omega)
  have hp9 := hide (show np ≤ 9000000 by
    have h1 := pages_most hok.out
    have h2 := hpl.out
    have h3 : r.limit / r.places ≤ r.limit := Nat.div_le_self _ _
    have h4 := hok.out.l2
    omega)
  have huc' := hide huc
  have hum' := hide hum
  clear h hr hk hk9 huc hum
  obtain ⟨r', z, hps⟩ : ∃ r' z, pushG r ⟨l, u.s⟩ = (r', z) := ⟨_, _, rfl⟩
  have hnx := hide (show r'.next ≤ k + 1 by have h1 := pushG_next r ⟨l, u.s⟩; rw [hps] at h1; have h2 := hkk.out; simp only at h1; omega)
  have hps := hide hps
  have e0 : (u.wh == 0) = true := by simp [hwh]
  replace hwh := hide hwh
  go_enter Tryz.func8, Tryz.ntmps8
  go_upto_region 1 with fail
  rw [← hW0]
  clear hW0
  obtain ⟨q0, q1, q2, q3, q4⟩ := hba.out.at
  go_wp2_with fail
  refine (rCopy_any u.a u.n u.c u.s l W0 hR.out (by omega)).mono ?_
  rintro e w1 ⟨ao, no, co, rfl, hoo, hoa, hob, j1⟩
  have hno : no ≤ 1000 := by have h1 := hoo.rd.clen; have h2 := hR.out.clen; omega
  go_upto_region 2 with (refine wpList_store_lin rfl rfl rfl w1.heap.size rfl (LinIn.new w1 none 0 0 false) ao no co u.s rfl ?_; intro w2 hb9 j2)
  have hj2 : Kept [] w1 w2 := ((Kept.refl [] w1).alloc (.cells #[.slice none 0 0, .bool false] 36)).trans j2 (by simp)
  have hk2 : Kept [] W0 w2 := j1.trans hj2 (by simp)
  have hw12 := hide hb9.lt
  have ho2 := hide (hoo.kept hj2 (by simp))
  have hoge := hide (fun y (hy : y ∈ blk ao) => hoo.ge y hy)
  have hb9 := hide hb9
  have hs1 := hide j1.size
  have hs2 := hide hk2.size
  clear q0 q1 q2 q3 q4 hoo j2 hj2 j1
  have hH2 := hide (hH.out.keep (hk0.trans hk2 (by simp)))
  obtain ⟨q0, q1, q2, q3, q4⟩ := (hba.out.kept hk2 (by simp)).at
  obtain ⟨p0, p1, p2, p3, p4⟩ := (hbs.out.kept hk2 (by simp)).at
  go_wp2_with fail
  have hC := rPush8_any r ⟨l, u.s⟩ ⟨u.a, u.n, u.c, u.s⟩ a n c us ap np cp w2 hH2.out.lr hH2.out.pr ⟨hR.out.kept hk2 (by simp), rfl, huc'.out, hum'.out⟩ hH2.out.nc hH2.out.cm hH2.out.pc hH2.out.pm hok.out.sum hok.out.full (by have := hn9.out; omega) hp9.out (by have := hf9.out; omega) hok.out.p1 hok.out.p2
  rw [hps.out] at hC
  try dsimp only at hC
  unfold RgGive2 at hC
  refine hC.mono ?_
  rintro e w3 ⟨a3, n3, c3, us3, ap3, np3, cp3, rfl, g1, g2, g3, g4, g5, g6, j3, g7, g8, g9⟩
  clear hC p0 p1 p2 p3 p4 q0 q1 q2 q3 q4
  go_upto_region 5 with (refine wpList_store_rg rfl rfl rfl w3.heap.size rfl (RgIn.new w3 0 0 0 none 0 0 none 0 0) (r'.limit : Nat) (r'.places : Nat) (r'.first : Nat) a3 n3 c3 ap3 np3 cp3 rfl ?_; intro w4 hb10 j4)
  have hj4 : Kept [] w3 w4 := ((Kept.refl [] w3).alloc (.cells #[.int .i64 0, .int .i64 0, .int .i64 0, .slice none 0 0, .slice none 0 0] 33)).trans j4 (by simp)
  have hk24 : Kept [] w2 w4 := j3.trans hj4 (by simp)
  have hk4 := hk2.trans hk24 (by simp)
  have hs34 := hide j3.size
  have hs4 := hide hb10.lt
  have hb10 := hide hb10
  have j3 := hide j3
  have hj4 := hide hj4
  have g1 := hide g1
  have g2 := hide g2
  have g3 := hide g3
  have g4 := hide g4
  have g5 := hide g5
  have g6 := hide g6
  have g7 := hide g7
  have g8 := hide g8
  have g9 := hide g9
  clear j4
  have hP0 := fun (want : Int) (hv : (if z = 0 then ((r.next : Nat) : Int) else 0) = want) wa (hka : Kept [] w4 wa) => pushes8_any b r B ao no co ⟨l, u.s⟩ want z true wa ((hH2.out.rn.kept hk24 (by simp)).kept hka (by simp)) hx9.out (hH2.out.tb.kept (hk24.trans hka (by simp))) ((ho2.out.kept hk24 (by simp)).kept hka (by simp)).rd (fun y hy => by have := hH2.out.ge y hy; omega) (fun y hy hm => by have h1 := hBlt.out y hm; have h3 := (hoge.out y (blkN_sub' hy)).1; omega) (by rw [hps.out]; simp [hv])
  rw [hps.out] at hP0
  try dsimp only at hP0
  have hP0 := hide hP0
  by_cases hz : z = 0
  · have hwant := hide (show (if z = 0 then ((r.next : Nat) : Int) else 0) = ((r.first + n : Nat) : Int) by rw [if_pos hz]; have h1 := hll.out; have h2 : r.next = r.first + r.ls.length := rfl; omega)
    subst hz
    go_upto_region 7 with fail
    obtain ⟨p0, p1, p2, p3, p4⟩ := (hbs.out.kept hk4 (by simp)).at
    go_wp2_with fail
    refine (rNext8_any (r.limit : Nat) (r.places : Nat) r.first a n c ap np cp w4 (by have := hn9.out; have := hf9.out; omega)).mono ?_
    rintro e w4b ⟨rfl, hkb⟩
    clear p0 p1 p2 p3 p4
    obtain ⟨p0, p1⟩ := ((hb9.out.kept hk24 (by simp)).kept hkb (by simp)).at
    go_wp2_with fail
    refine (hP0.out _ hwant.out _ hkb).mono ?_
    rintro e w5 ⟨rfl, B5, h5a, k5, h5c'⟩
    have h5c : ∀ y ∈ B5, y ∈ B ∨ w4.heap.size ≤ y := fun y hy => (h5c' y hy).imp id (fun q => by have := hkb.size; omega)
    have k45 : Kept B w4 w5 := (hkb.mono (by simp)).trans k5 (fun y hy => .inl hy)
    have hb95 := hide ((hb9.out.kept hk24 (by simp)).kept k45 (fun hm => by have := hBlt.out _ hm; have := hs1.out; omega))
    have ho5 := (ho2.out.kept hk24 (by simp)).kept k45 (fun y hy hm => by have h1 := hBlt.out y hm; have h3 := (hoge.out y hy).1; omega)
    have hB5 := h5c
    have h5b := k45
    have hH5 := hide (HR.both (r' := r') hH2.out hw2 j3.out g1.out g3.out g4.out g2.out g5.out g6.out g7.out g8.out g9.out hj4.out h5a h5b h5c)
    have hO : Hid (∀ y, (y ∈ B5 ∨ y ∈ blkN a3 n3 ∨ y ∈ blks us3 ∨ y ∈ blkN ap3 np3) → y < w.heap.size ∨ w2.heap.size ≤ y) := hide (by
      have h24 := hk24.size
      rintro y (hy | hy | hy | hy)
      · exact (hB5 y hy).imp (hBlt.out y) (fun q => by omega)
      · exact (g7.out y hy).imp (hNlt.out y) id
      · exact (g9.out y hy).imp (hVlt.out y) id
      · exact (g8.out y hy).imp (hPlt.out y) id)
    clear p0 p1
    obtain ⟨p0, p1⟩ := hb95.out.at
    go_wp2_with fail
    refine (Stain_any ao no co W0.heap.size l w5 ho5 hno).mono ?_
    rintro e w6 ⟨rfl, j6⟩
    have hSr : ∀ y ∈ blk ao, w.heap.size ≤ y ∧ y < w2.heap.size := fun y hy => by have h1 := hoge.out y hy; have h3 := hw12.out; have h4 := hk0.size; omega
    have hH6 := hide (hH5.out.mid hw2 j6 hw0s.out hSr hO.out)
    have hk46 : Kept (B ++ blk ao) w4 w6 := (k45.mono (fun y hy => .inl (List.mem_append_left _ hy))).trans j6 (fun y hy => .inl (List.mem_append_right _ hy))
    have h10S : w3.heap.size ∉ B ++ blk ao := fun hm => by have h4 := hs34.out; have h5 := hs2.out; have h6 := hw12.out; rcases List.mem_append.1 hm with hm | hm; have := hBlt.out _ hm; omega; have := (hoge.out _ hm).2; omega
    have hzS : w.heap.size + 1 + 1 ∉ B ++ blk ao := fun hm => by rcases List.mem_append.1 hm with hm | hm; have := hBlt.out _ hm; omega; have := (hoge.out _ hm).1; omega
    have hb106 := hide (hb10.out.kept hk46 h10S)
    have hbz6 := hide ((hbz.out.kept hk4 (by simp)).kept hk46 hzS)
    clear p0 p1
    go_upto_region 10 with fail
    have hne : w3.heap.size ≠ w.heap.size + 1 + 1 := by have := hs2.out; have := hs34.out; omega
    refine wp_region_held_drew (S := (fun W => RgIn W (w3.heap.size) (r'.limit : Nat) (r'.places : Nat) (r'.first : Nat) a3 n3 c3 ap3 np3 cp3)) (by kernel_rfl) ?_ (fun hHeld => ?_)
    · (try dsimp only); (first | exact hS9 | exact hb106.out.kept (Kept.refl [] w6).drew (by simp))
    refine wpAnyH_take (i := 0) (v := ?_) rfl (by kernel_rfl) (by kernel_rfl) (by kernel_rfl) (fun _ _ _ h => h) (Or.inl ⟨by rfl, ?_⟩) (by assumption) ?_
    rotate_left
    · (intro wq hSw; (try dsimp only at hSw); go_simp; try with_reducible rfl)
    try simp only [Act.put, List.getElem_toArray, List.getElem_cons_zero, List.setIfInBounds_toArray, List.set_cons_zero, List.set_cons_succ]
    refine wpAnyH_take (i := 1) (v := (.agg #[.int .i64 (r'.limit : Nat), .int .i64 (r'.places : Nat), .int .i64 (r'.first : Nat), .slice a3 n3 c3, .slice ap3 np3 cp3])) rfl (by kernel_rfl) (by kernel_rfl) (by kernel_rfl) (fun _ _ _ h => h) (yieldsIf_load_mid (by rfl) 33 _ rfl (w3.heap.size) 0 rfl (rgL (r'.limit : Nat) (r'.places : Nat) (r'.first : Nat) a3 n3 c3 ap3 np3 cp3) _ (fun _ h => h.range) Tryz.underlying33 rfl (by kernel_rfl)) (by assumption) ?_
    try simp only [Act.put, List.getElem_toArray, List.getElem_cons_succ, List.getElem_cons_zero, List.setIfInBounds_toArray, List.set_cons_zero, List.set_cons_succ]
    refine wpAnyH_take (i := 2) (v := ?_) rfl (by kernel_rfl) (by kernel_rfl) (by kernel_rfl) (fun _ _ _ h => h) (Or.inl ⟨by rfl, ?_⟩) (by assumption) ?_
    rotate_left
    · (intro wq hSw; (try dsimp only at hSw); go_simp; try with_reducible rfl)
    try simp only [Act.put, List.getElem_toArray, List.getElem_cons_succ, List.getElem_cons_zero, List.setIfInBounds_toArray, List.set_cons_zero, List.set_cons_succ]
    refine wpAnyH_take (i := 3) (v := ?_) rfl (by kernel_rfl) (by kernel_rfl) (by kernel_rfl) (fun _ _ _ h => h) (Or.inl ⟨by rfl, ?_⟩) (by assumption) ?_
    rotate_left
    · (intro wq hSw; (try dsimp only at hSw); go_simp; try with_reducible rfl)
    try simp only [Act.put, List.getElem_toArray, List.getElem_cons_succ, List.getElem_cons_zero, List.setIfInBounds_toArray, List.set_cons_zero, List.set_cons_succ]
    refine wpAnyH_ready (rs := [4]) (by kernel_rfl) (by simp) ?_
    refine AllReadyH.cons rfl (fun K hK => ?_) AllReadyH.nil
    rw [if_pos (by rfl)]
    refine wp_store_rg rfl rfl (w.heap.size + 1 + 1) rfl (hbz6.out.kept (Kept.refl [] w6).drew (by simp)) (r'.limit : Nat) (r'.places : Nat) (r'.first : Nat) a3 n3 c3 ap3 np3 cp3 rfl ?_; intro w9 hb99 j9; have hS9 := (hb106.out.kept (Kept.refl [] w6).drew (by simp)).kept j9 (by simpa using hne)
    refine hK.out _ _ ?_ (fun hHeld => ?_)
    · (try dsimp only); (first | exact hS9 | exact hb106.out.kept (Kept.refl [] w6).drew (by simp))
    clear hK K
    try simp only [Act.put, List.getElem_toArray, List.getElem_cons_succ, List.getElem_cons_zero, List.setIfInBounds_toArray, List.set_cons_zero, List.set_cons_succ]
    refine wpAnyH_take (i := 5) (v := ?_) rfl (by kernel_rfl) (by kernel_rfl) (by kernel_rfl) (fun _ _ _ h => h) (Or.inl ⟨by rfl, ?_⟩) (by assumption) ?_
    rotate_left
    · (intro wq hSw; (try dsimp only at hSw); go_simp; try with_reducible rfl)
    try simp only [Act.put, List.getElem_toArray, List.getElem_cons_succ, List.getElem_cons_zero, List.setIfInBounds_toArray, List.set_cons_zero, List.set_cons_succ]
    refine wpAnyH_done (by kernel_rfl) ?_ _
    have hk69 : Kept [w.heap.size + 1 + 1] w6 w9 := (((Kept.refl [] w6).drew).mono (by simp)).trans j9 (fun y hy => .inl hy)
    have hKB : Kept B w w9 := (((((hk0.trans hk4 (by simp)).mono (by simp)).trans k45 (fun y hy => .inl hy)).trans j6 (fun y hy => .inr (hSr y hy).1))).trans hk69 (fun y hy => .inr (by simp at hy; omega))
    have hOO : ∀ y, (y ∈ B5 ∨ y ∈ blkN a3 n3 ∨ y ∈ blks us3 ∨ y ∈ blkN ap3 np3) → (y ∈ B ∨ y ∈ blkN a n ∨ y ∈ blks us ∨ y ∈ blkN ap np) ∨ w.heap.size ≤ y := by
      have h24 := hk24.size
      have h02 := hk2.size
      have h00 := hk0.size
      rintro y (hy | hy | hy | hy)
      · exact (hB5 y hy).imp .inl (fun q => by omega)
      · exact (g7.out y hy).imp (fun q => .inr (.inl q)) (fun q => by omega)
      · exact (g9.out y hy).imp (fun q => .inr (.inr (.inl q))) (fun q => by omega)
      · exact (g8.out y hy).imp (fun q => .inr (.inr (.inr q))) (fun q => by omega)
    go_wp2_with fail
    refine bodyPost_ret (results_does8 rfl rfl hb99 rfl rfl) rfl ?_
    exact ⟨b, r', B5, a3, n3, c3, us3, ap3, np3, cp3, rfl, hH6.out.mid hw2 hk69 hw0s.out (fun y hy => by simp at hy; have := hs2.out; omega) hO.out, hnx.out, hKB, hOO⟩
  · have hwant := hide (show (if z = 0 then ((r.next : Nat) : Int) else 0) = 0 by rw [if_neg hz])
    have hzb : (z == 0) = false := by simp [hz]
    have hkb : Kept [] w4 w4 := Kept.refl _ _
    obtain ⟨p0, p1⟩ := ((hb9.out.kept hk24 (by simp)).kept hkb (by simp)).at
    go_wp2_with fail
    refine (hP0.out _ hwant.out _ hkb).mono ?_
    rintro e w5 ⟨rfl, B5, h5a, k5, h5c'⟩
    have h5c : ∀ y ∈ B5, y ∈ B ∨ w4.heap.size ≤ y := fun y hy => (h5c' y hy).imp id (fun q => by have := hkb.size; omega)
    have k45 : Kept B w4 w5 := (hkb.mono (by simp)).trans k5 (fun y hy => .inl hy)
    have hb95 := hide ((hb9.out.kept hk24 (by simp)).kept k45 (fun hm => by have := hBlt.out _ hm; have := hs1.out; omega))
    have ho5 := (ho2.out.kept hk24 (by simp)).kept k45 (fun y hy hm => by have h1 := hBlt.out y hm; have h3 := (hoge.out y hy).1; omega)
    have hB5 := h5c
    have h5b := k45
    have hH5 := hide (HR.both (r' := r') hH2.out hw2 j3.out g1.out g3.out g4.out g2.out g5.out g6.out g7.out g8.out g9.out hj4.out h5a h5b h5c)
    have hO : Hid (∀ y, (y ∈ B5 ∨ y ∈ blkN a3 n3 ∨ y ∈ blks us3 ∨ y ∈ blkN ap3 np3) → y < w.heap.size ∨ w2.heap.size ≤ y) := hide (by
      have h24 := hk24.size
      rintro y (hy | hy | hy | hy)
      · exact (hB5 y hy).imp (hBlt.out y) (fun q => by omega)
      · exact (g7.out y hy).imp (hNlt.out y) id
      · exact (g9.out y hy).imp (hVlt.out y) id
      · exact (g8.out y hy).imp (hPlt.out y) id)
    clear p0 p1
    obtain ⟨p0, p1⟩ := hb95.out.at
    go_wp2_with fail
    refine (Stain_any ao no co W0.heap.size l w5 ho5 hno).mono ?_
    rintro e w6 ⟨rfl, j6⟩
    have hSr : ∀ y ∈ blk ao, w.heap.size ≤ y ∧ y < w2.heap.size := fun y hy => by have h1 := hoge.out y hy; have h3 := hw12.out; have h4 := hk0.size; omega
    have hH6 := hide (hH5.out.mid hw2 j6 hw0s.out hSr hO.out)
    have hk46 : Kept (B ++ blk ao) w4 w6 := (k45.mono (fun y hy => .inl (List.mem_append_left _ hy))).trans j6 (fun y hy => .inl (List.mem_append_right _ hy))
    have h10S : w3.heap.size ∉ B ++ blk ao := fun hm => by have h4 := hs34.out; have h5 := hs2.out; have h6 := hw12.out; rcases List.mem_append.1 hm with hm | hm; have := hBlt.out _ hm; omega; have := (hoge.out _ hm).2; omega
    have hzS : w.heap.size + 1 + 1 ∉ B ++ blk ao := fun hm => by rcases List.mem_append.1 hm with hm | hm; have := hBlt.out _ hm; omega; have := (hoge.out _ hm).1; omega
    have hb106 := hide (hb10.out.kept hk46 h10S)
    have hbz6 := hide ((hbz.out.kept hk4 (by simp)).kept hk46 hzS)
    clear p0 p1
    go_upto_region 10 with fail
    have hne : w3.heap.size ≠ w.heap.size + 1 + 1 := by have := hs2.out; have := hs34.out; omega
    refine wp_region_held_drew (S := (fun W => RgIn W (w3.heap.size) (r'.limit : Nat) (r'.places : Nat) (r'.first : Nat) a3 n3 c3 ap3 np3 cp3)) (by kernel_rfl) ?_ (fun hHeld => ?_)
    · (try dsimp only); (first | exact hS9 | exact hb106.out.kept (Kept.refl [] w6).drew (by simp))
    refine wpAnyH_take (i := 0) (v := ?_) rfl (by kernel_rfl) (by kernel_rfl) (by kernel_rfl) (fun _ _ _ h => h) (Or.inl ⟨by rfl, ?_⟩) (by assumption) ?_
    rotate_left
    · (intro wq hSw; (try dsimp only at hSw); go_simp; try with_reducible rfl)
    try simp only [Act.put, List.getElem_toArray, List.getElem_cons_zero, List.setIfInBounds_toArray, List.set_cons_zero, List.set_cons_succ]
    refine wpAnyH_take (i := 1) (v := (.agg #[.int .i64 (r'.limit : Nat), .int .i64 (r'.places : Nat), .int .i64 (r'.first : Nat), .slice a3 n3 c3, .slice ap3 np3 cp3])) rfl (by kernel_rfl) (by kernel_rfl) (by kernel_rfl) (fun _ _ _ h => h) (yieldsIf_load_mid (by rfl) 33 _ rfl (w3.heap.size) 0 rfl (rgL (r'.limit : Nat) (r'.places : Nat) (r'.first : Nat) a3 n3 c3 ap3 np3 cp3) _ (fun _ h => h.range) Tryz.underlying33 rfl (by kernel_rfl)) (by assumption) ?_
    try simp only [Act.put, List.getElem_toArray, List.getElem_cons_succ, List.getElem_cons_zero, List.setIfInBounds_toArray, List.set_cons_zero, List.set_cons_succ]
    refine wpAnyH_take (i := 2) (v := ?_) rfl (by kernel_rfl) (by kernel_rfl) (by kernel_rfl) (fun _ _ _ h => h) (Or.inl ⟨by rfl, ?_⟩) (by assumption) ?_
    rotate_left
    · (intro wq hSw; (try dsimp only at hSw); go_simp; try with_reducible rfl)
    try simp only [Act.put, List.getElem_toArray, List.getElem_cons_succ, List.getElem_cons_zero, List.setIfInBounds_toArray, List.set_cons_zero, List.set_cons_succ]
    refine wpAnyH_take (i := 3) (v := ?_) rfl (by kernel_rfl) (by kernel_rfl) (by kernel_rfl) (fun _ _ _ h => h) (Or.inl ⟨by rfl, ?_⟩) (by assumption) ?_
    rotate_left
    · (intro wq hSw; (try dsimp only at hSw); go_simp; try with_reducible rfl)
    try simp only [Act.put, List.getElem_toArray, List.getElem_cons_succ, List.getElem_cons_zero, List.setIfInBounds_toArray, List.set_cons_zero, List.set_cons_succ]
    refine wpAnyH_ready (rs := [4]) (by kernel_rfl) (by simp) ?_
    refine AllReadyH.cons rfl (fun K hK => ?_) AllReadyH.nil
    rw [if_pos (by rfl)]
    refine wp_store_rg rfl rfl (w.heap.size + 1 + 1) rfl (hbz6.out.kept (Kept.refl [] w6).drew (by simp)) (r'.limit : Nat) (r'.places : Nat) (r'.first : Nat) a3 n3 c3 ap3 np3 cp3 rfl ?_; intro w9 hb99 j9; have hS9 := (hb106.out.kept (Kept.refl [] w6).drew (by simp)).kept j9 (by simpa using hne)
    refine hK.out _ _ ?_ (fun hHeld => ?_)
    · (try dsimp only); (first | exact hS9 | exact hb106.out.kept (Kept.refl [] w6).drew (by simp))
    clear hK K
    try simp only [Act.put, List.getElem_toArray, List.getElem_cons_succ, List.getElem_cons_zero, List.setIfInBounds_toArray, List.set_cons_zero, List.set_cons_succ]
    refine wpAnyH_take (i := 5) (v := ?_) rfl (by kernel_rfl) (by kernel_rfl) (by kernel_rfl) (fun _ _ _ h => h) (Or.inl ⟨by rfl, ?_⟩) (by assumption) ?_
    rotate_left
    · (intro wq hSw; (try dsimp only at hSw); go_simp; try with_reducible rfl)
    try simp only [Act.put, List.getElem_toArray, List.getElem_cons_succ, List.getElem_cons_zero, List.setIfInBounds_toArray, List.set_cons_zero, List.set_cons_succ]
    refine wpAnyH_done (by kernel_rfl) ?_ _
    have hk69 : Kept [w.heap.size + 1 + 1] w6 w9 := (((Kept.refl [] w6).drew).mono (by simp)).trans j9 (fun y hy => .inl hy)
    have hKB : Kept B w w9 := (((((hk0.trans hk4 (by simp)).mono (by simp)).trans k45 (fun y hy => .inl hy)).trans j6 (fun y hy => .inr (hSr y hy).1))).trans hk69 (fun y hy => .inr (by simp at hy; omega))
    have hOO : ∀ y, (y ∈ B5 ∨ y ∈ blkN a3 n3 ∨ y ∈ blks us3 ∨ y ∈ blkN ap3 np3) → (y ∈ B ∨ y ∈ blkN a n ∨ y ∈ blks us ∨ y ∈ blkN ap np) ∨ w.heap.size ≤ y := by
      have h24 := hk24.size
      have h02 := hk2.size
      have h00 := hk0.size
      rintro y (hy | hy | hy | hy)
      · exact (hB5 y hy).imp .inl (fun q => by omega)
      · exact (g7.out y hy).imp (fun q => .inr (.inl q)) (fun q => by omega)
      · exact (g9.out y hy).imp (fun q => .inr (.inr (.inl q))) (fun q => by omega)
      · exact (g8.out y hy).imp (fun q => .inr (.inr (.inr q))) (fun q => by omega)
    go_wp2_with fail
    refine bodyPost_ret (results_does8 rfl rfl hb99 rfl rfl) rfl ?_
    exact ⟨b, r', B5, a3, n3, c3, us3, ap3, np3, cp3, rfl, hH6.out.mid hw2 hk69 hw0s.out (fun y hy => by simp at hy; have := hs2.out; omega) hO.out, hnx.out, hKB, hOO⟩
end Go.Proofs.YtnkddhmhjnhgcaaGreatDoor
namespace Go.Proofs.YtnkddhmhjnhgcaaGreatDoor
open Go.RowKit
set_option linter.unusedVariables false
set_option linter.unusedSimpArgs false
set_option maxRecDepth 100000

set_option maxHeartbeats 20000000 in
theorem does8Set (w0 w : World) (b : Nat) (r : Rg) (B : List Nat) (a : Option Addr) (n c : Nat) (us : List LnA) (ap : Option Addr) (np cp : Nat) (h : HR w0 w b r B a n c us ap np cp) (hw2 : 2 ≤ w0.heap.size) (u : AcA) (l : List Cl) (hr : Rd w u.a u.n 16 (cellsV l)) (huc : u.n ≤ u.c) (hum : u.c ≤ maxLen) (hun : u.n ≤ 20) (k : Nat) (hk : r.next ≤ k) (hk9 : k ≤ 1000) (hwh : u.wh = 2) :
    Calls Tryz.prog 8 #[.pointer (some ⟨b, 0, none⟩), .agg #[.int .i64 (r.limit : Nat), .int .i64 (r.places : Nat), .int .i64 (r.first : Nat), .slice a n c, .slice ap np cp], .agg #[.int .i64 u.wh, .int .i64 u.nm, .int .i64 u.to, .slice u.a u.n u.c, .bool u.s]] w (Does8Ret w0 w B a n us ap np (k + 1)) := by
  obtain ⟨W0, hW0⟩ : ∃ z : World, z = ((w.alloc (.cells #[.int .i64 (r.limit : Nat), .int .i64 (r.places : Nat), .int .i64 (r.first : Nat), .slice a n c, .slice ap np cp] 33)).alloc (.cells #[.int .i64 u.wh, .int .i64 u.nm, .int .i64 u.to, .slice u.a u.n u.c, .bool u.s] 38)).alloc (.cells #[.int .i64 0, .int .i64 0, .int .i64 0, .slice none 0 0, .slice none 0 0] 33) := ⟨_, rfl⟩
  have hk0 : Kept [] w W0 := by rw [hW0]; exact (((Kept.refl [] w).alloc _).alloc _).alloc _
  have hbs : Hid (RgIn W0 w.heap.size (r.limit : Nat) (r.places : Nat) (r.first : Nat) a n c ap np cp) := hide (by rw [hW0]; exact (RgIn.new w (r.limit : Nat) (r.places : Nat) (r.first : Nat) a n c ap np cp).kept (((Kept.refl [] _).alloc _).alloc _) (by simp))
  have hba : Hid (AcIn W0 (w.heap.size + 1) u) := hide (by rw [hW0]; exact AcIn.kept (heap_new_at (by simp)) ((Kept.refl [] _).alloc _) (by simp))
  have hbz : Hid (RgIn W0 (w.heap.size + 1 + 1) 0 0 0 none 0 0 none 0 0) := hide (by rw [hW0]; exact heap_new_at (by simp))
  have hs0 : w.heap.size + 1 + 1 < W0.heap.size := hbz.out.lt
  have hH := hide h
  have hR := hide (hr.kept hk0 (by simp))
  have hBlt := hide h.rn.lt
  have hNlt := hide (Rd.ltK (by decide) h.lr.rd)
  have hVlt := hide h.lr.at'.lt
  have hPlt := hide (Rd.ltK (by decide) h.pr)
  have hok := hide h.rn.ok
  have hll := hide h.lr.len
  have hpl := hide (h.pr.rowLen rowPa)
  have hw0s := hide h.kp.size
  have hkk := hide hk
  have hk99 := hide hk9
  have hn9 := hide (show n ≤ 1000 by have h1 := hll.out; have h2 : r.next = r.first + r.ls.length := rfl; omega)
  have hf9 := hide (show r.first ≤ 1000 by have h2 : r.next = r.first + r.ls.length := rfl; omega)
  have hx9 := hide (show r.next ≤ 1000000000 by omega)
  have hp9 := hide (show np ≤ 9000000 by
    have h1 := pages_most hok.out
    have h2 := hpl.out
    have h3 : r.limit / r.places ≤ r.limit := Nat.div_le_self _ _
    have h4 := hok.out.l2
    omega)
  have huc' := hide huc
  have hum' := hide hum
  clear h hr hk hk9 huc hum
  obtain ⟨r', z, hps⟩ : ∃ r' z, setG r u.nm ⟨l, u.s⟩ = (r', z) := ⟨_, _, rfl⟩
  have hnx := hide (show r'.next ≤ k + 1 by have h1 := setG_next r u.nm ⟨l, u.s⟩; rw [hps] at h1; have h2 := hkk.out; simp only at h1; omega)
  have hps := hide hps
  have e0 : (u.wh == 0) = false := by simp [hwh]
  have e1 : (u.wh == 1) = false := by simp [hwh]
  have e2 : (u.wh == 2) = true := by simp [hwh]
  replace hwh := hide hwh
  go_enter Tryz.func8, Tryz.ntmps8
  go_upto_region 1 with fail
  rw [← hW0]
  clear hW0
  obtain ⟨q0, q1, q2, q3, q4⟩ := hba.out.at
  go_wp2_with fail
  refine (rCopy_any u.a u.n u.c u.s l W0 hR.out (by omega)).mono ?_
  rintro e w1 ⟨ao, no, co, rfl, hoo, hoa, hob, j1⟩
  have hno : no ≤ 1000 := by have h1 := hoo.rd.clen; have h2 := hR.out.clen; omega
  go_upto_region 2 with (refine wpList_store_lin rfl rfl rfl w1.heap.size rfl (LinIn.new w1 none 0 0 false) ao no co u.s rfl ?_; intro w2 hb9 j2)
  have hj2 : Kept [] w1 w2 := ((Kept.refl [] w1).alloc (.cells #[.slice none 0 0, .bool false] 36)).trans j2 (by simp)
  have hk2 : Kept [] W0 w2 := j1.trans hj2 (by simp)
  have hw12 := hide hb9.lt
  have ho2 := hide (hoo.kept hj2 (by simp))
  have hoge := hide (fun y (hy : y ∈ blk ao) => hoo.ge y hy)
  have hb9 := hide hb9
  have hs1 := hide j1.size
  have hs2 := hide hk2.size
  clear q0 q1 q2 q3 q4 hoo j2 hj2 j1
  have hH2 := hide (hH.out.keep (hk0.trans hk2 (by simp)))
  obtain ⟨q0, q1, q2, q3, q4⟩ := (hba.out.kept hk2 (by simp)).at
  obtain ⟨p0, p1, p2, p3, p4⟩ := (hbs.out.kept hk2 (by simp)).at
  go_wp2_with fail
  have hC := rSet8_any r u.nm ⟨l, u.s⟩ ⟨u.a, u.n, u.c, u.s⟩ a n c us ap np cp w2 hH2.out.lr hH2.out.pr ⟨hR.out.kept hk2 (by simp), rfl, huc'.out, hum'.out⟩ hH2.out.nc hH2.out.cm hH2.out.pc hH2.out.pm (by have := hn9.out; omega) (by have := hp9.out; omega) (by have := hn9.out; have := hf9.out; omega)
  rw [hps.out] at hC
  try dsimp only at hC
  unfold RgGive2 at hC
  refine hC.mono ?_
  rintro e w3 ⟨a3, n3, c3, us3, ap3, np3, cp3, rfl, g1, g2, g3, g4, g5, g6, j3, g7, g8, g9⟩
  clear hC p0 p1 p2 p3 p4 q0 q1 q2 q3 q4
  go_upto_region 16 with (refine wpList_store_rg rfl rfl rfl w3.heap.size rfl (RgIn.new w3 0 0 0 none 0 0 none 0 0) (r'.limit : Nat) (r'.places : Nat) (r'.first : Nat) a3 n3 c3 ap3 np3 cp3 rfl ?_; intro w4 hb10 j4)
  have hj4 : Kept [] w3 w4 := ((Kept.refl [] w3).alloc (.cells #[.int .i64 0, .int .i64 0, .int .i64 0, .slice none 0 0, .slice none 0 0] 33)).trans j4 (by simp)
  have hk24 : Kept [] w2 w4 := j3.trans hj4 (by simp)
  have hk4 := hk2.trans hk24 (by simp)
  have hs34 := hide j3.size
  have hs4 := hide hb10.lt
  have hb10 := hide hb10
  have j3 := hide j3
  have hj4 := hide hj4
  have g1 := hide g1
  have g2 := hide g2
  have g3 := hide g3
  have g4 := hide g4
  have g5 := hide g5
  have g6 := hide g6
  have g7 := hide g7
  have g8 := hide g8
  have g9 := hide g9
  clear j4
  have hP0 := RN.set (hH2.out.rn.kept hk24 (by simp)) hx9.out u.nm ao no co ⟨l, u.s⟩ (hH2.out.tb.kept hk24) (ho2.out.kept hk24 (by simp)).rd
  unfold Rng8 at hP0
  rw [hps.out] at hP0
  try dsimp only at hP0
  have hP0 := hide hP0
  obtain ⟨q0, q1, q2, q3, q4⟩ := (hba.out.kept hk4 (by simp)).at
  obtain ⟨p0, p1⟩ := (hb9.out.kept hk24 (by simp)).at
  go_wp2_with fail
  refine hP0.out.mono ?_
  rintro e w5 ⟨B5, rfl, h5a, h5b, h5c⟩
  clear q0 q1 q2 q3 q4
  have k45 := h5b
  have hB5 := h5c
  have hb95 := hide ((hb9.out.kept hk24 (by simp)).kept k45 (fun hm => by have := hBlt.out _ hm; have := hs1.out; omega))
  have ho5 := (ho2.out.kept hk24 (by simp)).kept k45 (fun y hy hm => by have h1 := hBlt.out y hm; have h3 := (hoge.out y hy).1; omega)
  have hH5 := hide (HR.both (r' := r') hH2.out hw2 j3.out g1.out g3.out g4.out g2.out g5.out g6.out g7.out g8.out g9.out hj4.out h5a h5b h5c)
  have hO : Hid (∀ y, (y ∈ B5 ∨ y ∈ blkN a3 n3 ∨ y ∈ blks us3 ∨ y ∈ blkN ap3 np3) → y < w.heap.size ∨ w2.heap.size ≤ y) := hide (by
    have h24 := hk24.size
    rintro y (hy | hy | hy | hy)
    · exact (hB5 y hy).imp (hBlt.out y) (fun q => by omega)
    · exact (g7.out y hy).imp (hNlt.out y) id
    · exact (g9.out y hy).imp (hVlt.out y) id
    · exact (g8.out y hy).imp (hPlt.out y) id)
  clear p0 p1
  obtain ⟨p0, p1⟩ := hb95.out.at
  go_wp2_with fail
  refine (Stain_any ao no co W0.heap.size l w5 ho5 hno).mono ?_
  rintro e w6 ⟨rfl, j6⟩
  have hSr : ∀ y ∈ blk ao, w.heap.size ≤ y ∧ y < w2.heap.size := fun y hy => by have h1 := hoge.out y hy; have h3 := hw12.out; have h4 := hk0.size; omega
  have hH6 := hide (hH5.out.mid hw2 j6 hw0s.out hSr hO.out)
  have hk46 : Kept (B ++ blk ao) w4 w6 := (k45.mono (fun y hy => .inl (List.mem_append_left _ hy))).trans j6 (fun y hy => .inl (List.mem_append_right _ hy))
  have h10S : w3.heap.size ∉ B ++ blk ao := fun hm => by have h4 := hs34.out; have h5 := hs2.out; have h6 := hw12.out; rcases List.mem_append.1 hm with hm | hm; have := hBlt.out _ hm; omega; have := (hoge.out _ hm).2; omega
  have hzS : w.heap.size + 1 + 1 ∉ B ++ blk ao := fun hm => by rcases List.mem_append.1 hm with hm | hm; have := hBlt.out _ hm; omega; have := (hoge.out _ hm).1; omega
  have hb106 := hide (hb10.out.kept hk46 h10S)
  have hbz6 := hide ((hbz.out.kept hk4 (by simp)).kept hk46 hzS)
  clear p0 p1
  go_upto_region 18 with fail
  have hne : w3.heap.size ≠ w.heap.size + 1 + 1 := by have := hs2.out; have := hs34.out; omega
  refine wp_region_held_drew (S := (fun W => RgIn W (w3.heap.size) (r'.limit : Nat) (r'.places : Nat) (r'.first : Nat) a3 n3 c3 ap3 np3 cp3)) (by kernel_rfl) ?_ (fun hHeld => ?_)
  · (try dsimp only); (first | exact hS9 | exact hb106.out.kept (Kept.refl [] w6).drew (by simp))
  refine wpAnyH_take (i := 0) (v := ?_) rfl (by kernel_rfl) (by kernel_rfl) (by kernel_rfl) (fun _ _ _ h => h) (Or.inl ⟨by rfl, ?_⟩) (by assumption) ?_
  rotate_left
  · (intro wq hSw; (try dsimp only at hSw); go_simp; try with_reducible rfl)
  try simp only [Act.put, List.getElem_toArray, List.getElem_cons_zero, List.setIfInBounds_toArray, List.set_cons_zero, List.set_cons_succ]
  refine wpAnyH_take (i := 1) (v := (.agg #[.int .i64 (r'.limit : Nat), .int .i64 (r'.places : Nat), .int .i64 (r'.first : Nat), .slice a3 n3 c3, .slice ap3 np3 cp3])) rfl (by kernel_rfl) (by kernel_rfl) (by kernel_rfl) (fun _ _ _ h => h) (yieldsIf_load_mid (by rfl) 33 _ rfl (w3.heap.size) 0 rfl (rgL (r'.limit : Nat) (r'.places : Nat) (r'.first : Nat) a3 n3 c3 ap3 np3 cp3) _ (fun _ h => h.range) Tryz.underlying33 rfl (by kernel_rfl)) (by assumption) ?_
  try simp only [Act.put, List.getElem_toArray, List.getElem_cons_succ, List.getElem_cons_zero, List.setIfInBounds_toArray, List.set_cons_zero, List.set_cons_succ]
  refine wpAnyH_take (i := 2) (v := ?_) rfl (by kernel_rfl) (by kernel_rfl) (by kernel_rfl) (fun _ _ _ h => h) (Or.inl ⟨by rfl, ?_⟩) (by assumption) ?_
  rotate_left
  · (intro wq hSw; (try dsimp only at hSw); go_simp; try with_reducible rfl)
  try simp only [Act.put, List.getElem_toArray, List.getElem_cons_succ, List.getElem_cons_zero, List.setIfInBounds_toArray, List.set_cons_zero, List.set_cons_succ]
  refine wpAnyH_take (i := 3) (v := ?_) rfl (by kernel_rfl) (by kernel_rfl) (by kernel_rfl) (fun _ _ _ h => h) (Or.inl ⟨by rfl, ?_⟩) (by assumption) ?_
  rotate_left
  · (intro wq hSw; (try dsimp only at hSw); go_simp; try with_reducible rfl)
  try simp only [Act.put, List.getElem_toArray, List.getElem_cons_succ, List.getElem_cons_zero, List.setIfInBounds_toArray, List.set_cons_zero, List.set_cons_succ]
  refine wpAnyH_take (i := 4) (v := ?_) rfl (by kernel_rfl) (by kernel_rfl) (by kernel_rfl) (fun _ _ _ h => h) (Or.inl ⟨by rfl, ?_⟩) (by assumption) ?_
  rotate_left
  · (intro wq hSw; (try dsimp only at hSw); go_simp; try with_reducible rfl)
  try simp only [Act.put, List.getElem_toArray, List.getElem_cons_succ, List.getElem_cons_zero, List.setIfInBounds_toArray, List.set_cons_zero, List.set_cons_succ]
  refine wpAnyH_take (i := 5) (v := ?_) rfl (by kernel_rfl) (by kernel_rfl) (by kernel_rfl) (fun _ _ _ h => h) (Or.inl ⟨by rfl, ?_⟩) (by assumption) ?_
  rotate_left
  · (intro wq hSw; (try dsimp only at hSw); go_simp; try with_reducible rfl)
  try simp only [Act.put, List.getElem_toArray, List.getElem_cons_succ, List.getElem_cons_zero, List.setIfInBounds_toArray, List.set_cons_zero, List.set_cons_succ]
  refine wpAnyH_ready (rs := [6]) (by kernel_rfl) (by simp) ?_
  refine AllReadyH.cons rfl (fun K hK => ?_) AllReadyH.nil
  rw [if_pos (by rfl)]
  refine wp_store_rg rfl rfl (w.heap.size + 1 + 1) rfl (hbz6.out.kept (Kept.refl [] w6).drew (by simp)) (r'.limit : Nat) (r'.places : Nat) (r'.first : Nat) a3 n3 c3 ap3 np3 cp3 rfl ?_; intro w9 hb99 j9; have hS9 := (hb106.out.kept (Kept.refl [] w6).drew (by simp)).kept j9 (by simpa using hne)
  refine hK.out _ _ ?_ (fun hHeld => ?_)
  · (try dsimp only); (first | exact hS9 | exact hb106.out.kept (Kept.refl [] w6).drew (by simp))
  clear hK K
  try simp only [Act.put, List.getElem_toArray, List.getElem_cons_succ, List.getElem_cons_zero, List.setIfInBounds_toArray, List.set_cons_zero, List.set_cons_succ]
  refine wpAnyH_take (i := 7) (v := ?_) rfl (by kernel_rfl) (by kernel_rfl) (by kernel_rfl) (fun _ _ _ h => h) (Or.inl ⟨by rfl, ?_⟩) (by assumption) ?_
  rotate_left
  · (intro wq hSw; (try dsimp only at hSw); go_simp; try with_reducible rfl)
  try simp only [Act.put, List.getElem_toArray, List.getElem_cons_succ, List.getElem_cons_zero, List.setIfInBounds_toArray, List.set_cons_zero, List.set_cons_succ]
  refine wpAnyH_done (by kernel_rfl) ?_ _
  have hk69 : Kept [w.heap.size + 1 + 1] w6 w9 := (((Kept.refl [] w6).drew).mono (by simp)).trans j9 (fun y hy => .inl hy)
  have hKB : Kept B w w9 := (((((hk0.trans hk4 (by simp)).mono (by simp)).trans k45 (fun y hy => .inl hy)).trans j6 (fun y hy => .inr (hSr y hy).1))).trans hk69 (fun y hy => .inr (by simp at hy; omega))
  have hOO : ∀ y, (y ∈ B5 ∨ y ∈ blkN a3 n3 ∨ y ∈ blks us3 ∨ y ∈ blkN ap3 np3) → (y ∈ B ∨ y ∈ blkN a n ∨ y ∈ blks us ∨ y ∈ blkN ap np) ∨ w.heap.size ≤ y := by
    have h24 := hk24.size
    have h02 := hk2.size
    have h00 := hk0.size
    rintro y (hy | hy | hy | hy)
    · exact (hB5 y hy).imp .inl (fun q => by omega)
    · exact (g7.out y hy).imp (fun q => .inr (.inl q)) (fun q => by omega)
    · exact (g9.out y hy).imp (fun q => .inr (.inr (.inl q))) (fun q => by omega)
    · exact (g8.out y hy).imp (fun q => .inr (.inr (.inr q))) (fun q => by omega)
  go_wp2_with fail
  refine bodyPost_ret (results_does8 rfl rfl hb99 rfl rfl) rfl ?_
  exact ⟨b, r', B5, a3, n3, c3, us3, ap3, np3, cp3, rfl, hH6.out.mid hw2 hk69 hw0s.out (fun y hy => by simp at hy; have := hs2.out; omega) hO.out, hnx.out, hKB, hOO⟩
end Go.Proofs.YtnkddhmhjnhgcaaGreatDoor
namespace Go.Proofs.YtnkddhmhjnhgcaaGreatDoor
open Go.RowKit
set_option linter.unusedVariables false
set_option linter.unusedSimpArgs false
set_option maxRecDepth 100000

set_option maxHeartbeats 20000000 in
theorem does8Limit (w0 w : World) (b : Nat) (r : Rg) (B : List Nat) (a : Option Addr) (n c : Nat) (us : List LnA) (ap : Option Addr) (np cp : Nat) (h : HR w0 w b r B a n c us ap np cp) (hw2 : 2 ≤ w0.heap.size) (u : AcA) (l : List Cl) (hr : Rd w u.a u.n 16 (cellsV l)) (huc : u.n ≤ u.c) (hum : u.c ≤ maxLen) (hun : u.n ≤ 20) (k : Nat) (hk : r.next ≤ k) (hk9 : k ≤ 1000) (hwh : u.wh = 3) :
    Calls Tryz.prog 8 #[.pointer (some ⟨b, 0, none⟩), .agg #[.int .i64 (r.limit : Nat), .int .i64 (r.places : Nat), .int .i64 (r.first : Nat), .slice a n c, .slice ap np cp], .agg #[.int .i64 u.wh, .int .i64 u.nm, .int .i64 u.to, .slice u.a u.n u.c, .bool u.s]] w (Does8Ret w0 w B a n us ap np (k + 1)) := by
  obtain ⟨W0, hW0⟩ : ∃ z : World, z = ((w.alloc (.cells #[.int .i64 (r.limit : Nat), .int .i64 (r.places : Nat), .int .i64 (r.first : Nat), .slice a n c, .slice ap np cp] 33)).alloc (.cells #[.int .i64 u.wh, .int .i64 u.nm, .int .i64 u.to, .slice u.a u.n u.c, .bool u.s] 38)).alloc (.cells #[.int .i64 0, .int .i64 0, .int .i64 0, .slice none 0 0, .slice none 0 0] 33) := ⟨_, rfl⟩
  have hk0 : Kept [] w W0 := by rw [hW0]; exact (((Kept.refl [] w).alloc _).alloc _).alloc _
  have hbs : Hid (RgIn W0 w.heap.size (r.limit : Nat) (r.places : Nat) (r.first : Nat) a n c ap np cp) := hide (by rw [hW0]; exact (RgIn.new w (r.limit : Nat) (r.places : Nat) (r.first : Nat) a n c ap np cp).kept (((Kept.refl [] _).alloc _).alloc _) (by simp))
  have hba : Hid (AcIn W0 (w.heap.size + 1) u) := hide (by rw [hW0]; exact AcIn.kept (heap_new_at (by simp)) ((Kept.refl [] _).alloc _) (by simp))
  have hbz : Hid (RgIn W0 (w.heap.size + 1 + 1) 0 0 0 none 0 0 none 0 0) := hide (by rw [hW0]; exact heap_new_at (by simp))
  have hs0 : w.heap.size + 1 + 1 < W0.heap.size := hbz.out.lt
  have hH := hide h
  have hR := hide (hr.kept hk0 (by simp))
  have hBlt := hide h.rn.lt
  have hNlt := hide (Rd.ltK (by decide) h.lr.rd)
  have hVlt := hide h.lr.at'.lt
  have hPlt := hide (Rd.ltK (by decide) h.pr)
  have hok := hide h.rn.ok
  have hll := hide h.lr.len
  have hpl := hide (h.pr.rowLen rowPa)
  have hw0s := hide h.kp.size
  have hkk := hide hk
  have hk99 := hide hk9
  have hn9 := hide (show n ≤ 1000 by have h1 := hll.out; have h2 : r.next = r.first + r.ls.length := rfl; omega)
  have hf9 := hide (show r.first ≤ 1000 by have h2 : r.next = r.first + r.ls.length := rfl; omega)
  have hx9 := hide (show r.next ≤ 1000000000 by omega)
  have hp9 := hide (show np ≤ 9000000 by
    have h1 := pages_most hok.out
    have h2 := hpl.out
    have h3 : r.limit / r.places ≤ r.limit := Nat.div_le_self _ _
    have h4 := hok.out.l2
    omega)
  have huc' := hide huc
  have hum' := hide hum
  clear h hr hk hk9 huc hum
  obtain ⟨r', z, hps⟩ : ∃ r' z, limitG r u.nm = (r', z) := ⟨_, _, rfl⟩
  have hnx := hide (show r'.next ≤ k + 1 by have h1 := limitG_next r u.nm; rw [hps] at h1; have h2 := hkk.out; simp only at h1; omega)
  have hps := hide hps
  have e0 : (u.wh == 0) = false := by simp [hwh]
  have e1 : (u.wh == 1) = false := by simp [hwh]
  have e2 : (u.wh == 2) = false := by simp [hwh]
  have e3 : (u.wh == 3) = true := by simp [hwh]
  replace hwh := hide hwh
  go_enter Tryz.func8, Tryz.ntmps8
  go_upto_region 1 with fail
  rw [← hW0]
  clear hW0
  obtain ⟨q0, q1, q2, q3, q4⟩ := hba.out.at
  go_wp2_with fail
  refine (rCopy_any u.a u.n u.c u.s l W0 hR.out (by omega)).mono ?_
  rintro e w1 ⟨ao, no, co, rfl, hoo, hoa, hob, j1⟩
  have hno : no ≤ 1000 := by have h1 := hoo.rd.clen; have h2 := hR.out.clen; omega
  go_upto_region 2 with (refine wpList_store_lin rfl rfl rfl w1.heap.size rfl (LinIn.new w1 none 0 0 false) ao no co u.s rfl ?_; intro w2 hb9 j2)
  have hj2 : Kept [] w1 w2 := ((Kept.refl [] w1).alloc (.cells #[.slice none 0 0, .bool false] 36)).trans j2 (by simp)
  have hk2 : Kept [] W0 w2 := j1.trans hj2 (by simp)
  have hw12 := hide hb9.lt
  have ho2 := hide (hoo.kept hj2 (by simp))
  have hoge := hide (fun y (hy : y ∈ blk ao) => hoo.ge y hy)
  have hb9 := hide hb9
  have hs1 := hide j1.size
  have hs2 := hide hk2.size
  clear q0 q1 q2 q3 q4 hoo j2 hj2 j1
  have hH2 := hide (hH.out.keep (hk0.trans hk2 (by simp)))
  obtain ⟨q0, q1, q2, q3, q4⟩ := (hba.out.kept hk2 (by simp)).at
  obtain ⟨p0, p1, p2, p3, p4⟩ := (hbs.out.kept hk2 (by simp)).at
  go_wp2_with fail
  have hC := rLimited8_any r u.nm a n c us ap np cp w2 hH2.out.lr hH2.out.pr hH2.out.nc hH2.out.cm hH2.out.pc hH2.out.pm hok.out.sum hok.out.full (by have := hn9.out; omega) (by have := hp9.out; omega) (by have := hf9.out; omega) hok.out.p2
  rw [hps.out] at hC
  try dsimp only at hC
  unfold RgGive2 at hC
  refine hC.mono ?_
  rintro e w3 ⟨a3, n3, c3, us3, ap3, np3, cp3, rfl, g1, g2, g3, g4, g5, g6, j3, g7, g8, g9⟩
  clear hC p0 p1 p2 p3 p4 q0 q1 q2 q3 q4
  go_upto_region 21 with (refine wpList_store_rg rfl rfl rfl w3.heap.size rfl (RgIn.new w3 0 0 0 none 0 0 none 0 0) (r'.limit : Nat) (r'.places : Nat) (r'.first : Nat) a3 n3 c3 ap3 np3 cp3 rfl ?_; intro w4 hb10 j4)
  have hj4 : Kept [] w3 w4 := ((Kept.refl [] w3).alloc (.cells #[.int .i64 0, .int .i64 0, .int .i64 0, .slice none 0 0, .slice none 0 0] 33)).trans j4 (by simp)
  have hk24 : Kept [] w2 w4 := j3.trans hj4 (by simp)
  have hk4 := hk2.trans hk24 (by simp)
  have hs34 := hide j3.size
  have hs4 := hide hb10.lt
  have hb10 := hide hb10
  have j3 := hide j3
  have hj4 := hide hj4
  have g1 := hide g1
  have g2 := hide g2
  have g3 := hide g3
  have g4 := hide g4
  have g5 := hide g5
  have g6 := hide g6
  have g7 := hide g7
  have g8 := hide g8
  have g9 := hide g9
  clear j4
  have hP0 := RN.limit (hH2.out.rn.kept (hk24.trans (Kept.refl [] w4).drew (by simp)) (by simp)) hx9.out u.nm
  unfold Rng8 at hP0
  rw [hps.out] at hP0
  try dsimp only at hP0
  have hP0 := hide hP0
  have hF : ∀ {W : World}, Kept B w4 W → RgIn W w3.heap.size (r'.limit : Nat) (r'.places : Nat) (r'.first : Nat) a3 n3 c3 ap3 np3 cp3 ∧ W.cell? ⟨w.heap.size + 1, 1, none⟩ = some (.int .i64 u.nm) := fun hk => ⟨hb10.out.kept hk (fun hm => by have h4 := hs34.out; have h5 := hs2.out; have := hBlt.out _ hm; omega), ((hba.out.kept hk4 (by simp)).kept hk (fun hm => by have := hBlt.out _ hm; omega)).at.2.1⟩
  have hzB0 : w.heap.size + 1 + 1 ∉ B := fun hm => by have := hBlt.out _ hm; omega
  have hne : w3.heap.size ≠ w.heap.size + 1 + 1 := by have := hs2.out; have := hs34.out; omega
  go_upto_region 21 with fail
  refine wp_region_held_drew (S := (fun W => RgIn W w3.heap.size (r'.limit : Nat) (r'.places : Nat) (r'.first : Nat) a3 n3 c3 ap3 np3 cp3 ∧ W.cell? ⟨w.heap.size + 1, 1, none⟩ = some (.int .i64 u.nm))) (by kernel_rfl) ?_ (fun hHeld => ?_)
  · (try dsimp only); (first | exact hS9 | exact hF k45 | exact hF (Kept.refl B w4).drew)
  refine wpAnyH_take (i := 0) (v := ?_) rfl (by kernel_rfl) (by kernel_rfl) (by kernel_rfl) (fun _ _ _ h => h) (Or.inl ⟨by rfl, ?_⟩) (by assumption) ?_
  rotate_left
  · (intro wq hSw; (try dsimp only at hSw); go_simp; try with_reducible rfl)
  try simp only [Act.put, List.getElem_toArray, List.getElem_cons_zero, List.setIfInBounds_toArray, List.set_cons_zero, List.set_cons_succ]
  refine wpAnyH_take (i := 1) (v := (.agg #[.int .i64 (r'.limit : Nat), .int .i64 (r'.places : Nat), .int .i64 (r'.first : Nat), .slice a3 n3 c3, .slice ap3 np3 cp3])) rfl (by kernel_rfl) (by kernel_rfl) (by kernel_rfl) (fun _ _ _ h => h) (yieldsIf_load_mid (by rfl) 33 _ rfl w3.heap.size 0 rfl (rgL (r'.limit : Nat) (r'.places : Nat) (r'.first : Nat) a3 n3 c3 ap3 np3 cp3) _ (fun _ h => h.1.range) Tryz.underlying33 rfl (by kernel_rfl)) (by assumption) ?_
  try simp only [Act.put, List.getElem_toArray, List.getElem_cons_succ, List.getElem_cons_zero, List.setIfInBounds_toArray, List.set_cons_zero, List.set_cons_succ]
  refine wpAnyH_take (i := 2) (v := ?_) rfl (by kernel_rfl) (by kernel_rfl) (by kernel_rfl) (fun _ _ _ h => h) (Or.inl ⟨by rfl, ?_⟩) (by assumption) ?_
  rotate_left
  · (intro wq hSw; (try dsimp only at hSw); go_simp; try with_reducible rfl)
  try simp only [Act.put, List.getElem_toArray, List.getElem_cons_succ, List.getElem_cons_zero, List.setIfInBounds_toArray, List.set_cons_zero, List.set_cons_succ]
  refine wpAnyH_take (i := 3) (v := ?_) rfl (by kernel_rfl) (by kernel_rfl) (by kernel_rfl) (fun _ _ _ h => h) (Or.inl ⟨by rfl, ?_⟩) (by assumption) ?_
  rotate_left
  · (intro wq hSw; (try dsimp only at hSw); go_simp; try with_reducible rfl)
  try simp only [Act.put, List.getElem_toArray, List.getElem_cons_succ, List.getElem_cons_zero, List.setIfInBounds_toArray, List.set_cons_zero, List.set_cons_succ]
  refine wpAnyH_take (i := 4) (v := ?_) rfl (by kernel_rfl) (by kernel_rfl) (by kernel_rfl) (fun _ _ _ h => h) (Or.inl ⟨by rfl, ?_⟩) (by assumption) ?_
  rotate_left
  · (intro wq hSw; (try dsimp only at hSw); go_simp; try with_reducible rfl)
  try simp only [Act.put, List.getElem_toArray, List.getElem_cons_succ, List.getElem_cons_zero, List.setIfInBounds_toArray, List.set_cons_zero, List.set_cons_succ]
  refine wpAnyH_take (i := 6) (v := ?_) rfl (by kernel_rfl) (by kernel_rfl) (by kernel_rfl) (fun _ _ _ h => h) (Or.inl ⟨by rfl, ?_⟩) (by assumption) ?_
  rotate_left
  · (intro wq hSw; (try dsimp only at hSw); go_simp; try with_reducible rfl)
  try simp only [Act.put, List.getElem_toArray, List.getElem_cons_succ, List.getElem_cons_zero, List.setIfInBounds_toArray, List.set_cons_zero, List.set_cons_succ]
  refine wpAnyH_ready (rs := [5]) (by kernel_rfl) (by simp) ?_
  refine AllReadyH.cons rfl (fun K hK => ?_) AllReadyH.nil
  go_simp
  refine hP0.out.mono ?_; rintro e w5 ⟨B5, rfl, h5a, h5b, h5c⟩; have k45 : Kept B w4 w5 := (Kept.refl B w4).drew.trans h5b (fun y hy => .inl hy)
  try go_wp2_with fail
  refine hK.out _ _ ?_ (fun hHeld => ?_)
  · (try dsimp only); (first | exact hS9 | exact hF k45 | exact hF (Kept.refl B w4).drew)
  clear hK K
  try simp only [Act.put, List.getElem_toArray, List.getElem_cons_succ, List.getElem_cons_zero, List.setIfInBounds_toArray, List.set_cons_zero, List.set_cons_succ]
  refine wpAnyH_take (i := 7) (v := ?_) rfl (by kernel_rfl) (by kernel_rfl) (by kernel_rfl) (fun _ _ _ h => h) (Or.inl ⟨by rfl, ?_⟩) (by assumption) ?_
  rotate_left
  · (intro wq hSw; (try dsimp only at hSw); go_simp; try with_reducible rfl)
  try simp only [Act.put, List.getElem_toArray, List.getElem_cons_succ, List.getElem_cons_zero, List.setIfInBounds_toArray, List.set_cons_zero, List.set_cons_succ]
  refine wpAnyH_take (i := 8) (v := ?_) rfl (by kernel_rfl) (by kernel_rfl) (by kernel_rfl) (fun _ _ _ h => h) (Or.inl ⟨by rfl, ?_⟩) (by assumption) ?_
  rotate_left
  · (intro wq hSw; (try dsimp only at hSw); go_simp; try with_reducible rfl)
  try simp only [Act.put, List.getElem_toArray, List.getElem_cons_succ, List.getElem_cons_zero, List.setIfInBounds_toArray, List.set_cons_zero, List.set_cons_succ]
  refine wpAnyH_ready (rs := [9]) (by kernel_rfl) (by simp) ?_
  refine AllReadyH.cons rfl (fun K hK => ?_) AllReadyH.nil
  rw [if_pos (by rfl)]
  refine wp_store_rg rfl rfl (w.heap.size + 1 + 1) rfl ((hbz.out.kept hk4 (by simp)).kept k45 hzB0) (r'.limit : Nat) (r'.places : Nat) (r'.first : Nat) a3 n3 c3 ap3 np3 cp3 rfl ?_; intro w9 hb99 j9; have hS9 := And.intro ((hF k45).1.kept j9 (by simpa using hne)) (j9.cell (hF k45).2 (by simp))
  refine hK.out _ _ ?_ (fun hHeld => ?_)
  · (try dsimp only); (first | exact hS9 | exact hF k45 | exact hF (Kept.refl B w4).drew)
  clear hK K
  try simp only [Act.put, List.getElem_toArray, List.getElem_cons_succ, List.getElem_cons_zero, List.setIfInBounds_toArray, List.set_cons_zero, List.set_cons_succ]
  refine wpAnyH_take (i := 10) (v := ?_) rfl (by kernel_rfl) (by kernel_rfl) (by kernel_rfl) (fun _ _ _ h => h) (Or.inl ⟨by rfl, ?_⟩) (by assumption) ?_
  rotate_left
  · (intro wq hSw; (try dsimp only at hSw); go_simp; try with_reducible rfl)
  try simp only [Act.put, List.getElem_toArray, List.getElem_cons_succ, List.getElem_cons_zero, List.setIfInBounds_toArray, List.set_cons_zero, List.set_cons_succ]
  refine wpAnyH_done (by kernel_rfl) ?_ _
  have hB5 : ∀ y ∈ B5, y ∈ B ∨ w4.heap.size ≤ y := h5c
  have hH6 := hide (HR.both (r' := r') hH2.out hw2 j3.out g1.out g3.out g4.out g2.out g5.out g6.out g7.out g8.out g9.out (hj4.out.trans (Kept.refl [] w4).drew (by simp)) h5a h5b h5c)
  have hO : Hid (∀ y, (y ∈ B5 ∨ y ∈ blkN a3 n3 ∨ y ∈ blks us3 ∨ y ∈ blkN ap3 np3) → y < w.heap.size ∨ w2.heap.size ≤ y) := hide (by
    have h24 := hk24.size
    rintro y (hy | hy | hy | hy)
    · exact (hB5 y hy).imp (hBlt.out y) (fun q => by omega)
    · exact (g7.out y hy).imp (hNlt.out y) id
    · exact (g9.out y hy).imp (hVlt.out y) id
    · exact (g8.out y hy).imp (hPlt.out y) id)
  have hk69 := j9
  have hKB : Kept B w w9 := ((((hk0.trans hk4 (by simp)).mono (by simp)).trans k45 (fun y hy => .inl hy))).trans hk69 (fun y hy => .inr (by simp at hy; omega))
  have hOO : ∀ y, (y ∈ B5 ∨ y ∈ blkN a3 n3 ∨ y ∈ blks us3 ∨ y ∈ blkN ap3 np3) → (y ∈ B ∨ y ∈ blkN a n ∨ y ∈ blks us ∨ y ∈ blkN ap np) ∨ w.heap.size ≤ y := by
    have h24 := hk24.size
    have h02 := hk2.size
    have h00 := hk0.size
    rintro y (hy | hy | hy | hy)
    · exact (hB5 y hy).imp .inl (fun q => by omega)
    · exact (g7.out y hy).imp (fun q => .inr (.inl q)) (fun q => by omega)
    · exact (g9.out y hy).imp (fun q => .inr (.inr (.inl q))) (fun q => by omega)
    · exact (g8.out y hy).imp (fun q => .inr (.inr (.inr q))) (fun q => by omega)
  go_wp2_with fail
  refine bodyPost_ret (results_does8 rfl rfl hb99 rfl rfl) rfl ?_
  exact ⟨b, r', B5, a3, n3, c3, us3, ap3, np3, cp3, rfl, hH6.out.mid hw2 hk69 hw0s.out (fun y hy => by simp at hy; have := hs2.out; omega) hO.out, hnx.out, hKB, hOO⟩
end Go.Proofs.YtnkddhmhjnhgcaaGreatDoor
namespace Go.Proofs.YtnkddhmhjnhgcaaGreatDoor
open Go.RowKit
set_option linter.unusedVariables false
set_option linter.unusedSimpArgs false
set_option maxRecDepth 100000

set_option maxHeartbeats 4000000 in
theorem pops8N_any (b : Nat) (r : Rg) (B : List Nat) (a2 : Option Addr) (n2 c2 : Nat) (s2 : Bool) (m : List Cl) (no : Int) (v : Bool) (w : World) (hp : RN w b r B) (hn : r.next ≤ 1000000000) (hr2 : Rd w a2 n2 16 (cellsV m)) (hd2 : ∀ y ∈ blkN a2 n2, y ∉ B) (hv : (decide ((popG r).2.1.s = s2 ∧ (popG r).2.1.l = m) && decide ((popG r).2.2 = no)) = v) :
    Calls Tryz.prog 19 #[.pointer (some ⟨b, 0, none⟩), .agg #[.slice a2 n2 c2, .bool s2], .int .i64 no] w fun e w' => e = .returned (.bool v) ∧ ∃ B', RN w' b (popG r).1 B' ∧ Kept B w w' ∧ ∀ y ∈ B', y ∈ B ∨ w.heap.size ≤ y := by
  obtain ⟨W0, hW0⟩ : ∃ z : World, z = w.alloc (.cells #[.slice a2 n2 c2, .bool s2] 36) := ⟨_, rfl⟩
  have hk0 : Kept [] w W0 := by rw [hW0]; exact (Kept.refl [] w).alloc _
  have hbw : Hid (LinIn W0 w.heap.size a2 n2 c2 s2) := hide (by rw [hW0]; exact LinIn.new w a2 n2 c2 s2)
  have hC := (hp.kept hk0 (by simp)).pop hn
  unfold Pop8Ret at hC
  have hC := hide hC
  have hr2' := hide (hr2.kept hk0 (by simp))
  have hlen := hide (popG_len hp.ok)
  have hlt := hide hp.lt
  have hv := hide hv
  clear hr2 hp
  generalize popG r = E at *
  obtain ⟨s', l', x⟩ := E
  have hx : ∃ q : Bool, ((x == no) = q) := ⟨_, rfl⟩
  obtain ⟨q, hq⟩ := hx
  have hqd : decide (x = no) = q := by rw [← hq]; rfl
  rw [hqd] at hv
  clear hqd
  go_enter Tryz.func19, Tryz.ntmps19
  go_upto_region 1 with fail
  rw [← hW0]
  clear hW0
  go_wp2_with fail
  refine hC.out.mono ?_
  rintro e w1 ⟨B', a', n', c', rfl, hat1, hown1, hdis, hpg, hk1, hBB⟩
  have hs00 := hk0.size
  have hrl := hide hat1.rd
  have hbN : w.heap.size ∉ B := fun hm => by have := hlt.out _ hm; omega
  clear hat1 hown1 hdis
  go_wp2_with (refine wpList_store_lin rfl rfl rfl w1.heap.size rfl (LinIn.new w1 none 0 0 false) a' n' c' l'.s rfl ?_; intro w2 hb2 hj2; have hh2 : Kept [] w1 w2 := ((Kept.refl [] w1).alloc (.cells #[.slice none 0 0, .bool false] 36)).trans hj2 (by simp); obtain ⟨p0, p1⟩ := hb2.at; obtain ⟨q0, q1⟩ := (hbw.out.kept (hk1.trans hh2 (by simp)) hbN).at)
  refine (rSame6_any a' n' c' l'.s l'.l a2 n2 c2 s2 m w2 (hrl.out.kept hh2 (by simp)) (hr2'.out.keptN (hk1.trans hh2 (by simp)) hd2) (by have h1 := hrl.out.clen; have h2 := hlen.out; omega)).mono ?_
  rintro e w3 ⟨rfl, hj3⟩
  generalize decide (l'.s = s2 ∧ l'.l = m) = d at *
  cases d <;> cases q <;> (go_wp2_with fail; go_ret; exact ⟨ret_bool (by rw [← hv.out]; rfl), B', hpg.kept (hh2.trans hj3 (by simp)) (by simp), ((hk0.mono (by simp)).trans (hk1.trans hh2 (by simp)) (fun y hy => .inl hy)).trans hj3 (by simp), fun y hy => (hBB y hy).imp id (fun h => by omega)⟩)
set_option maxHeartbeats 20000000 in
theorem does8Pop (w0 w : World) (b : Nat) (r : Rg) (B : List Nat) (a : Option Addr) (n c : Nat) (us : List LnA) (ap : Option Addr) (np cp : Nat) (h : HR w0 w b r B a n c us ap np cp) (hw2 : 2 ≤ w0.heap.size) (u : AcA) (l : List Cl) (hr : Rd w u.a u.n 16 (cellsV l)) (huc : u.n ≤ u.c) (hum : u.c ≤ maxLen) (hun : u.n ≤ 20) (k : Nat) (hk : r.next ≤ k) (hk9 : k ≤ 1000) (hwh : u.wh = 1) :
    Calls Tryz.prog 8 #[.pointer (some ⟨b, 0, none⟩), .agg #[.int .i64 (r.limit : Nat), .int .i64 (r.places : Nat), .int .i64 (r.first : Nat), .slice a n c, .slice ap np cp], .agg #[.int .i64 u.wh, .int .i64 u.nm, .int .i64 u.to, .slice u.a u.n u.c, .bool u.s]] w (Does8Ret w0 w B a n us ap np (k + 1)) := by
  obtain ⟨W0, hW0⟩ : ∃ z : World, z = ((w.alloc (.cells #[.int .i64 (r.limit : Nat), .int .i64 (r.places : Nat), .int .i64 (r.first : Nat), .slice a n c, .slice ap np cp] 33)).alloc (.cells #[.int .i64 u.wh, .int .i64 u.nm, .int .i64 u.to, .slice u.a u.n u.c, .bool u.s] 38)).alloc (.cells #[.int .i64 0, .int .i64 0, .int .i64 0, .slice none 0 0, .slice none 0 0] 33) := ⟨_, rfl⟩
  have hk0 : Kept [] w W0 := by rw [hW0]; exact (((Kept.refl [] w).alloc _).alloc _).alloc _
  have hbs : Hid (RgIn W0 w.heap.size (r.limit : Nat) (r.places : Nat) (r.first : Nat) a n c ap np cp) := hide (by rw [hW0]; exact (RgIn.new w (r.limit : Nat) (r.places : Nat) (r.first : Nat) a n c ap np cp).kept (((Kept.refl [] _).alloc _).alloc _) (by simp))
  have hba : Hid (AcIn W0 (w.heap.size + 1) u) := hide (by rw [hW0]; exact AcIn.kept (heap_new_at (by simp)) ((Kept.refl [] _).alloc _) (by simp))
  have hbz : Hid (RgIn W0 (w.heap.size + 1 + 1) 0 0 0 none 0 0 none 0 0) := hide (by rw [hW0]; exact heap_new_at (by simp))
  have hs0 : w.heap.size + 1 + 1 < W0.heap.size := hbz.out.lt
  have hH := hide h
  have hR := hide (hr.kept hk0 (by simp))
  have hBlt := hide h.rn.lt
  have hNlt := hide (Rd.ltK (by decide) h.lr.rd)
  have hVlt := hide h.lr.at'.lt
  have hPlt := hide (Rd.ltK (by decide) h.pr)
  have hok := hide h.rn.ok
  have hll := hide h.lr.len
  have hpl := hide (h.pr.rowLen rowPa)
  have hw0s := hide h.kp.size
  have hkk := hide hk
  have hk99 := hide hk9
  have hn9 := hide (show n ≤ 1000 by have h1 := hll.out; have h2 : r.next = r.first + r.ls.length := rfl; omega)
  have hf9 := hide (show r.first ≤ 1000 by have h2 : r.next = r.first + r.ls.length := rfl; omega)
  have hx9 := hide (show r.next ≤ 1000000000 by omega)
  have hp9 := hide (show np ≤ 9000000 by
    have h1 := pages_most hok.out
    have h2 := hpl.out
    have h3 : r.limit / r.places ≤ r.limit := Nat.div_le_self _ _
    have h4 := hok.out.l2
    omega)
  have huc' := hide huc
  have hum' := hide hum
  clear h hr hk hk9 huc hum
  obtain ⟨r', y0, z, hps⟩ : ∃ r' y0 z, popG r = (r', y0, z) := ⟨_, _, _, rfl⟩
  have hnx := hide (show r'.next ≤ k + 1 by have h1 := popG_next r; rw [hps] at h1; have h2 := hkk.out; simp only at h1; omega)
  have hps := hide hps
  have e0 : (u.wh == 0) = false := by simp [hwh]
  have e1 : (u.wh == 1) = true := by simp [hwh]
  replace hwh := hide hwh
  go_enter Tryz.func8, Tryz.ntmps8
  go_upto_region 1 with fail
  rw [← hW0]
  clear hW0
  obtain ⟨q0, q1, q2, q3, q4⟩ := hba.out.at
  go_wp2_with fail
  refine (rCopy_any u.a u.n u.c u.s l W0 hR.out (by omega)).mono ?_
  rintro e w1 ⟨ao, no, co, rfl, hoo, hoa, hob, j1⟩
  have hno : no ≤ 1000 := by have h1 := hoo.rd.clen; have h2 := hR.out.clen; omega
  go_upto_region 2 with (refine wpList_store_lin rfl rfl rfl w1.heap.size rfl (LinIn.new w1 none 0 0 false) ao no co u.s rfl ?_; intro w2 hb9 j2)
  have hj2 : Kept [] w1 w2 := ((Kept.refl [] w1).alloc (.cells #[.slice none 0 0, .bool false] 36)).trans j2 (by simp)
  have hk2 : Kept [] W0 w2 := j1.trans hj2 (by simp)
  have hw12 := hide hb9.lt
  have ho2 := hide (hoo.kept hj2 (by simp))
  have hoge := hide (fun y (hy : y ∈ blk ao) => hoo.ge y hy)
  have hb9 := hide hb9
  have hs1 := hide j1.size
  have hs2 := hide hk2.size
  clear q0 q1 q2 q3 q4 hoo j2 hj2 j1
  have hH2 := hide (hH.out.keep (hk0.trans hk2 (by simp)))
  obtain ⟨q0, q1, q2, q3, q4⟩ := (hba.out.kept hk2 (by simp)).at
  obtain ⟨p0, p1, p2, p3, p4⟩ := (hbs.out.kept hk2 (by simp)).at
  go_wp2_with fail
  have hC := rPop8_any r a n c us ap np cp w2 hH2.out.lr hH2.out.pr hH2.out.nc hH2.out.cm hH2.out.pc hH2.out.pm hok.out.sum hok.out.full (by have := hn9.out; omega) (by have := hp9.out; omega) hok.out.p2
  rw [hps.out] at hC
  unfold RgGive3 at hC
  try dsimp only at hC
  refine hC.mono ?_
  rintro e w3 ⟨a3, n3, c3, us3, ap3, np3, cp3, v3, rfl, g1, g2, g3, g4, g5, g6, gL, j3, g7, g8, g9, g10⟩
  clear hC p0 p1 p2 p3 p4 q0 q1 q2 q3 q4
  have hz18 : Hid (RgIn ((w3.alloc (.cells #[.int .i64 0, .int .i64 0, .int .i64 0, .slice none 0 0, .slice none 0 0] 33)).alloc (.cells #[.slice none 0 0, .bool false] 36)) w3.heap.size 0 0 0 none 0 0 none 0 0) := hide ((RgIn.new w3 0 0 0 none 0 0 none 0 0).kept ((Kept.refl [] _).alloc _) (by simp))
  have hz19 : Hid (LinIn ((w3.alloc (.cells #[.int .i64 0, .int .i64 0, .int .i64 0, .slice none 0 0, .slice none 0 0] 33)).alloc (.cells #[.slice none 0 0, .bool false] 36)) (w3.heap.size + 1) none 0 0 false) := hide (heap_new_at (by simp))
  have hka : Hid (Kept [] w3 ((w3.alloc (.cells #[.int .i64 0, .int .i64 0, .int .i64 0, .slice none 0 0, .slice none 0 0] 33)).alloc (.cells #[.slice none 0 0, .bool false] 36))) := hide (((Kept.refl [] w3).alloc _).alloc _)
  go_upto_region 13 with (first | refine wpList_store_lin rfl rfl rfl (w3.heap.size + 1) rfl (hz19.out.kept j4a (by simp)) v3.a v3.n v3.c v3.s rfl ?_; intro w4 hb19 j4 | refine wpList_store_rg rfl rfl rfl w3.heap.size rfl hz18.out (r'.limit : Nat) (r'.places : Nat) (r'.first : Nat) a3 n3 c3 ap3 np3 cp3 rfl ?_; intro w4a hb10a j4a)
  have hj4a : Kept [] w3 w4a := hka.out.trans j4a (by simp)
  have hj4' : Kept [] w3 w4 := hj4a.trans j4 (by simp)
  have hb10 := hb10a.kept j4 (by simp)
  have hk24 : Kept [] w2 w4 := j3.trans hj4' (by simp)
  have hk4 := hk2.trans hk24 (by simp)
  have hs34 := hide j3.size
  have hs4 := hide hb10.lt
  have hb10 := hide hb10
  have hb19 := hide hb19
  have hV4 := hide (gL.kept hj4' (by simp))
  have j3 := hide j3
  have hj4 := hide hj4'
  have g1 := hide g1
  have g2 := hide g2
  have g3 := hide g3
  have g4 := hide g4
  have g5 := hide g5
  have g6 := hide g6
  have g7 := hide g7
  have g8 := hide g8
  have g9 := hide g9
  have g10 := hide g10
  clear j4 j4a hj4a hj4' hz18 hz19 hka hb10a gL
  have hP0 := pops8N_any b r B v3.a v3.n v3.c v3.s y0.l z true _ (hH2.out.rn.kept (hk24.trans (Kept.refl [] w4).drew (by simp)) (by simp)) hx9.out (hV4.out.kept (Kept.refl [] w4).drew (by simp)).rd (fun y hy hm => hH2.out.d2 y (g10.out y hy) hm) (by rw [hps.out]; simp [hV4.out.s])
  rw [hps.out] at hP0
  try dsimp only at hP0
  have hP0 := hide hP0
  have hF : ∀ {W : World}, Kept B w4 W → RgIn W w3.heap.size (r'.limit : Nat) (r'.places : Nat) (r'.first : Nat) a3 n3 c3 ap3 np3 cp3 ∧ W.cell? ⟨w3.heap.size + 1, 0, none⟩ = some (.slice v3.a v3.n v3.c) ∧ W.cell? ⟨w3.heap.size + 1, 1, none⟩ = some (.bool v3.s) := fun hk => ⟨hb10.out.kept hk (fun hm => by have h4 := hs34.out; have h5 := hs2.out; have := hBlt.out _ hm; omega), (hb19.out.kept hk (fun hm => by have h4 := hs34.out; have h5 := hs2.out; have := hBlt.out _ hm; omega)).at⟩
  have hzB0 : w.heap.size + 1 + 1 ∉ B := fun hm => by have := hBlt.out _ hm; omega
  have hne : w3.heap.size ≠ w.heap.size + 1 + 1 := by have := hs2.out; have := hs34.out; omega
  have hne2 : w3.heap.size + 1 ≠ w.heap.size + 1 + 1 := by have := hs2.out; have := hs34.out; omega
  refine wp_region_held_drew (S := (fun W => RgIn W w3.heap.size (r'.limit : Nat) (r'.places : Nat) (r'.first : Nat) a3 n3 c3 ap3 np3 cp3 ∧ W.cell? ⟨w3.heap.size + 1, 0, none⟩ = some (.slice v3.a v3.n v3.c) ∧ W.cell? ⟨w3.heap.size + 1, 1, none⟩ = some (.bool v3.s))) (by kernel_rfl) ?_ (fun hHeld => ?_)
  · (try dsimp only); (first | exact hS9 | exact hF k45 | exact hF (Kept.refl B w4).drew)
  refine wpAnyH_take (i := 0) (v := ?_) rfl (by kernel_rfl) (by kernel_rfl) (by kernel_rfl) (fun _ _ _ h => h) (Or.inl ⟨by rfl, ?_⟩) (by assumption) ?_
  rotate_left
  · (intro wq hSw; (try dsimp only at hSw); go_simp; try with_reducible rfl)
  try simp only [Act.put, List.getElem_toArray, List.getElem_cons_zero, List.setIfInBounds_toArray, List.set_cons_zero, List.set_cons_succ]
  refine wpAnyH_take (i := 1) (v := (.agg #[.int .i64 (r'.limit : Nat), .int .i64 (r'.places : Nat), .int .i64 (r'.first : Nat), .slice a3 n3 c3, .slice ap3 np3 cp3])) rfl (by kernel_rfl) (by kernel_rfl) (by kernel_rfl) (fun _ _ _ h => h) (yieldsIf_load_mid (by rfl) 33 _ rfl w3.heap.size 0 rfl (rgL (r'.limit : Nat) (r'.places : Nat) (r'.first : Nat) a3 n3 c3 ap3 np3 cp3) _ (fun _ h => h.1.range) Tryz.underlying33 rfl (by kernel_rfl)) (by assumption) ?_
  try simp only [Act.put, List.getElem_toArray, List.getElem_cons_succ, List.getElem_cons_zero, List.setIfInBounds_toArray, List.set_cons_zero, List.set_cons_succ]
  refine wpAnyH_take (i := 2) (v := ?_) rfl (by kernel_rfl) (by kernel_rfl) (by kernel_rfl) (fun _ _ _ h => h) (Or.inl ⟨by rfl, ?_⟩) (by assumption) ?_
  rotate_left
  · (intro wq hSw; (try dsimp only at hSw); go_simp; try with_reducible rfl)
  try simp only [Act.put, List.getElem_toArray, List.getElem_cons_succ, List.getElem_cons_zero, List.setIfInBounds_toArray, List.set_cons_zero, List.set_cons_succ]
  refine wpAnyH_take (i := 3) (v := ?_) rfl (by kernel_rfl) (by kernel_rfl) (by kernel_rfl) (fun _ _ _ h => h) (Or.inl ⟨by rfl, ?_⟩) (by assumption) ?_
  rotate_left
  · (intro wq hSw; (try dsimp only at hSw); go_simp; try with_reducible rfl)
  try simp only [Act.put, List.getElem_toArray, List.getElem_cons_succ, List.getElem_cons_zero, List.setIfInBounds_toArray, List.set_cons_zero, List.set_cons_succ]
  refine wpAnyH_take (i := 4) (v := ?_) rfl (by kernel_rfl) (by kernel_rfl) (by kernel_rfl) (fun _ _ _ h => h) (Or.inl ⟨by rfl, ?_⟩) (by assumption) ?_
  rotate_left
  · (intro wq hSw; (try dsimp only at hSw); go_simp; try with_reducible rfl)
  try simp only [Act.put, List.getElem_toArray, List.getElem_cons_succ, List.getElem_cons_zero, List.setIfInBounds_toArray, List.set_cons_zero, List.set_cons_succ]
  refine wpAnyH_ready (rs := [5]) (by kernel_rfl) (by simp) ?_
  refine AllReadyH.cons rfl (fun K hK => ?_) AllReadyH.nil
  go_simp
  refine hP0.out.mono ?_; rintro e w5 ⟨rfl, B5, h5a, h5b, h5c⟩; have k45 : Kept B w4 w5 := (Kept.refl B w4).drew.trans h5b (fun y hy => .inl hy)
  try go_wp2_with fail
  refine hK.out _ _ ?_ (fun hHeld => ?_)
  · (try dsimp only); (first | exact hS9 | exact hF k45 | exact hF (Kept.refl B w4).drew)
  clear hK K
  try simp only [Act.put, List.getElem_toArray, List.getElem_cons_succ, List.getElem_cons_zero, List.setIfInBounds_toArray, List.set_cons_zero, List.set_cons_succ]
  refine wpAnyH_take (i := 6) (v := ?_) rfl (by kernel_rfl) (by kernel_rfl) (by kernel_rfl) (fun _ _ _ h => h) (Or.inl ⟨by rfl, ?_⟩) (by assumption) ?_
  rotate_left
  · (intro wq hSw; (try dsimp only at hSw); go_simp; try with_reducible rfl)
  try simp only [Act.put, List.getElem_toArray, List.getElem_cons_succ, List.getElem_cons_zero, List.setIfInBounds_toArray, List.set_cons_zero, List.set_cons_succ]
  refine wpAnyH_ready (rs := [7]) (by kernel_rfl) (by simp) ?_
  refine AllReadyH.cons rfl (fun K hK => ?_) AllReadyH.nil
  rw [if_pos (by rfl)]
  refine wp_store_rg rfl rfl (w.heap.size + 1 + 1) rfl ((hbz.out.kept hk4 (by simp)).kept k45 hzB0) (r'.limit : Nat) (r'.places : Nat) (r'.first : Nat) a3 n3 c3 ap3 np3 cp3 rfl ?_; intro w9 hb99 j9; have hS9 := And.intro ((hF k45).1.kept j9 (by simpa using hne)) (And.intro (j9.cell (hF k45).2.1 (by simpa using hne2)) (j9.cell (hF k45).2.2 (by simpa using hne2)))
  refine hK.out _ _ ?_ (fun hHeld => ?_)
  · (try dsimp only); (first | exact hS9 | exact hF k45 | exact hF (Kept.refl B w4).drew)
  clear hK K
  try simp only [Act.put, List.getElem_toArray, List.getElem_cons_succ, List.getElem_cons_zero, List.setIfInBounds_toArray, List.set_cons_zero, List.set_cons_succ]
  refine wpAnyH_take (i := 8) (v := ?_) rfl (by kernel_rfl) (by kernel_rfl) (by kernel_rfl) (fun _ _ _ h => h) (Or.inl ⟨by rfl, ?_⟩) (by assumption) ?_
  rotate_left
  · (intro wq hSw; (try dsimp only at hSw); go_simp; try with_reducible rfl)
  try simp only [Act.put, List.getElem_toArray, List.getElem_cons_succ, List.getElem_cons_zero, List.setIfInBounds_toArray, List.set_cons_zero, List.set_cons_succ]
  refine wpAnyH_done (by kernel_rfl) ?_ _
  have hB5 : ∀ y ∈ B5, y ∈ B ∨ w4.heap.size ≤ y := h5c
  have hH6 := hide (HR.both (r' := r') hH2.out hw2 j3.out g1.out g3.out g4.out g2.out g5.out g6.out g7.out g8.out g9.out (hj4.out.trans (Kept.refl [] w4).drew (by simp)) h5a h5b h5c)
  have hO : Hid (∀ y, (y ∈ B5 ∨ y ∈ blkN a3 n3 ∨ y ∈ blks us3 ∨ y ∈ blkN ap3 np3) → y < w.heap.size ∨ w2.heap.size ≤ y) := hide (by
    have h24 := hk24.size
    rintro y (hy | hy | hy | hy)
    · exact (hB5 y hy).imp (hBlt.out y) (fun q => by omega)
    · exact (g7.out y hy).imp (hNlt.out y) id
    · exact (g9.out y hy).imp (hVlt.out y) id
    · exact (g8.out y hy).imp (hPlt.out y) id)
  have hk69 := j9
  have hKB : Kept B w w9 := ((((hk0.trans hk4 (by simp)).mono (by simp)).trans k45 (fun y hy => .inl hy))).trans hk69 (fun y hy => .inr (by simp at hy; omega))
  have hOO : ∀ y, (y ∈ B5 ∨ y ∈ blkN a3 n3 ∨ y ∈ blks us3 ∨ y ∈ blkN ap3 np3) → (y ∈ B ∨ y ∈ blkN a n ∨ y ∈ blks us ∨ y ∈ blkN ap np) ∨ w.heap.size ≤ y := by
    have h24 := hk24.size
    have h02 := hk2.size
    have h00 := hk0.size
    rintro y (hy | hy | hy | hy)
    · exact (hB5 y hy).imp .inl (fun q => by omega)
    · exact (g7.out y hy).imp (fun q => .inr (.inl q)) (fun q => by omega)
    · exact (g9.out y hy).imp (fun q => .inr (.inr (.inl q))) (fun q => by omega)
    · exact (g8.out y hy).imp (fun q => .inr (.inr (.inr q))) (fun q => by omega)
  go_wp2_with fail
  refine bodyPost_ret (results_does8 rfl rfl hb99 rfl rfl) rfl ?_
  exact ⟨b, r', B5, a3, n3, c3, us3, ap3, np3, cp3, rfl, hH6.out.mid hw2 hk69 hw0s.out (fun y hy => by simp at hy; have := hs2.out; omega) hO.out, hnx.out, hKB, hOO⟩
end Go.Proofs.YtnkddhmhjnhgcaaGreatDoor
namespace Go.Proofs.YtnkddhmhjnhgcaaGreatDoor
open Go.RowKit
set_option linter.unusedVariables false
set_option linter.unusedSimpArgs false
set_option maxRecDepth 100000

set_option maxHeartbeats 20000000 in
theorem does8Clear (w0 w : World) (b : Nat) (r : Rg) (B : List Nat) (a : Option Addr) (n c : Nat) (us : List LnA) (ap : Option Addr) (np cp : Nat) (h : HR w0 w b r B a n c us ap np cp) (hw2 : 2 ≤ w0.heap.size) (u : AcA) (l : List Cl) (hr : Rd w u.a u.n 16 (cellsV l)) (huc : u.n ≤ u.c) (hum : u.c ≤ maxLen) (hun : u.n ≤ 20) (k : Nat) (hk : r.next ≤ k) (hk9 : k ≤ 1000) (hwh : u.wh = 4) :
    Calls Tryz.prog 8 #[.pointer (some ⟨b, 0, none⟩), .agg #[.int .i64 (r.limit : Nat), .int .i64 (r.places : Nat), .int .i64 (r.first : Nat), .slice a n c, .slice ap np cp], .agg #[.int .i64 u.wh, .int .i64 u.nm, .int .i64 u.to, .slice u.a u.n u.c, .bool u.s]] w (Does8Ret w0 w B a n us ap np (k + 1)) := by
  obtain ⟨W0, hW0⟩ : ∃ z : World, z = ((w.alloc (.cells #[.int .i64 (r.limit : Nat), .int .i64 (r.places : Nat), .int .i64 (r.first : Nat), .slice a n c, .slice ap np cp] 33)).alloc (.cells #[.int .i64 u.wh, .int .i64 u.nm, .int .i64 u.to, .slice u.a u.n u.c, .bool u.s] 38)).alloc (.cells #[.int .i64 0, .int .i64 0, .int .i64 0, .slice none 0 0, .slice none 0 0] 33) := ⟨_, rfl⟩
  have hk0 : Kept [] w W0 := by rw [hW0]; exact (((Kept.refl [] w).alloc _).alloc _).alloc _
  have hbs : Hid (RgIn W0 w.heap.size (r.limit : Nat) (r.places : Nat) (r.first : Nat) a n c ap np cp) := hide (by rw [hW0]; exact (RgIn.new w (r.limit : Nat) (r.places : Nat) (r.first : Nat) a n c ap np cp).kept (((Kept.refl [] _).alloc _).alloc _) (by simp))
  have hba : Hid (AcIn W0 (w.heap.size + 1) u) := hide (by rw [hW0]; exact AcIn.kept (heap_new_at (by simp)) ((Kept.refl [] _).alloc _) (by simp))
  have hbz : Hid (RgIn W0 (w.heap.size + 1 + 1) 0 0 0 none 0 0 none 0 0) := hide (by rw [hW0]; exact heap_new_at (by simp))
  have hs0 : w.heap.size + 1 + 1 < W0.heap.size := hbz.out.lt
  have hH := hide h
  have hR := hide (hr.kept hk0 (by simp))
  have hBlt := hide h.rn.lt
  have hNlt := hide (Rd.ltK (by decide) h.lr.rd)
  have hVlt := hide h.lr.at'.lt
  have hPlt := hide (Rd.ltK (by decide) h.pr)
  have hok := hide h.rn.ok
  have hll := hide h.lr.len
  have hpl := hide (h.pr.rowLen rowPa)
  have hw0s := hide h.kp.size
  have hkk := hide hk
  have hk99 := hide hk9
  have hn9 := hide (show n ≤ 1000 by have h1 := hll.out; have h2 : r.next = r.first + r.ls.length := rfl; omega)
  have hf9 := hide (show r.first ≤ 1000 by have h2 : r.next = r.first + r.ls.length := rfl; omega)
  have hx9 := hide (show r.next ≤ 1000000000 by omega)
  have hp9 := hide (show np ≤ 9000000 by
    have h1 := pages_most hok.out
    have h2 := hpl.out
    have h3 : r.limit / r.places ≤ r.limit := Nat.div_le_self _ _
    have h4 := hok.out.l2
    omega)
  have huc' := hide huc
  have hum' := hide hum
  clear h hr hk hk9 huc hum
  have hnx := hide (show (clearG r).next ≤ k + 1 by have h2 := hkk.out; unfold clearG; simp [Rg.next] at *; omega)
  obtain ⟨r', hps⟩ : ∃ r', clearG r = r' := ⟨_, rfl⟩
  rw [hps] at hnx
  have hps := hide hps
  have e0 : (u.wh == 0) = false := by simp [hwh]
  have e1 : (u.wh == 1) = false := by simp [hwh]
  have e2 : (u.wh == 2) = false := by simp [hwh]
  have e3 : (u.wh == 3) = false := by simp [hwh]
  have e4 : (u.wh == 4) = true := by simp [hwh]
  replace hwh := hide hwh
  go_enter Tryz.func8, Tryz.ntmps8
  go_upto_region 1 with fail
  rw [← hW0]
  clear hW0
  obtain ⟨q0, q1, q2, q3, q4⟩ := hba.out.at
  go_wp2_with fail
  refine (rCopy_any u.a u.n u.c u.s l W0 hR.out (by omega)).mono ?_
  rintro e w1 ⟨ao, no, co, rfl, hoo, hoa, hob, j1⟩
  have hno : no ≤ 1000 := by have h1 := hoo.rd.clen; have h2 := hR.out.clen; omega
  go_upto_region 2 with (refine wpList_store_lin rfl rfl rfl w1.heap.size rfl (LinIn.new w1 none 0 0 false) ao no co u.s rfl ?_; intro w2 hb9 j2)
  have hj2 : Kept [] w1 w2 := ((Kept.refl [] w1).alloc (.cells #[.slice none 0 0, .bool false] 36)).trans j2 (by simp)
  have hk2 : Kept [] W0 w2 := j1.trans hj2 (by simp)
  have hw12 := hide hb9.lt
  have ho2 := hide (hoo.kept hj2 (by simp))
  have hoge := hide (fun y (hy : y ∈ blk ao) => hoo.ge y hy)
  have hb9 := hide hb9
  have hs1 := hide j1.size
  have hs2 := hide hk2.size
  clear q0 q1 q2 q3 q4 hoo j2 hj2 j1
  have hH2 := hide (hH.out.keep (hk0.trans hk2 (by simp)))
  have hP0 := RN.clear hH2.out.rn
  unfold Did8 at hP0
  rw [hps.out] at hP0
  have hP0 := hide hP0
  obtain ⟨q0, q1, q2, q3, q4⟩ := (hba.out.kept hk2 (by simp)).at
  go_wp2_with fail
  refine hP0.out.mono ?_
  rintro e w5 ⟨B5, rfl, h5a, h5b, h5c⟩
  clear q0 q1 q2 q3 q4
  have hbs5 := hide ((hbs.out.kept hk2 (by simp)).kept h5b (fun hm => by have := hBlt.out _ hm; omega))
  have hbz5 := hide ((hbz.out.kept hk2 (by simp)).kept h5b (fun hm => by have := hBlt.out _ hm; omega))
  have hC := rClear8_any r a n c ap np cp w5 hll.out (by have := hn9.out; have := hf9.out; omega)
  rw [hps.out] at hC
  have hC := hide hC
  obtain ⟨p0, p1, p2, p3, p4⟩ := hbs5.out.at
  go_upto_region 24 with fail
  go_wp2_with fail
  refine hC.out.mono ?_
  rintro e w6 ⟨rfl, j6⟩
  have hbz6 := hide (hbz5.out.kept j6 (by simp))
  clear p0 p1 p2 p3 p4
  go_wp2_with (refine wpList_store_rg rfl rfl rfl (w.heap.size + 1 + 1) rfl hbz6.out (r'.limit : Nat) (r'.places : Nat) (r'.first : Nat) none 0 0 none 0 0 rfl ?_; intro w9 hb99 hk69)
  have hls0 : r'.ls = [] := by rw [← hps.out]; rfl
  have hps0 : r'.ps = [] := by rw [← hps.out]; rfl
  have hH6 := hide ((HR.both (r' := r') (a' := none) (n' := 0) (c' := 0) (us' := []) (ap' := none) (np' := 0) (cp' := 0) hH2.out hw2 (Kept.refl [] w2) (by rw [hls0]; exact LnsR.nil _ _) (Nat.le_refl _) (Nat.zero_le _) (by rw [hps0]; exact Rd.nil _ _ _) (Nat.le_refl _) (Nat.zero_le _) (by simp [blkN]) (by simp [blkN]) (by simp [blks]) (Kept.refl [] w2) h5a h5b h5c).keep j6)
  have hO : Hid (∀ y, (y ∈ B5 ∨ y ∈ blkN none 0 ∨ y ∈ blks [] ∨ y ∈ blkN none 0) → y < w.heap.size ∨ w2.heap.size ≤ y) := hide (by
    rintro y (hy | hy | hy | hy)
    · exact (h5c y hy).imp (hBlt.out y) id
    · simp [blkN] at hy
    · simp [blks] at hy
    · simp [blkN] at hy)
  have hKB : Kept B w w9 := (((((hk0.trans hk2 (by simp)).mono (by simp)).trans h5b (fun y hy => .inl hy)).trans j6 (by simp))).trans hk69 (fun y hy => .inr (by simp at hy; omega))
  have hOO : ∀ y, (y ∈ B5 ∨ y ∈ blkN none 0 ∨ y ∈ blks [] ∨ y ∈ blkN none 0) → (y ∈ B ∨ y ∈ blkN a n ∨ y ∈ blks us ∨ y ∈ blkN ap np) ∨ w.heap.size ≤ y := by
    have h02 := hk2.size
    have h00 := hk0.size
    rintro y (hy | hy | hy | hy)
    · exact (h5c y hy).imp .inl (fun q => by omega)
    · simp [blkN] at hy
    · simp [blks] at hy
    · simp [blkN] at hy
  go_wp2_with fail
  refine bodyPost_ret (results_does8 rfl rfl hb99 rfl rfl) rfl ?_
  exact ⟨b, r', B5, none, 0, 0, [], none, 0, 0, rfl, hH6.out.mid hw2 hk69 hw0s.out (fun y hy => by simp at hy; have := hs2.out; omega) hO.out, hnx.out, hKB, hOO⟩
end Go.Proofs.YtnkddhmhjnhgcaaGreatDoor
namespace Go.Proofs.YtnkddhmhjnhgcaaGreatDoor
open Go.RowKit
set_option linter.unusedVariables false
set_option linter.unusedSimpArgs false
set_option maxRecDepth 100000

set_option maxHeartbeats 20000000 in
theorem does8Copy (w0 w : World) (b : Nat) (r : Rg) (B : List Nat) (a : Option Addr) (n c : Nat) (us : List LnA) (ap : Option Addr) (np cp : Nat) (h : HR w0 w b r B a n c us ap np cp) (hw2 : 2 ≤ w0.heap.size) (u : AcA) (l : List Cl) (hr : Rd w u.a u.n 16 (cellsV l)) (huc : u.n ≤ u.c) (hum : u.c ≤ maxLen) (hun : u.n ≤ 20) (k : Nat) (hk : r.next ≤ k) (hk9 : k ≤ 1000) (hwh : u.wh ≠ 0 ∧ u.wh ≠ 1 ∧ u.wh ≠ 2 ∧ u.wh ≠ 3 ∧ u.wh ≠ 4) :
    Calls Tryz.prog 8 #[.pointer (some ⟨b, 0, none⟩), .agg #[.int .i64 (r.limit : Nat), .int .i64 (r.places : Nat), .int .i64 (r.first : Nat), .slice a n c, .slice ap np cp], .agg #[.int .i64 u.wh, .int .i64 u.nm, .int .i64 u.to, .slice u.a u.n u.c, .bool u.s]] w (Does8Ret w0 w B a n us ap np (k + 1)) := by
  obtain ⟨W0, hW0⟩ : ∃ z : World, z = ((w.alloc (.cells #[.int .i64 (r.limit : Nat), .int .i64 (r.places : Nat), .int .i64 (r.first : Nat), .slice a n c, .slice ap np cp] 33)).alloc (.cells #[.int .i64 u.wh, .int .i64 u.nm, .int .i64 u.to, .slice u.a u.n u.c, .bool u.s] 38)).alloc (.cells #[.int .i64 0, .int .i64 0, .int .i64 0, .slice none 0 0, .slice none 0 0] 33) := ⟨_, rfl⟩
  have hk0 : Kept [] w W0 := by rw [hW0]; exact (((Kept.refl [] w).alloc _).alloc _).alloc _
  have hbs : Hid (RgIn W0 w.heap.size (r.limit : Nat) (r.places : Nat) (r.first : Nat) a n c ap np cp) := hide (by rw [hW0]; exact (RgIn.new w (r.limit : Nat) (r.places : Nat) (r.first : Nat) a n c ap np cp).kept (((Kept.refl [] _).alloc _).alloc _) (by simp))
  have hba : Hid (AcIn W0 (w.heap.size + 1) u) := hide (by rw [hW0]; exact AcIn.kept (heap_new_at (by simp)) ((Kept.refl [] _).alloc _) (by simp))
  have hbz : Hid (RgIn W0 (w.heap.size + 1 + 1) 0 0 0 none 0 0 none 0 0) := hide (by rw [hW0]; exact heap_new_at (by simp))
  have hs0 : w.heap.size + 1 + 1 < W0.heap.size := hbz.out.lt
  have hH := hide h
  have hR := hide (hr.kept hk0 (by simp))
  have hBlt := hide h.rn.lt
  have hNlt := hide (Rd.ltK (by decide) h.lr.rd)
  have hVlt := hide h.lr.at'.lt
  have hPlt := hide (Rd.ltK (by decide) h.pr)
  have hok := hide h.rn.ok
  have hll := hide h.lr.len
  have hpl := hide (h.pr.rowLen rowPa)
  have hw0s := hide h.kp.size
  have hkk := hide hk
  have hk99 := hide hk9
  have hn9 := hide (show n ≤ 1000 by have h1 := hll.out; have h2 : r.next = r.first + r.ls.length := rfl; omega)
  have hf9 := hide (show r.first ≤ 1000 by have h2 : r.next = r.first + r.ls.length := rfl; omega)
  have hx9 := hide (show r.next ≤ 1000000000 by omega)
  have hp9 := hide (show np ≤ 9000000 by
    have h1 := pages_most hok.out
    have h2 := hpl.out
    have h3 : r.limit / r.places ≤ r.limit := Nat.div_le_self _ _
    have h4 := hok.out.l2
    omega)
  have huc' := hide huc
  have hum' := hide hum
  clear h hr hk hk9 huc hum
  have hpp : Hid (∀ (b : Nat) w1, (binOp .eql 25 (.pointer (some ⟨b, 0, none⟩)) (.pointer none)).run Tryz.prog w1 = .ok (.bool false) w1) := hide (fun b w1 => by kernel_rfl)
  have e0 : (u.wh == 0) = false := by simp; omega
  have e1 : (u.wh == 1) = false := by simp; omega
  have e2 : (u.wh == 2) = false := by simp; omega
  have e3 : (u.wh == 3) = false := by simp; omega
  have e4 : (u.wh == 4) = false := by simp; omega
  replace hwh := hide hwh
  go_enter Tryz.func8, Tryz.ntmps8
  go_upto_region 1 with fail
  rw [← hW0]
  clear hW0
  obtain ⟨q0, q1, q2, q3, q4⟩ := hba.out.at
  go_wp2_with fail
  refine (rCopy_any u.a u.n u.c u.s l W0 hR.out (by omega)).mono ?_
  rintro e w1 ⟨ao, no, co, rfl, hoo, hoa, hob, j1⟩
  have hno : no ≤ 1000 := by have h1 := hoo.rd.clen; have h2 := hR.out.clen; omega
  go_upto_region 2 with (refine wpList_store_lin rfl rfl rfl w1.heap.size rfl (LinIn.new w1 none 0 0 false) ao no co u.s rfl ?_; intro w2 hb9 j2)
  have hj2 : Kept [] w1 w2 := ((Kept.refl [] w1).alloc (.cells #[.slice none 0 0, .bool false] 36)).trans j2 (by simp)
  have hk2 : Kept [] W0 w2 := j1.trans hj2 (by simp)
  have hw12 := hide hb9.lt
  have ho2 := hide (hoo.kept hj2 (by simp))
  have hoge := hide (fun y (hy : y ∈ blk ao) => hoo.ge y hy)
  have hb9 := hide hb9
  have hs1 := hide j1.size
  have hs2 := hide hk2.size
  clear q0 q1 q2 q3 q4 hoo j2 hj2 j1
  have hH2 := hide (hH.out.keep (hk0.trans hk2 (by simp)))
  obtain ⟨q0, q1, q2, q3, q4⟩ := (hba.out.kept hk2 (by simp)).at
  go_wp2_with fail
  refine (copy_n (ok := fun _ => True) ⟨B, hH2.out.rn, fun _ _ => trivial⟩ hx9.out).mono ?_
  rintro e w3 ⟨b3, B3, rfl, hr3, hB3, j3⟩
  clear q0 q1 q2 q3 q4
  have hpb := hpp.out b3
  have hs23 := hide j3.size
  have hlt3 := hide hr3.lt
  obtain ⟨ok, hokd⟩ : ∃ ok : Nat → Prop, ok = fun y => y ∈ B ∨ w3.heap.size ≤ y := ⟨_, rfl⟩
  have hH3 := hide (hH2.out.keep j3)
  have hn3 : Hid (∀ y, w3.heap.size ≤ y → ok y) := hide (fun y hy => by rw [hokd]; exact .inr hy)
  have hBok : Hid (∀ y ∈ B, ok y) := hide (fun y hy => by rw [hokd]; exact .inl hy)
  have hnok : Hid (∀ y, (y ∈ B3 ∨ y ∈ blkN a n ∨ y ∈ blks us ∨ y ∈ blkN ap np ∨ y = w.heap.size ∨ y = w.heap.size + 1 + 1) → ¬ ok y) := hide (fun y hy h => by
    rw [hokd] at h
    have h1 := hs23.out
    have h2 := hs2.out
    rcases h with h | h
    · have h3 := hBlt.out y h
      rcases hy with hm | hm | hm | hm | hm | hm
      · have := hB3 y hm; omega
      · exact hH3.out.d1 y hm h
      · exact hH3.out.d2 y hm h
      · exact hH3.out.d3 y hm h
      · omega
      · omega
    · rcases hy with hm | hm | hm | hm | hm | hm
      · have := hlt3.out y hm; omega
      · have := hNlt.out y hm; omega
      · have := hVlt.out y hm; omega
      · have := hPlt.out y hm; omega
      · omega
      · omega)
  have hgok : Hid (∀ y, ok y → w0.heap.size ≤ y ∧ (y ∈ B ∨ w3.heap.size ≤ y)) := hide (fun y hy => by
    rw [hokd] at hy
    refine ⟨?_, hy⟩
    rcases hy with h | h
    · exact hH3.out.ge y h
    · have h1 := hs23.out; have h2 := hs2.out; have h3 := hw0s.out; omega)
  have ho0 : Hid (¬ ok 0 ∧ ¬ ok 1) := hide ⟨fun h => by have := (hgok.out _ h).1; omega, fun h => by have := (hgok.out _ h).1; omega⟩
  have hkw3 := hide ((hk0.trans hk2 (by simp)).trans j3 (by simp))
  have hC3 : Hid (HR w0 w3 b3 r B3 a n c us ap np cp) := hide ⟨hH3.out.tb, hH3.out.kp, hr3, fun y hy => by have h1 := hB3 y hy; have h2 := hs2.out; have h3 := hw0s.out; omega, hH3.out.lr, hH3.out.nc, hH3.out.cm, hH3.out.pr, hH3.out.pc, hH3.out.pm,
    fun y hy hm => by have h1 := hB3 y hm; have h2 := hNlt.out y hy; have := hs2.out; omega, fun y hy hm => by have h1 := hB3 y hm; have h2 := hVlt.out y hy; have := hs2.out; omega, fun y hy hm => by have h1 := hB3 y hm; have h2 := hPlt.out y hy; have := hs2.out; omega⟩
  have hO : Hid (∀ y, (y ∈ B3 ∨ y ∈ blkN a n ∨ y ∈ blks us ∨ y ∈ blkN ap np) → y < w.heap.size ∨ w2.heap.size ≤ y) := hide (by
    rintro y (hy | hy | hy | hy)
    · exact .inr (hB3 y hy)
    · exact .inl (hNlt.out y hy)
    · exact .inl (hVlt.out y hy)
    · exact .inl (hPlt.out y hy))
  have hnx := hide (show r.next ≤ k + 1 by have := hkk.out; omega)
  have hbs3 := hide ((hbs.out.kept hk2 (by simp)).kept j3 (by simp))
  have hbz3 := hide ((hbz.out.kept hk2 (by simp)).kept j3 (by simp))
  have hB3 := hide hB3
  replace hokd := hide hokd
  clear hr3 j3 hpp
  go_wp2_with fail
  refine (text8_any 113 w3).mono ?_
  rintro e w4 ⟨ax, nx, cx, rfl, hox, hoxa, hoxb, j4⟩
  have hA4 : Hid (RN w4 b r B ∧ Tabs w4 ∧ ∀ y, w4.heap.size ≤ y → ok y) := hide ⟨hH3.out.rn.kept j4 (by simp), hH3.out.tb.kept j4, fun y hy => hn3.out y (Nat.le_trans j4.size hy)⟩
  have hPu : Hid (Calls Tryz.prog 34 #[.pointer (some ⟨b, 0, none⟩), .agg #[.slice ax nx cx, .bool false]] w4 fun e w' => (∃ v1 v2, e = .returned (.tuple #[.int .i64 v1, .int .i64 v2])) ∧ ∃ r1, RP ok w' b r1 ∧ KO ok w4 w' ∧ r1.next ≤ 2000) := hide (by
    have q2 := hBok.out
    refine (hA4.out.1.push hx9.out ax nx cx ⟨[runeC 113], false⟩ hA4.out.2.1 hox.rd (two8 ho0.out.1 ho0.out.2 q2) (fun y hy hm => by have h1 := hBlt.out y hm; have h2 := (hox.ge y (blkN_sub' hy)).1; have h3 := hs23.out; have h4 := hs2.out; omega)).mono ?_
    rintro e w' ⟨B', he, k1, k2, k3⟩
    exact ⟨⟨_, _, he⟩, _, ⟨B', k1, give8 hA4.out.2.2 q2 k3⟩, ⟨_, k2, q2⟩, by have h1 := pushG_next r ⟨[runeC 113], false⟩; have h2 := hkk.out; have h3 := hk99.out; omega⟩)
  have hK34 : Hid (KO ok w3 w4) := hide (.of j4)
  clear hox hoxa hoxb j4
  go_wp2_with fail
  refine hPu.out.mono ?_
  rintro e w5 ⟨⟨v1, v2, rfl⟩, r1, hR5, hK45, hx5⟩
  have hA5 : Hid (RP ok w5 b r1 ∧ Tabs w5 ∧ (∀ y, w5.heap.size ≤ y → ok y) ∧ r1.next ≤ 2000 ∧ KO ok w3 w5) := hide ⟨hR5, hK45.tabs hA4.out.2.1 ho0.out.1 ho0.out.2, fun y hy => hA4.out.2.2 y (Nat.le_trans hK45.size hy), hx5, hK34.out.trans hK45⟩
  clear hR5 hK45 hx5 hA4 hPu hK34
  go_wp2_with fail
  refine (first_n hA5.out.1 (r1.first : Nat) rfl).mono ?_
  rintro e w6 ⟨rfl, hR6, hK56⟩
  have hA6 : Hid (RP ok w6 b r1 ∧ Tabs w6 ∧ (∀ y, w6.heap.size ≤ y → ok y) ∧ r1.next ≤ 2000 ∧ KO ok w3 w6) := hide ⟨hR6, hK56.tabs hA5.out.2.1 ho0.out.1 ho0.out.2, fun y hy => hA5.out.2.2.1 y (Nat.le_trans hK56.size hy), hA5.out.2.2.2.1, hA5.out.2.2.2.2.trans hK56⟩
  clear hR6 hK56 hA5
  go_wp2_with fail
  refine (text8_any 112 w6).mono ?_
  rintro e w7 ⟨ax, nx, cx, rfl, hox, hoxa, hoxb, j7⟩
  obtain ⟨r2, z2, hr2⟩ : ∃ r2 z2, setG r1 (r1.first : Nat) ⟨[runeC 112], false⟩ = (r2, z2) := ⟨_, _, rfl⟩
  have hx2 := hide (show r2.next ≤ 2000 by have h1 := setG_next r1 (r1.first : Nat) ⟨[runeC 112], false⟩; rw [hr2] at h1; have h2 := hA6.out.2.2.2.1; simp only at h1; omega)
  have hT7 := hide (hA6.out.2.1.kept j7)
  have hN7 : Hid (∀ y, w7.heap.size ≤ y → ok y) := hide (fun y hy => hA6.out.2.2.1 y (Nat.le_trans j7.size hy))
  have hS7 := hide (set_n (hA6.out.1.keep j7) hN7.out hT7.out (r1.first : Nat) ax nx cx ⟨[runeC 112], false⟩ hox.rd r2 z2 (by have := hA6.out.2.2.2.1; omega) hr2)
  have hK37 : Hid (KO ok w3 w7) := hide (hA6.out.2.2.2.2.trans (.of j7))
  clear hox hoxa hoxb j7 hr2 hA6
  go_wp2_with fail
  refine hS7.out.mono ?_
  rintro e w8a ⟨rfl, hR8, hK78⟩
  obtain ⟨r3, z3, hr3⟩ : ∃ r3 z3, limitG r2 1 = (r3, z3) := ⟨_, _, rfl⟩
  have hL8 := hide (limit_n hR8 (fun y hy => hN7.out y (Nat.le_trans hK78.size hy)) 1 r3 z3 (by have := hx2.out; omega) hr3)
  have hK38 : Hid (KO ok w3 w8a) := hide (hK37.out.trans hK78)
  clear hR8 hK78 hr3 hS7 hK37
  go_wp2_with fail
  refine hL8.out.mono ?_
  rintro e w8 ⟨rfl, hR9, hK89⟩
  have hK39 := hK38.out.trans hK89
  have hbs8 : Hid (RgIn w8 w.heap.size (r.limit : Nat) (r.places : Nat) (r.first : Nat) a n c ap np cp) := hide (by obtain ⟨S, q1, q2⟩ := hK39; exact hbs3.out.kept q1 (fun hm => hnok.out _ (by simp) (q2 _ hm)))
  have hbz6 : Hid (RgIn w8 (w.heap.size + 1 + 1) 0 0 0 none 0 0 none 0 0) := hide (by obtain ⟨S, q1, q2⟩ := hK39; exact hbz3.out.kept q1 (fun hm => hnok.out _ (by simp) (q2 _ hm)))
  have hH6 : Hid (HR w0 w8 b3 r B3 a n c us ap np cp) := hide (by obtain ⟨S, q1, q2⟩ := hK39; exact hC3.out.apart hw2 q1 (fun y hy => (hgok.out _ (q2 _ hy)).1) (fun y hy hm => hnok.out y (by rcases hy with hy | hy | hy | hy <;> simp [hy]) (q2 _ hm)))
  have hKB8 : Hid (Kept B w w8) := hide (by obtain ⟨S, q1, q2⟩ := hK39; exact (hkw3.out.mono (by simp)).trans q1 (fun y hy => (hgok.out _ (q2 _ hy)).2.imp id (fun q => by have := hkw3.out.size; omega)))
  clear hR9 hK89 hK39 hK38 hL8
  go_upto_region 31 with fail
  have hne : w.heap.size ≠ w.heap.size + 1 + 1 := by have := hs2.out; skip; omega
  refine wp_region_held_drew (S := (fun W => RgIn W (w.heap.size) (r.limit : Nat) (r.places : Nat) (r.first : Nat) a n c ap np cp)) (by kernel_rfl) ?_ (fun hHeld => ?_)
  · (try dsimp only); (first | exact hS9 | exact hbs8.out.kept (Kept.refl [] w8).drew (by simp))
  refine wpAnyH_take (i := 0) (v := ?_) rfl (by kernel_rfl) (by kernel_rfl) (by kernel_rfl) (fun _ _ _ h => h) (Or.inl ⟨by rfl, ?_⟩) (by assumption) ?_
  rotate_left
  · (intro wq hSw; (try dsimp only at hSw); go_simp; try with_reducible rfl)
  try simp only [Act.put, List.getElem_toArray, List.getElem_cons_zero, List.setIfInBounds_toArray, List.set_cons_zero, List.set_cons_succ]
  refine wpAnyH_take (i := 1) (v := (.agg #[.int .i64 (r.limit : Nat), .int .i64 (r.places : Nat), .int .i64 (r.first : Nat), .slice a n c, .slice ap np cp])) rfl (by kernel_rfl) (by kernel_rfl) (by kernel_rfl) (fun _ _ _ h => h) (yieldsIf_load_mid (by rfl) 33 _ rfl (w.heap.size) 0 rfl (rgL (r.limit : Nat) (r.places : Nat) (r.first : Nat) a n c ap np cp) _ (fun _ h => h.range) Tryz.underlying33 rfl (by kernel_rfl)) (by assumption) ?_
  try simp only [Act.put, List.getElem_toArray, List.getElem_cons_succ, List.getElem_cons_zero, List.setIfInBounds_toArray, List.set_cons_zero, List.set_cons_succ]
  refine wpAnyH_take (i := 2) (v := ?_) rfl (by kernel_rfl) (by kernel_rfl) (by kernel_rfl) (fun _ _ _ h => h) (Or.inl ⟨by rfl, ?_⟩) (by assumption) ?_
  rotate_left
  · (intro wq hSw; (try dsimp only at hSw); go_simp; try with_reducible rfl)
  try simp only [Act.put, List.getElem_toArray, List.getElem_cons_succ, List.getElem_cons_zero, List.setIfInBounds_toArray, List.set_cons_zero, List.set_cons_succ]
  refine wpAnyH_ready (rs := [3]) (by kernel_rfl) (by simp) ?_
  refine AllReadyH.cons rfl (fun K hK => ?_) AllReadyH.nil
  rw [if_pos (by rfl)]
  refine wp_store_rg rfl rfl (w.heap.size + 1 + 1) rfl (hbz6.out.kept (Kept.refl [] w8).drew (by simp)) (r.limit : Nat) (r.places : Nat) (r.first : Nat) a n c ap np cp rfl ?_; intro w9 hb99 j9; have hS9 := (hbs8.out.kept (Kept.refl [] w8).drew (by simp)).kept j9 (by simpa using hne)
  refine hK.out _ _ ?_ (fun hHeld => ?_)
  · (try dsimp only); (first | exact hS9 | exact hbs8.out.kept (Kept.refl [] w8).drew (by simp))
  clear hK K
  try simp only [Act.put, List.getElem_toArray, List.getElem_cons_succ, List.getElem_cons_zero, List.setIfInBounds_toArray, List.set_cons_zero, List.set_cons_succ]
  refine wpAnyH_take (i := 4) (v := ?_) rfl (by kernel_rfl) (by kernel_rfl) (by kernel_rfl) (fun _ _ _ h => h) (Or.inl ⟨by rfl, ?_⟩) (by assumption) ?_
  rotate_left
  · (intro wq hSw; (try dsimp only at hSw); go_simp; try with_reducible rfl)
  try simp only [Act.put, List.getElem_toArray, List.getElem_cons_succ, List.getElem_cons_zero, List.setIfInBounds_toArray, List.set_cons_zero, List.set_cons_succ]
  refine wpAnyH_done (by kernel_rfl) ?_ _
  have hk69 : Kept [w.heap.size + 1 + 1] w8 w9 := (((Kept.refl [] w8).drew).mono (by simp)).trans j9 (fun y hy => .inl hy)
  have hKB : Kept B w w9 := (hKB8.out).trans hk69 (fun y hy => .inr (by simp at hy; omega))
  have hOO : ∀ y, (y ∈ B3 ∨ y ∈ blkN a n ∨ y ∈ blks us ∨ y ∈ blkN ap np) → (y ∈ B ∨ y ∈ blkN a n ∨ y ∈ blks us ∨ y ∈ blkN ap np) ∨ w.heap.size ≤ y := by
    rintro y (hy | hy)
    · exact .inr (by have := hB3.out y hy; have := hs2.out; omega)
    · exact .inl (.inr hy)
  go_wp2_with fail
  refine bodyPost_ret (results_does8 rfl rfl hb99 rfl rfl) rfl ?_
  exact ⟨b3, r, B3, a, n, c, us, ap, np, cp, rfl, hH6.out.mid hw2 hk69 hw0s.out (fun y hy => by simp at hy; have := hs2.out; omega) hO.out, hnx.out, hKB, hOO⟩
end Go.Proofs.YtnkddhmhjnhgcaaGreatDoor
