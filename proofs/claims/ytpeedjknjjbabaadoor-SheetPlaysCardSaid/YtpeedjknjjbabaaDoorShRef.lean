/- The reference's functions of layer 7: Push, Set, Drop, Pop. -/
import Derived.Test.YtpeedjknjjbabaaDoorShMem
import Derived.Test.YtpeedjknjjbabaaDoorQuick
namespace Go.Proofs.YtpeedjknjjbabaaDoor
open Go.RowKit
set_option linter.unusedVariables false
set_option maxRecDepth 100000

/-- A slice of lines that is made in place. -/
theorem wp_bsLn {o : Oper} {A : Act} {w : World} {K : Act → World → Prop} {Q : Exit → Act → World → Prop} (len : Nat) (parts : Array (Nat × Operand)) (ho : o.op = .buildSlice 30 len parts)
    (l : List LnA) (hl : l.length = len) (hsmall : ¬ len * 2 > 2 ^ 24) (hpos : ¬ len * 2 = 0)
    (hf : Instr.fill (fun i => some (i * 2, 2)) ((Array.range (len * 2)).map ((Value.agg #[.slice none 0 0, .bool false]).cells[· % (Value.agg #[.slice none 0 0, .bool false]).cells.size]!)) (parts.map fun (i, x) => (i, A.eval x)).toList = some (rowsV lnV l).toArray)
    (h : ∀ g w', w.heap.size ≤ g → Rd w' (some ⟨g, 0, none⟩) len 2 (rowsV lnV l) → Kept [] w w' → K (A.put o.dst (.slice (some ⟨g, 0, none⟩) len len)) w') : o.wp Tryd.prog A w K Q := by
  obtain ⟨i, hi, hz0, hz1, hz2⟩ := info_parts elLine.info
  refine wp_buildSlice (P := Tryd.prog) 30 35 len parts ho (rowsV lnV l).toArray i _ Tryd.underlying30 hi hz0 (by rw [hz1]; exact hsmall) (by rw [hz1]; exact hpos) (by rw [hz1]; exact hf) ?_
  refine h _ _ (Nat.le_refl _) ?_ ((Kept.refl [] w).alloc _)
  have hr := Rd.ofBlock rowLn (l := l) (heap_alloc_new w (.cells (rowsV lnV l).toArray 35)) rfl
  rw [hl] at hr
  exact hr
/-- What a function of the reference returns that returns a page and a number: the lines lie in blocks that they lay in, or in new ones. -/
def ShGive (w : World) (a : Option Addr) (n : Nat) (vs : List LnA) (r : Sh × Int) (e : Ending) (w' : World) : Prop :=
  ∃ a' n' c' vs', e = .returned (.tuple #[.agg #[.int .i64 (r.1.places : Int), .int .i64 (r.1.gone : Int), .slice a' n' c'], .int .i64 r.2]) ∧ LnsR w' a' n' vs' r.1.ls ∧ n' ≤ c' ∧ c' ≤ maxLen ∧ Kept [] w w' ∧ (∀ x ∈ blkN a' n', x ∈ blkN a n ∨ w.heap.size ≤ x) ∧ (∀ x ∈ blks vs', x ∈ blks vs ∨ w.heap.size ≤ x)

set_option maxHeartbeats 4000000 in
theorem rPush_bad (p g : Nat) (a : Option Addr) (n c : Nat) (vs : List LnA) (ls : List Ln) (a1 : Option Addr) (n1 c1 : Nat) (x : Ln) (w : World) (hr : LnsR w a n vs ls) (hnc : n ≤ c) (hcm : c ≤ maxLen) (hr1 : Rd w a1 n1 16 (cellsV x.l)) (hv : validL x.l = false) :
    Calls Tryd.prog 29 #[.agg #[.int .i64 (p : Int), .int .i64 (g : Int), .slice a n c], .agg #[.slice a1 n1 c1, .bool x.s]] w (ShGive w a n vs (⟨p, g, ls⟩, 2)) := by
  obtain ⟨W0, hW0⟩ : ∃ z : World, z = ((w.alloc (.cells #[.int .i64 (p : Int), .int .i64 (g : Int), .slice a n c] 32)).alloc (.cells #[.slice a1 n1 c1, .bool x.s] 35)).alloc (.cells #[.int .i64 0, .int .i64 0, .slice none 0 0] 32) := ⟨_, rfl⟩
  have hk0 : Kept [] w W0 := by rw [hW0]; exact (((Kept.refl [] w).alloc _).alloc _).alloc _
  have hb0 : Hid (ShIn W0 w.heap.size p g a n c) := hide (by rw [hW0]; exact (ShIn.new w p g a n c).kept (((Kept.refl [] _).alloc _).alloc _) (by simp))
  have hl0 : Hid (LinIn W0 (w.heap.size + 1) a1 n1 c1 x.s) := hide (by rw [hW0]; exact LinIn.kept (heap_new_at (by simp)) ((Kept.refl [] _).alloc _) (by simp))
  have hz0 : Hid (ShIn W0 (w.heap.size + 1 + 1) 0 0 none 0 0) := hide (by rw [hW0]; exact heap_new_at (by simp))
  have hV := hide (rValid6_any a1 n1 c1 x.s x.l W0 (hr1.kept hk0 (by simp)))
  rw [hv] at hV
  have hR := hide hr
  clear hr hr1 hv
  go_enter Tryd.func29, Tryd.ntmps29
  go_upto_region 1 with fail
  rw [← hW0]
  clear hW0
  obtain ⟨q0, q1⟩ := hl0.out.at
  go_wp2_with fail
  refine hV.out.mono ?_
  rintro e w1 ⟨rfl, hk1⟩
  clear q0 q1
  obtain ⟨q0, q1, q2⟩ := (hb0.out.kept hk1 (by simp)).at
  go_wp2_with (refine wpList_store_sh rfl rfl rfl (w.heap.size + 1 + 1) rfl (hz0.out.kept hk1 (by simp)) p g a n c rfl ?_; intro w7 hb7 hk7)
  refine bodyPost_ret (results_sh2 rfl rfl hb7 rfl) rfl ?_
  have hk := (hk0.trans hk1 (by simp)).trans hk7 (by intro y hy; simp at hy; omega)
  exact ⟨a, n, c, vs, rfl, hR.out.kept hk (by simp) (by simp), hnc, hcm, hk, fun y hy => .inl hy, fun y hy => .inl hy⟩

set_option maxHeartbeats 4000000 in
theorem rPush_full (p g : Nat) (a : Option Addr) (n c : Nat) (vs : List LnA) (ls : List Ln) (a1 : Option Addr) (n1 c1 : Nat) (x : Ln) (w : World) (hr : LnsR w a n vs ls) (hnc : n ≤ c) (hcm : c ≤ maxLen) (hr1 : Rd w a1 n1 16 (cellsV x.l)) (hv : validL x.l = true) (hp : p ≤ 100000) (hle : g + n ≤ p) (hroom : p - g - n = 0) :
    Calls Tryd.prog 29 #[.agg #[.int .i64 (p : Int), .int .i64 (g : Int), .slice a n c], .agg #[.slice a1 n1 c1, .bool x.s]] w (ShGive w a n vs (⟨p, g, ls⟩, 7)) := by
  obtain ⟨W0, hW0⟩ : ∃ z : World, z = ((w.alloc (.cells #[.int .i64 (p : Int), .int .i64 (g : Int), .slice a n c] 32)).alloc (.cells #[.slice a1 n1 c1, .bool x.s] 35)).alloc (.cells #[.int .i64 0, .int .i64 0, .slice none 0 0] 32) := ⟨_, rfl⟩
  have hk0 : Kept [] w W0 := by rw [hW0]; exact (((Kept.refl [] w).alloc _).alloc _).alloc _
  have hb0 : Hid (ShIn W0 w.heap.size p g a n c) := hide (by rw [hW0]; exact (ShIn.new w p g a n c).kept (((Kept.refl [] _).alloc _).alloc _) (by simp))
  have hl0 : Hid (LinIn W0 (w.heap.size + 1) a1 n1 c1 x.s) := hide (by rw [hW0]; exact LinIn.kept (heap_new_at (by simp)) ((Kept.refl [] _).alloc _) (by simp))
  have hz0 : Hid (ShIn W0 (w.heap.size + 1 + 1) 0 0 none 0 0) := hide (by rw [hW0]; exact heap_new_at (by simp))
  have hV := hide (rValid6_any a1 n1 c1 x.s x.l W0 (hr1.kept hk0 (by simp)))
  rw [hv] at hV
  have hRo := hide (fun w1 => rRoom_any p g a n c w1 hle hp)
  rw [hroom] at hRo
  have hR := hide hr
  clear hr hr1 hv
  go_enter Tryd.func29, Tryd.ntmps29
  go_upto_region 1 with fail
  rw [← hW0]
  clear hW0
  obtain ⟨q0, q1⟩ := hl0.out.at
  go_wp2_with fail
  refine hV.out.mono ?_
  rintro e w1 ⟨rfl, hk1⟩
  clear q0 q1
  obtain ⟨q0, q1, q2⟩ := (hb0.out.kept hk1 (by simp)).at
  go_wp2_with fail
  refine (hRo.out w1).mono ?_
  rintro e w2 ⟨rfl, hj2⟩
  have hk2 := hk1.trans hj2 (by simp)
  clear q0 q1 q2
  obtain ⟨q0, q1, q2⟩ := (hb0.out.kept hk2 (by simp)).at
  go_wp2_with (refine wpList_store_sh rfl rfl rfl (w.heap.size + 1 + 1) rfl (hz0.out.kept hk2 (by simp)) p g a n c rfl ?_; intro w7 hb7 hk7)
  refine bodyPost_ret (results_sh2 rfl rfl hb7 rfl) rfl ?_
  have hk := (hk0.trans hk2 (by simp)).trans hk7 (by intro y hy; simp at hy; omega)
  exact ⟨a, n, c, vs, rfl, hR.out.kept hk (by simp) (by simp), hnc, hcm, hk, fun y hy => .inl hy, fun y hy => .inl hy⟩

set_option maxHeartbeats 4000000 in
theorem rPush_good (p g : Nat) (a : Option Addr) (n c : Nat) (vs : List LnA) (ls : List Ln) (a1 : Option Addr) (n1 c1 : Nat) (x : Ln) (w : World) (hr : LnsR w a n vs ls) (hr1 : Rd w a1 n1 16 (cellsV x.l)) (hv : validL x.l = true) (hp : p ≤ 100000) (hle : g + n ≤ p) (hroom : p - g - n ≠ 0) :
    Calls Tryd.prog 29 #[.agg #[.int .i64 (p : Int), .int .i64 (g : Int), .slice a n c], .agg #[.slice a1 n1 c1, .bool x.s]] w (ShGive w a n vs (⟨p, g, ls ++ [x]⟩, 0)) := by
  obtain ⟨W0, hW0⟩ : ∃ z : World, z = ((w.alloc (.cells #[.int .i64 (p : Int), .int .i64 (g : Int), .slice a n c] 32)).alloc (.cells #[.slice a1 n1 c1, .bool x.s] 35)).alloc (.cells #[.int .i64 0, .int .i64 0, .slice none 0 0] 32) := ⟨_, rfl⟩
  have hk0 : Kept [] w W0 := by rw [hW0]; exact (((Kept.refl [] w).alloc _).alloc _).alloc _
  have hb0 : Hid (ShIn W0 w.heap.size p g a n c) := hide (by rw [hW0]; exact (ShIn.new w p g a n c).kept (((Kept.refl [] _).alloc _).alloc _) (by simp))
  have hl0 : Hid (LinIn W0 (w.heap.size + 1) a1 n1 c1 x.s) := hide (by rw [hW0]; exact LinIn.kept (heap_new_at (by simp)) ((Kept.refl [] _).alloc _) (by simp))
  have hz0 : Hid (ShIn W0 (w.heap.size + 1 + 1) 0 0 none 0 0) := hide (by rw [hW0]; exact heap_new_at (by simp))
  have hV := hide (rValid6_any a1 n1 c1 x.s x.l W0 (hr1.kept hk0 (by simp)))
  rw [hv] at hV
  have hRo := hide (fun w1 => rRoom_any p g a n c w1 hle hp)
  have hrm : ((((p - g - n : Nat) : Int)) == 0) = false := by simp; omega
  have hn1 := hide (show n1 ≤ 1000000 by have h1 := hr1.clen; unfold validL at hv; simp at hv; omega)
  have hnp : n ≤ 100000 := by omega
  have hR := hide hr
  have hR1 := hide hr1
  clear hr hr1 hv
  generalize p - g - n = m at *
  go_enter Tryd.func29, Tryd.ntmps29
  go_upto_region 1 with fail
  rw [← hW0]
  clear hW0
  obtain ⟨q0, q1⟩ := hl0.out.at
  go_wp2_with fail
  refine hV.out.mono ?_
  rintro e w1 ⟨rfl, hk1⟩
  clear q0 q1
  obtain ⟨q0, q1, q2⟩ := (hb0.out.kept hk1 (by simp)).at
  go_wp2_with fail
  refine (hRo.out w1).mono ?_
  rintro e w2 ⟨rfl, hj2⟩
  have hk2 := hk1.trans hj2 (by simp)
  clear q0 q1 q2
  go_upto_region 5 with fail
  have hb2 := hide (hb0.out.kept hk2 (by simp))
  have hl2 := hide (hl0.out.kept hk2 (by simp))
  have hF : ∀ {w' : World}, Kept [] w2 w' → (w'.cell? ⟨w.heap.size, 0, none⟩ = some (.int .i64 p) ∧ w'.cell? ⟨w.heap.size, 1, none⟩ = some (.int .i64 g) ∧ w'.cell? ⟨w.heap.size, 2, none⟩ = some (.slice a n c)) ∧ (w'.cell? ⟨w.heap.size + 1, 0, none⟩ = some (.slice a1 n1 c1) ∧ w'.cell? ⟨w.heap.size + 1, 1, none⟩ = some (.bool x.s)) := fun hk => ⟨(hb2.out.kept hk (by simp)).at, (hl2.out.kept hk (by simp)).at⟩
  have hs0 := hk0.size
  have hs2 := hk2.size
  have hw2 := hk0.trans hk2 (by simp)
  refine wp_region_held_drew (S := (fun w' => (w'.cell? ⟨w.heap.size, 0, none⟩ = some (.int .i64 p) ∧ w'.cell? ⟨w.heap.size, 1, none⟩ = some (.int .i64 g) ∧ w'.cell? ⟨w.heap.size, 2, none⟩ = some (.slice a n c)) ∧ (w'.cell? ⟨w.heap.size + 1, 0, none⟩ = some (.slice a1 n1 c1) ∧ w'.cell? ⟨w.heap.size + 1, 1, none⟩ = some (.bool x.s)))) (by kernel_rfl) ?_ (fun hHeld => ?_)
  · (try dsimp only); (first | exact hF8 | exact hF k7 | exact hF k6 | exact hF k5 | exact hF k4 | exact hF k3 | exact hF (Kept.refl [] w2).drew)
  refine wpAnyH_take (i := 0) (v := ?_) rfl (by kernel_rfl) (by kernel_rfl) (by kernel_rfl) (fun _ _ _ h => h) (Or.inl ⟨by rfl, ?_⟩) (by assumption) ?_
  rotate_left
  · (intro wq hSw; (try dsimp only at hSw); go_simp; try with_reducible rfl)
  try simp only [Act.put, List.getElem_toArray, List.getElem_cons_zero, List.setIfInBounds_toArray, List.set_cons_zero, List.set_cons_succ]
  refine wpAnyH_take (i := 1) (v := ?_) rfl (by kernel_rfl) (by kernel_rfl) (by kernel_rfl) (fun _ _ _ h => h) (Or.inl ⟨by rfl, ?_⟩) (by assumption) ?_
  rotate_left
  · (intro wq hSw; (try dsimp only at hSw); go_simp; try with_reducible rfl)
  try simp only [Act.put, List.getElem_toArray, List.getElem_cons_succ, List.getElem_cons_zero, List.setIfInBounds_toArray, List.set_cons_zero, List.set_cons_succ]
  refine wpAnyH_take (i := 2) (v := ?_) rfl (by kernel_rfl) (by kernel_rfl) (by kernel_rfl) (fun _ _ _ h => h) (Or.inl ⟨by rfl, ?_⟩) (by assumption) ?_
  rotate_left
  · (intro wq hSw; (try dsimp only at hSw); go_simp; try with_reducible rfl)
  try simp only [Act.put, List.getElem_toArray, List.getElem_cons_succ, List.getElem_cons_zero, List.setIfInBounds_toArray, List.set_cons_zero, List.set_cons_succ]
  refine wpAnyH_take (i := 4) (v := ?_) rfl (by kernel_rfl) (by kernel_rfl) (by kernel_rfl) (fun _ _ _ h => h) (Or.inl ⟨by rfl, ?_⟩) (by assumption) ?_
  rotate_left
  · (intro wq hSw; (try dsimp only at hSw); go_simp; try with_reducible rfl)
  try simp only [Act.put, List.getElem_toArray, List.getElem_cons_succ, List.getElem_cons_zero, List.setIfInBounds_toArray, List.set_cons_zero, List.set_cons_succ]
  refine wpAnyH_ready (rs := [3]) (by kernel_rfl) (by simp) ?_
  refine AllReadyH.cons rfl (fun K hK => ?_) AllReadyH.nil
  rw [if_pos (by rfl)]
  refine wp_app ?_ elLine rfl rfl (Own.nil w2.drew w.heap.size 35 2) rfl (hR.out.rd.kept (hw2.trans (Kept.refl [] w2).drew (by simp)) (by simp)) (rowsV_oneCell rowLn vs) (by omega) (by have := hw2.size; exact this); intro a3 c3 w3 ho3 hj3 hat3; rw [Nat.zero_add, List.nil_append] at ho3; have k3 : Kept [] w2 w3 := (Kept.refl [] w2).drew.trans hj3 (by simp [blk]); have hge3 : ∀ y ∈ blk a3, w2.heap.size ≤ y := fun y hy => by rcases hat3 y hy with h | h; exact absurd h (by simp [blk]); exact h
  refine hK.out _ _ ?_ (fun hHeld => ?_)
  · (try dsimp only); (first | exact hF8 | exact hF k7 | exact hF k6 | exact hF k5 | exact hF k4 | exact hF k3 | exact hF (Kept.refl [] w2).drew)
  clear hK K
  try simp only [Act.put, List.getElem_toArray, List.getElem_cons_succ, List.getElem_cons_zero, List.setIfInBounds_toArray, List.set_cons_zero, List.set_cons_succ]
  refine wpAnyH_ready (rs := [5]) (by kernel_rfl) (by simp) ?_
  refine AllReadyH.cons rfl (fun K hK => ?_) AllReadyH.nil
  go_simp
  refine (rCopy_any a1 n1 c1 x.s x.l w3 (hR1.out.kept (hw2.trans k3 (by simp)) (by simp)) hn1.out).mono ?_; rintro e w4 ⟨a4, n4, c4, rfl, ho4, h4a, h4b, hj4⟩; have k4 : Kept [] w2 w4 := k3.trans hj4 (by simp)
  try go_wp2_with fail
  refine hK.out _ _ ?_ (fun hHeld => ?_)
  · (try dsimp only); (first | exact hF8 | exact hF k7 | exact hF k6 | exact hF k5 | exact hF k4 | exact hF k3 | exact hF (Kept.refl [] w2).drew)
  clear hK K
  try simp only [Act.put, List.getElem_toArray, List.getElem_cons_succ, List.getElem_cons_zero, List.setIfInBounds_toArray, List.set_cons_zero, List.set_cons_succ]
  refine wpAnyH_ready (rs := [6]) (by kernel_rfl) (by simp) ?_
  refine AllReadyH.cons rfl (fun K hK => ?_) AllReadyH.nil
  rw [if_pos (by rfl)]
  refine wp_bsLn 1 _ rfl [⟨a4, n4, c4, x.s⟩] rfl (by decide) (by decide) (by kernel_rfl) ?_; intro g5 w5 hg5 hr5 hj5; have k5 : Kept [] w2 w5 := k4.trans hj5 (by simp); have ho35 := (ho3.kept hj4 (by simp)).kept hj5 (by simp)
  refine hK.out _ _ ?_ (fun hHeld => ?_)
  · (try dsimp only); (first | exact hF8 | exact hF k7 | exact hF k6 | exact hF k5 | exact hF k4 | exact hF k3 | exact hF (Kept.refl [] w2).drew)
  clear hK K
  try simp only [Act.put, List.getElem_toArray, List.getElem_cons_succ, List.getElem_cons_zero, List.setIfInBounds_toArray, List.set_cons_zero, List.set_cons_succ]
  refine wpAnyH_ready (rs := [7]) (by kernel_rfl) (by simp) ?_
  refine AllReadyH.cons rfl (fun K hK => ?_) AllReadyH.nil
  rw [if_pos (by rfl)]
  refine wp_app ?_ elLine rfl rfl ho35 rfl hr5 (rowsV_oneCell rowLn _) (by omega) (by have := (hw2.trans k5 (by simp)).size; exact this); intro a6 c6 w6 ho6 hj6 hat6; have k6 : Kept [] w2 w6 := k5.trans hj6 (fun y hy => .inr (hge3 y hy))
  refine hK.out _ _ ?_ (fun hHeld => ?_)
  · (try dsimp only); (first | exact hF8 | exact hF k7 | exact hF k6 | exact hF k5 | exact hF k4 | exact hF k3 | exact hF (Kept.refl [] w2).drew)
  clear hK K
  try simp only [Act.put, List.getElem_toArray, List.getElem_cons_succ, List.getElem_cons_zero, List.setIfInBounds_toArray, List.set_cons_zero, List.set_cons_succ]
  refine wpAnyH_ready (rs := [8]) (by kernel_rfl) (by simp) ?_
  refine AllReadyH.cons rfl (fun K hK => ?_) AllReadyH.nil
  go_simp
  refine (rWith_any p g a n c a6 (n + 1) c6 w6).mono ?_; rintro e w7 ⟨rfl, hj7⟩; have k7 : Kept [] w2 w7 := k6.trans hj7 (by simp)
  try go_wp2_with fail
  refine hK.out _ _ ?_ (fun hHeld => ?_)
  · (try dsimp only); (first | exact hF8 | exact hF k7 | exact hF k6 | exact hF k5 | exact hF k4 | exact hF k3 | exact hF (Kept.refl [] w2).drew)
  clear hK K
  try simp only [Act.put, List.getElem_toArray, List.getElem_cons_succ, List.getElem_cons_zero, List.setIfInBounds_toArray, List.set_cons_zero, List.set_cons_succ]
  refine wpAnyH_ready (rs := [9]) (by kernel_rfl) (by simp) ?_
  refine AllReadyH.cons rfl (fun K hK => ?_) AllReadyH.nil
  rw [if_pos (by rfl)]
  refine wp_store_sh rfl rfl (w.heap.size + 1 + 1) rfl (hz0.out.kept (hk2.trans k7 (by simp)) (by simp)) p g a6 (n + 1) c6 rfl ?_; intro w8 hb8 hk8; have hF8 := And.intro (And.intro (hk8.cell (hF k7).1.1 (by simp; omega)) (And.intro (hk8.cell (hF k7).1.2.1 (by simp; omega)) (hk8.cell (hF k7).1.2.2 (by simp; omega)))) (And.intro (hk8.cell (hF k7).2.1 (by simp)) (hk8.cell (hF k7).2.2 (by simp)))
  refine hK.out _ _ ?_ (fun hHeld => ?_)
  · (try dsimp only); (first | exact hF8 | exact hF k7 | exact hF k6 | exact hF k5 | exact hF k4 | exact hF k3 | exact hF (Kept.refl [] w2).drew)
  clear hK K
  try simp only [Act.put, List.getElem_toArray, List.getElem_cons_succ, List.getElem_cons_zero, List.setIfInBounds_toArray, List.set_cons_zero, List.set_cons_succ]
  refine wpAnyH_take (i := 10) (v := ?_) rfl (by kernel_rfl) (by kernel_rfl) (by kernel_rfl) (fun _ _ _ h => h) (Or.inl ⟨by rfl, ?_⟩) (by assumption) ?_
  rotate_left
  · (intro wq hSw; (try dsimp only at hSw); go_simp; try with_reducible rfl)
  try simp only [Act.put, List.getElem_toArray, List.getElem_cons_succ, List.getElem_cons_zero, List.setIfInBounds_toArray, List.set_cons_zero, List.set_cons_succ]
  refine wpAnyH_done (by kernel_rfl) ?_ _
  go_wp2_with fail
  refine bodyPost_ret (results_sh2 rfl rfl hb8 rfl) rfl ?_
  have hk := (hw2.trans k7 (by simp)).trans hk8 (by intro y hy; simp at hy; omega)
  have hs3 := k3.size
  have hge6 : ∀ y ∈ blk a6, w2.heap.size ≤ y := fun y hy => by
    rcases hat6 y hy with h | h
    · exact hge3 y h
    · have := k5.size; omega
  have hge4 : ∀ y ∈ blk a4, w2.heap.size ≤ y := fun y hy => by have := (ho4.ge y hy).1; omega
  have hbox : w.heap.size + 1 + 1 < w2.heap.size := by have := (hz0.out.kept hk2 (by simp)).lt; exact this
  have ho68 := ((ho6.kept hj7 (by simp)).kept hk8 (fun y hy hm => by simp at hm; have := hge6 y hy; omega)).rd
  have ho48 := ((((ho4.kept hj5 (by simp)).kept hj6 (fun y hy hm => by have h1 := (ho3.ge y hm).2; have h2 := (ho4.ge y hy).1; omega)).kept hj7 (by simp)).kept hk8 (fun y hy hm => by simp at hm; have := hge4 y hy; omega)).rd
  have hcap := ho6.caps
  refine ⟨a6, n + 1, c6, vs ++ [⟨a4, n4, c4, x.s⟩], rfl, ⟨by rw [rowsV_app]; exact ho68, (hR.out.at'.kept hk (by simp)).app (.cons ⟨ho48, rfl, h4a, h4b⟩ .nil)⟩, hcap.1, hcap.2, hk, fun y hy => .inr ?_, fun y hy => ?_⟩
  · unfold blkN at hy
    rw [if_neg (by omega)] at hy
    have := hge6 y hy
    omega
  · rw [blks_app] at hy
    rcases List.mem_append.1 hy with h | h
    · exact .inl h
    · right
      simp only [blks, List.flatMap_cons, List.flatMap_nil, List.append_nil] at h
      unfold blkN at h
      split at h
      · cases h
      · have := hge4 y h; omega
end Go.Proofs.YtpeedjknjjbabaaDoor
