/- Pens: valid ones, their words, and back: the program's and the reference's. -/
import Derived.Test.YtjhekofnecojkaaDoorPenBits
namespace Go.Proofs.YtjhekofnecojkaaDoor
open Go.RowKit
set_option linter.unusedVariables false

/-- A pen in a block, from its first cell on. -/
def PenAt (W : World) (b : Nat) (p : Pn) : Prop := W.cell? ⟨b, 0, none⟩ = some (.int .i64 p.f.k) ∧ W.cell? ⟨b, 1, none⟩ = some (.int .u8 p.f.i) ∧ W.cell? ⟨b, 2, none⟩ = some (.int .u8 p.f.r) ∧ W.cell? ⟨b, 3, none⟩ = some (.int .u8 p.f.g) ∧ W.cell? ⟨b, 4, none⟩ = some (.int .u8 p.f.b) ∧ W.cell? ⟨b, 5, none⟩ = some (.int .i64 p.b.k) ∧ W.cell? ⟨b, 6, none⟩ = some (.int .u8 p.b.i) ∧ W.cell? ⟨b, 7, none⟩ = some (.int .u8 p.b.r) ∧ W.cell? ⟨b, 8, none⟩ = some (.int .u8 p.b.g) ∧ W.cell? ⟨b, 9, none⟩ = some (.int .u8 p.b.b) ∧ W.cell? ⟨b, 10, none⟩ = some (.int .u8 p.fl)
theorem PenAt.kept {S : List Nat} {w w' : World} {b : Nat} {p : Pn} (h : PenAt w b p) (hk : Kept S w w') (hb : b ∉ S) : PenAt w' b p := by
  obtain ⟨e0, e1, e2, e3, e4, e5, e6, e7, e8, e9, e10⟩ := h
  exact ⟨hk.cell e0 hb, hk.cell e1 hb, hk.cell e2 hb, hk.cell e3 hb, hk.cell e4 hb, hk.cell e5 hb, hk.cell e6 hb, hk.cell e7 hb, hk.cell e8 hb, hk.cell e9 hb, hk.cell e10 hb⟩
theorem PenAt.new (w : World) (p : Pn) : PenAt (w.alloc (.cells #[.int .i64 p.f.k, .int .u8 p.f.i, .int .u8 p.f.r, .int .u8 p.f.g, .int .u8 p.f.b, .int .i64 p.b.k, .int .u8 p.b.i, .int .u8 p.b.r, .int .u8 p.b.g, .int .u8 p.b.b, .int .u8 p.fl] 27)) w.heap.size p := by
  unfold PenAt
  simp [go_sem]

/-- A pen that fills a block. -/
def PenIn (W : World) (b : Nat) (p : Pn) : Prop := W.heap[b]? = some (.cells #[.int .i64 p.f.k, .int .u8 p.f.i, .int .u8 p.f.r, .int .u8 p.f.g, .int .u8 p.f.b, .int .i64 p.b.k, .int .u8 p.b.i, .int .u8 p.b.r, .int .u8 p.b.g, .int .u8 p.b.b, .int .u8 p.fl] 27 (0, 0))
def Froz (W : World) (b : Nat) : Prop := W.frozen? ⟨b, 0, none⟩ = false ∧ W.frozen? ⟨b, 1, none⟩ = false ∧ W.frozen? ⟨b, 2, none⟩ = false ∧ W.frozen? ⟨b, 3, none⟩ = false ∧ W.frozen? ⟨b, 4, none⟩ = false ∧ W.frozen? ⟨b, 5, none⟩ = false ∧ W.frozen? ⟨b, 6, none⟩ = false ∧ W.frozen? ⟨b, 7, none⟩ = false ∧ W.frozen? ⟨b, 8, none⟩ = false ∧ W.frozen? ⟨b, 9, none⟩ = false ∧ W.frozen? ⟨b, 10, none⟩ = false
theorem PenIn.new (w : World) (p : Pn) : PenIn (w.alloc (.cells #[.int .i64 p.f.k, .int .u8 p.f.i, .int .u8 p.f.r, .int .u8 p.f.g, .int .u8 p.f.b, .int .i64 p.b.k, .int .u8 p.b.i, .int .u8 p.b.r, .int .u8 p.b.g, .int .u8 p.b.b, .int .u8 p.fl] 27)) w.heap.size p := heap_alloc_new w _
theorem PenIn.kept {S : List Nat} {w w' : World} {b : Nat} {p : Pn} (h : PenIn w b p) (hk : Kept S w w') (hb : b ∉ S) : PenIn w' b p := hk.heap h hb
theorem PenIn.at {w : World} {b : Nat} {p : Pn} (h : PenIn w b p) : PenAt w b p := by
  unfold PenAt
  simp [cell_of_row w b _ _ _ _ h]
theorem PenIn.froz {w : World} {b : Nat} {p : Pn} (h : PenIn w b p) : Froz w b := by
  unfold Froz
  simp [frozen_of_row w b _ _ _ h]

theorem heap_set (w : World) (b i : Nat) (v : Value) (cur : Array Value) (t : TypeId) (h : w.heap[b]? = some (.cells cur t (0, 0))) : (w.setCell ⟨b, i, none⟩ v).heap[b]? = some (.cells (cur.setIfInBounds i v) t (0, 0)) := by
  show (w.heap.modify b _)[b]? = _
  rw [Array.getElem?_modify, if_pos rfl, h]
  rfl
theorem PenIn.set {w : World} {b : Nat} {p : Pn} (h : PenIn w b p) (q : Pn) : PenIn (((((((((((w.setCell ⟨b, 0, none⟩ (.int .i64 q.f.k)).setCell ⟨b, 1, none⟩ (.int .u8 q.f.i)).setCell ⟨b, 2, none⟩ (.int .u8 q.f.r)).setCell ⟨b, 3, none⟩ (.int .u8 q.f.g)).setCell ⟨b, 4, none⟩ (.int .u8 q.f.b)).setCell ⟨b, 5, none⟩ (.int .i64 q.b.k)).setCell ⟨b, 6, none⟩ (.int .u8 q.b.i)).setCell ⟨b, 7, none⟩ (.int .u8 q.b.r)).setCell ⟨b, 8, none⟩ (.int .u8 q.b.g)).setCell ⟨b, 9, none⟩ (.int .u8 q.b.b)).setCell ⟨b, 10, none⟩ (.int .u8 q.fl)) b q := by
  unfold PenIn at h ⊢
  have h := heap_set _ _ 0 (.int .i64 q.f.k) _ _ h
  have h := heap_set _ _ 1 (.int .u8 q.f.i) _ _ h
  have h := heap_set _ _ 2 (.int .u8 q.f.r) _ _ h
  have h := heap_set _ _ 3 (.int .u8 q.f.g) _ _ h
  have h := heap_set _ _ 4 (.int .u8 q.f.b) _ _ h
  have h := heap_set _ _ 5 (.int .i64 q.b.k) _ _ h
  have h := heap_set _ _ 6 (.int .u8 q.b.i) _ _ h
  have h := heap_set _ _ 7 (.int .u8 q.b.r) _ _ h
  have h := heap_set _ _ 8 (.int .u8 q.b.g) _ _ h
  have h := heap_set _ _ 9 (.int .u8 q.b.b) _ _ h
  have h := heap_set _ _ 10 (.int .u8 q.fl) _ _ h
  simpa using h
theorem Kept.setPen {S : List Nat} {a w : World} (h : Kept S a w) {b : Nat} (hb : b ∈ S ∨ a.heap.size ≤ b) (q : Pn) : Kept S a (((((((((((w.setCell ⟨b, 0, none⟩ (.int .i64 q.f.k)).setCell ⟨b, 1, none⟩ (.int .u8 q.f.i)).setCell ⟨b, 2, none⟩ (.int .u8 q.f.r)).setCell ⟨b, 3, none⟩ (.int .u8 q.f.g)).setCell ⟨b, 4, none⟩ (.int .u8 q.f.b)).setCell ⟨b, 5, none⟩ (.int .i64 q.b.k)).setCell ⟨b, 6, none⟩ (.int .u8 q.b.i)).setCell ⟨b, 7, none⟩ (.int .u8 q.b.r)).setCell ⟨b, 8, none⟩ (.int .u8 q.b.g)).setCell ⟨b, 9, none⟩ (.int .u8 q.b.b)).setCell ⟨b, 10, none⟩ (.int .u8 q.fl)) :=
  ((((((((((h.setCell hb _).setCell hb _).setCell hb _).setCell hb _).setCell hb _).setCell hb _).setCell hb _).setCell hb _).setCell hb _).setCell hb _).setCell hb _

theorem color_is (c : Col) (v : Bool) (h : decide (colOk c) = v) (w : World) : Calls Tryd.prog 8 #[.agg #[.int .i64 c.k, .int .u8 c.i, .int .u8 c.r, .int .u8 c.g, .int .u8 c.b]] w fun e w' => e = .returned (.bool v) ∧ Kept [] w w' := by
  subst h
  exact color_any c.k c.i c.r c.g c.b w
theorem rcolor_is (c : Col) (v : Bool) (h : decide (colOk c) = v) (w : World) : Calls Tryd.prog 9 #[.agg #[.int .i64 c.k, .int .u8 c.i, .int .u8 c.r, .int .u8 c.g, .int .u8 c.b]] w fun e w' => e = .returned (.bool v) ∧ Kept [] w w' := by
  subst h
  exact rcolor_any c.k c.i c.r c.g c.b w
theorem penOk_and (p : Pn) : decide (penOk p) = (decide (colOk p.f) && decide (colOk p.b)) := by
  unfold penOk
  exact Bool.decide_and _ _

set_option maxHeartbeats 1000000 in
theorem valid_is (p : Pn) (v : Bool) (hv : decide (penOk p) = v) (w : World) : Calls Tryd.prog 10 #[.agg #[.int .i64 p.f.k, .int .u8 p.f.i, .int .u8 p.f.r, .int .u8 p.f.g, .int .u8 p.f.b, .int .i64 p.b.k, .int .u8 p.b.i, .int .u8 p.b.r, .int .u8 p.b.g, .int .u8 p.b.b, .int .u8 p.fl]] w fun e w' => e = .returned (.bool v) ∧ Kept [] w w' := by
  rw [penOk_and] at hv
  obtain ⟨vf, hvf⟩ : ∃ x, decide (colOk p.f) = x := ⟨_, rfl⟩
  obtain ⟨vb, hvb⟩ : ∃ x, decide (colOk p.b) = x := ⟨_, rfl⟩
  have hF := hide (fun w1 => color_is p.f vf hvf w1)
  have hB := hide (fun w1 => color_is p.b vb hvb w1)
  rw [hvf, hvb] at hv
  subst hv
  clear hvf hvb
  go_enter Tryd.func10, Tryd.ntmps10
  cases vf
  all_goals
    go_wp2_with fail
    obtain ⟨W0, hW0⟩ : ∃ x : World, x = w.alloc (.cells #[.int .i64 p.f.k, .int .u8 p.f.i, .int .u8 p.f.r, .int .u8 p.f.g, .int .u8 p.f.b, .int .i64 p.b.k, .int .u8 p.b.i, .int .u8 p.b.r, .int .u8 p.b.g, .int .u8 p.b.b, .int .u8 p.fl] 27) := ⟨_, rfl⟩
    have hk0 : Kept [] w W0 := by rw [hW0]; exact (Kept.refl [] w).alloc _
    have hp0 : PenAt W0 w.heap.size p := by rw [hW0]; exact PenAt.new w p
    rw [← hW0]
    clear hW0
    refine (hF.out _).mono ?_
    rintro e w1 ⟨rfl, hk1⟩
    obtain ⟨q0, q1, q2, q3, q4, q5, q6, q7, q8, q9, q10⟩ := hp0.kept hk1 (by simp)
    go_wp2_with fail
  · go_ret
    exact ⟨rfl, hk0.trans hk1 (by simp)⟩
  · refine (hB.out _).mono ?_
    rintro e w2 ⟨rfl, hk2⟩
    go_wp2_with fail
    go_ret
    exact ⟨by simp, hk0.trans (hk1.trans hk2 (by simp)) (by simp)⟩

set_option maxHeartbeats 1000000 in
theorem rvalid_is (p : Pn) (v : Bool) (hv : decide (penOk p) = v) (w : World) : Calls Tryd.prog 11 #[.agg #[.int .i64 p.f.k, .int .u8 p.f.i, .int .u8 p.f.r, .int .u8 p.f.g, .int .u8 p.f.b, .int .i64 p.b.k, .int .u8 p.b.i, .int .u8 p.b.r, .int .u8 p.b.g, .int .u8 p.b.b, .int .u8 p.fl]] w fun e w' => e = .returned (.bool v) ∧ Kept [] w w' := by
  rw [penOk_and] at hv
  obtain ⟨vf, hvf⟩ : ∃ x, decide (colOk p.f) = x := ⟨_, rfl⟩
  obtain ⟨vb, hvb⟩ : ∃ x, decide (colOk p.b) = x := ⟨_, rfl⟩
  have hF := hide (fun w1 => rcolor_is p.f vf hvf w1)
  have hB := hide (fun w1 => rcolor_is p.b vb hvb w1)
  rw [hvf, hvb] at hv
  subst hv
  clear hvf hvb
  go_enter Tryd.func11, Tryd.ntmps11
  cases vf
  all_goals
    go_wp2_with fail
    obtain ⟨W0, hW0⟩ : ∃ x : World, x = w.alloc (.cells #[.int .i64 p.f.k, .int .u8 p.f.i, .int .u8 p.f.r, .int .u8 p.f.g, .int .u8 p.f.b, .int .i64 p.b.k, .int .u8 p.b.i, .int .u8 p.b.r, .int .u8 p.b.g, .int .u8 p.b.b, .int .u8 p.fl] 27) := ⟨_, rfl⟩
    have hk0 : Kept [] w W0 := by rw [hW0]; exact (Kept.refl [] w).alloc _
    have hp0 : PenAt W0 w.heap.size p := by rw [hW0]; exact PenAt.new w p
    rw [← hW0]
    clear hW0
    refine (hF.out _).mono ?_
    rintro e w1 ⟨rfl, hk1⟩
    obtain ⟨q0, q1, q2, q3, q4, q5, q6, q7, q8, q9, q10⟩ := hp0.kept hk1 (by simp)
    go_wp2_with fail
  · go_ret
    exact ⟨rfl, hk0.trans hk1 (by simp)⟩
  · refine (hB.out _).mono ?_
    rintro e w2 ⟨rfl, hk2⟩
    go_wp2_with fail
    go_ret
    exact ⟨by simp, hk0.trans (hk1.trans hk2 (by simp)) (by simp)⟩

set_option maxHeartbeats 300000 in
theorem Pack_ok (p : Pn) (h : penOk p) (hb : PnB p) (w : World) : Calls Tryd.prog 24 #[.agg #[.int .i64 p.f.k, .int .u8 p.f.i, .int .u8 p.f.r, .int .u8 p.f.g, .int .u8 p.f.b, .int .i64 p.b.k, .int .u8 p.b.i, .int .u8 p.b.r, .int .u8 p.b.g, .int .u8 p.b.b, .int .u8 p.fl]] w fun e w' => e = .returned (.tuple #[.int .u64 (packI p), .int .i64 0]) ∧ Kept [] w w' := by
  have hV := hide (fun w1 => valid_is p true (decide_eq_true h) w1)
  have hF := hide (fun w1 => colorBits_any p.f h.1 hb.f w1)
  have hB := hide (fun w1 => colorBits_any p.b h.2 hb.b w1)
  have hM := hide (pack_math (bits_bound h.1 hb.f).1 (bits_bound h.1 hb.f).2 (bits_bound h.2 hb.b).1 (bits_bound h.2 hb.b).2 hb.fl.1 hb.fl.2)
  have e1 : packI p = bitsI p.f + 67108864 * bitsI p.b + 4503599627370496 * p.fl := rfl
  rw [e1]
  have a0 := (bits_bound h.1 hb.f).1; have a1 := (bits_bound h.1 hb.f).2; have b0 := (bits_bound h.2 hb.b).1; have b1 := (bits_bound h.2 hb.b).2
  have f0 := hb.fl.1; have f1 := hb.fl.2
  clear e1 h hb
  generalize bitsI p.f = A at *
  generalize bitsI p.b = B at *
  go_enter Tryd.func24, Tryd.ntmps24
  go_wp2_with fail
  obtain ⟨W0, hW0⟩ : ∃ x : World, x = w.alloc (.cells #[.int .i64 p.f.k, .int .u8 p.f.i, .int .u8 p.f.r, .int .u8 p.f.g, .int .u8 p.f.b, .int .i64 p.b.k, .int .u8 p.b.i, .int .u8 p.b.r, .int .u8 p.b.g, .int .u8 p.b.b, .int .u8 p.fl] 27) := ⟨_, rfl⟩
  have hk0 : Kept [] w W0 := by rw [hW0]; exact (Kept.refl [] w).alloc _
  have hp0 : PenAt W0 w.heap.size p := by rw [hW0]; exact PenAt.new w p
  rw [← hW0]
  clear hW0
  refine (hV.out _).mono ?_
  rintro e w1 ⟨rfl, hk1⟩
  have hK1 : Kept [] w w1 := hk0.trans hk1 (by simp)
  have hp1 : Hid (PenAt w1 w.heap.size p) := hide (hp0.kept hk1 (by simp))
  clear hp0 hk1 hk0
  go_wp2_with fail
  obtain ⟨q0, q1, q2, q3, q4, q5, q6, q7, q8, q9, q10⟩ := hp1.out
  go_region_held3 (fun w' => w'.cell? ⟨w.heap.size, 0, none⟩ = some (.int .i64 p.f.k) ∧ w'.cell? ⟨w.heap.size, 1, none⟩ = some (.int .u8 p.f.i) ∧ w'.cell? ⟨w.heap.size, 2, none⟩ = some (.int .u8 p.f.r) ∧ w'.cell? ⟨w.heap.size, 3, none⟩ = some (.int .u8 p.f.g) ∧ w'.cell? ⟨w.heap.size, 4, none⟩ = some (.int .u8 p.f.b) ∧ w'.cell? ⟨w.heap.size, 5, none⟩ = some (.int .i64 p.b.k) ∧ w'.cell? ⟨w.heap.size, 6, none⟩ = some (.int .u8 p.b.i) ∧ w'.cell? ⟨w.heap.size, 7, none⟩ = some (.int .u8 p.b.r) ∧ w'.cell? ⟨w.heap.size, 8, none⟩ = some (.int .u8 p.b.g) ∧ w'.cell? ⟨w.heap.size, 9, none⟩ = some (.int .u8 p.b.b) ∧ w'.cell? ⟨w.heap.size, 10, none⟩ = some (.int .u8 p.fl))
    (first
      | exact hp1.out.kept (hkF.trans hkB (by simp)) (by simp)
      | exact hp1.out.kept hkF (by simp)
      | exact hp1.out.kept ((Kept.refl [] w1).drew) (by simp))
    (first
      | (go_at_call 34; refine (hB.out wF).mono ?_; rintro e wB ⟨rfl, hkB⟩)
      | (go_at_call 34; refine (hF.out w1.drew).mono ?_; rintro e wF ⟨rfl, hkF0⟩; have hkF : Kept [] w1 wF := (Kept.refl [] w1).drew.trans hkF0 (by simp)))
  go_wp2_with fail
  go_ret2
  refine ⟨?_, hK1.trans (hkF.trans hkB (by simp)) (by simp)⟩
  rw [wraps_u64 p.fl (by omega) (by omega), wraps_u64 (B * 67108864) (by omega) (by omega), wraps_u64 (p.fl * 4503599627370496) (by omega) (by omega), hM.out]
  rfl

set_option maxHeartbeats 1000000 in
theorem Pack_bad (p : Pn) (h : ¬ penOk p) (w : World) : Calls Tryd.prog 24 #[.agg #[.int .i64 p.f.k, .int .u8 p.f.i, .int .u8 p.f.r, .int .u8 p.f.g, .int .u8 p.f.b, .int .i64 p.b.k, .int .u8 p.b.i, .int .u8 p.b.r, .int .u8 p.b.g, .int .u8 p.b.b, .int .u8 p.fl]] w fun e w' => e = .returned (.tuple #[.int .u64 0, .int .i64 2]) ∧ Kept [] w w' := by
  have hV := hide (fun w1 => valid_is p false (decide_eq_false h) w1)
  clear h
  go_enter Tryd.func24, Tryd.ntmps24
  go_wp2_with fail
  refine (hV.out _).mono ?_
  rintro e w1 ⟨rfl, hk1⟩
  go_wp2_with fail
  go_ret2
  exact ⟨rfl, ((Kept.refl _ _).alloc _).trans hk1 (by simp)⟩

theorem Pack_is (p : Pn) (hb : PnB p) (a e : Int) (h : packE p = (a, e)) (w : World) : Calls Tryd.prog 24 #[.agg #[.int .i64 p.f.k, .int .u8 p.f.i, .int .u8 p.f.r, .int .u8 p.f.g, .int .u8 p.f.b, .int .i64 p.b.k, .int .u8 p.b.i, .int .u8 p.b.r, .int .u8 p.b.g, .int .u8 p.b.b, .int .u8 p.fl]] w fun r w' => r = .returned (.tuple #[.int .u64 a, .int .i64 e]) ∧ Kept [] w w' := by
  unfold packE at h
  split at h
  · next hv => cases h; exact Pack_ok p hv hb w
  · next hv => cases h; exact Pack_bad p hv w

set_option maxHeartbeats 2000000 in
theorem rPack_ok (p : Pn) (h : penOk p) (hb : PnB p) (w : World) : Calls Tryd.prog 14 #[.agg #[.int .i64 p.f.k, .int .u8 p.f.i, .int .u8 p.f.r, .int .u8 p.f.g, .int .u8 p.f.b, .int .i64 p.b.k, .int .u8 p.b.i, .int .u8 p.b.r, .int .u8 p.b.g, .int .u8 p.b.b, .int .u8 p.fl]] w fun e w' => e = .returned (.int .u64 (packI p)) ∧ Kept [] w w' := by
  have hF := hide (fun w1 => rbits_any p.f h.1 hb.f w1)
  have hB := hide (fun w1 => rbits_any p.b h.2 hb.b w1)
  have e1 : packI p = bitsI p.f + 67108864 * bitsI p.b + 4503599627370496 * p.fl := rfl
  rw [e1]
  have a0 := (bits_bound h.1 hb.f).1; have a1 := (bits_bound h.1 hb.f).2; have b0 := (bits_bound h.2 hb.b).1; have b1 := (bits_bound h.2 hb.b).2
  have f0 := hb.fl.1; have f1 := hb.fl.2
  clear e1 h hb
  generalize bitsI p.f = A at *
  generalize bitsI p.b = B at *
  go_enter Tryd.func14, Tryd.ntmps14
  go_wp2_with fail
  obtain ⟨W0, hW0⟩ : ∃ x : World, x = w.alloc (.cells #[.int .i64 p.f.k, .int .u8 p.f.i, .int .u8 p.f.r, .int .u8 p.f.g, .int .u8 p.f.b, .int .i64 p.b.k, .int .u8 p.b.i, .int .u8 p.b.r, .int .u8 p.b.g, .int .u8 p.b.b, .int .u8 p.fl] 27) := ⟨_, rfl⟩
  have hk0 : Kept [] w W0 := by rw [hW0]; exact (Kept.refl [] w).alloc _
  have hp0 : Hid (PenAt W0 w.heap.size p) := hide (by rw [hW0]; exact PenAt.new w p)
  rw [← hW0]
  clear hW0
  obtain ⟨q0, q1, q2, q3, q4, q5, q6, q7, q8, q9, q10⟩ := hp0.out
  go_region_held3 (fun w' => w'.cell? ⟨w.heap.size, 0, none⟩ = some (.int .i64 p.f.k) ∧ w'.cell? ⟨w.heap.size, 1, none⟩ = some (.int .u8 p.f.i) ∧ w'.cell? ⟨w.heap.size, 2, none⟩ = some (.int .u8 p.f.r) ∧ w'.cell? ⟨w.heap.size, 3, none⟩ = some (.int .u8 p.f.g) ∧ w'.cell? ⟨w.heap.size, 4, none⟩ = some (.int .u8 p.f.b) ∧ w'.cell? ⟨w.heap.size, 5, none⟩ = some (.int .i64 p.b.k) ∧ w'.cell? ⟨w.heap.size, 6, none⟩ = some (.int .u8 p.b.i) ∧ w'.cell? ⟨w.heap.size, 7, none⟩ = some (.int .u8 p.b.r) ∧ w'.cell? ⟨w.heap.size, 8, none⟩ = some (.int .u8 p.b.g) ∧ w'.cell? ⟨w.heap.size, 9, none⟩ = some (.int .u8 p.b.b) ∧ w'.cell? ⟨w.heap.size, 10, none⟩ = some (.int .u8 p.fl))
    (first
      | exact hp0.out.kept (hkF.trans hkB (by simp)) (by simp)
      | exact hp0.out.kept hkF (by simp)
      | exact hp0.out.kept ((Kept.refl [] W0).drew) (by simp))
    (first
      | (go_at_call 29; refine (hB.out wF).mono ?_; rintro e wB ⟨rfl, hkB⟩)
      | (go_at_call 29; refine (hF.out W0.drew).mono ?_; rintro e wF ⟨rfl, hkF0⟩; have hkF : Kept [] W0 wF := (Kept.refl [] W0).drew.trans hkF0 (by simp)))
  go_wp2_with fail
  go_ret
  refine ⟨ret_int ?_, hk0.trans (hkF.trans hkB (by simp)) (by simp)⟩
  rw [wraps_u64 p.fl (by omega) (by omega), wraps_u64 (67108864 * B) (by omega) (by omega), wraps_u64 (4503599627370496 * p.fl) (by omega) (by omega), wraps_u64 (A + 67108864 * B) (by omega) (by omega), wraps_u64 _ (by omega) (by omega)]

set_option maxHeartbeats 1000000 in
theorem Unpack_is (v : Int) (h : 0 ≤ v ∧ v < 18446744073709551616) (p : Pn) (e : Int) (he : unpackE v = (p, e)) (w : World) : Calls Tryd.prog 25 #[.int .u64 v] w fun r w' => r = .returned (.tuple #[.agg #[.int .i64 p.f.k, .int .u8 p.f.i, .int .u8 p.f.r, .int .u8 p.f.g, .int .u8 p.f.b, .int .i64 p.b.k, .int .u8 p.b.i, .int .u8 p.b.r, .int .u8 p.b.g, .int .u8 p.b.b, .int .u8 p.fl], .int .i64 e]) ∧ Kept [] w w' := by
  obtain ⟨v0, v1⟩ := h
  have hA : bits .and .u64 v 67108863 = v % 67108864 := and64 26 (by decide) (by decide) v0 v1
  have hA2 : bits .and .u64 (v / 67108864) 67108863 = v / 67108864 % 67108864 := and64 26 (by decide) (by decide) (by omega) (by omega)
  obtain ⟨x, hx⟩ : ∃ x, x = unpackI v := ⟨_, rfl⟩
  have hF : Hid (∀ w1, Calls Tryd.prog 35 #[.int .u64 (v % 67108864)] w1 fun e w' => e = .returned (.agg #[.int .i64 x.f.k, .int .u8 x.f.i, .int .u8 x.f.r, .int .u8 x.f.g, .int .u8 x.f.b]) ∧ Kept [] w1 w') := hide (by subst hx; exact fun w1 => colorOf_any (v % 67108864) (by omega) w1)
  have hB : Hid (∀ w1, Calls Tryd.prog 35 #[.int .u64 (v / 67108864 % 67108864)] w1 fun e w' => e = .returned (.agg #[.int .i64 x.b.k, .int .u8 x.b.i, .int .u8 x.b.r, .int .u8 x.b.g, .int .u8 x.b.b]) ∧ Kept [] w1 w') := hide (by subst hx; exact fun w1 => colorOf_any (v / 67108864 % 67108864) (by omega) w1)
  have hfl : v / 4503599627370496 % 256 = x.fl := by subst hx; rfl
  have hP : Hid (∀ w1, Calls Tryd.prog 24 #[.agg #[.int .i64 x.f.k, .int .u8 x.f.i, .int .u8 x.f.r, .int .u8 x.f.g, .int .u8 x.f.b, .int .i64 x.b.k, .int .u8 x.b.i, .int .u8 x.b.r, .int .u8 x.b.g, .int .u8 x.b.b, .int .u8 x.fl]] w1 fun e w' => e = .returned (.tuple #[.int .u64 (packI x), .int .i64 0]) ∧ Kept [] w1 w') := hide (by subst hx; exact fun w1 => Pack_ok _ (unpack_ok v) (unpack_b v) w1)
  have hE : Hid ((if packI x = v then (x, 0) else (zeroP, 12)) = (p, e)) := hide (by subst hx; exact he)
  clear hx he
  go_enter Tryd.func25, Tryd.ntmps25
  go_wp2_with fail
  obtain ⟨W0, hW0⟩ : ∃ x : World, x = w.alloc (.cells #[.int .i64 zeroP.f.k, .int .u8 zeroP.f.i, .int .u8 zeroP.f.r, .int .u8 zeroP.f.g, .int .u8 zeroP.f.b, .int .i64 zeroP.b.k, .int .u8 zeroP.b.i, .int .u8 zeroP.b.r, .int .u8 zeroP.b.g, .int .u8 zeroP.b.b, .int .u8 zeroP.fl] 27) := ⟨_, rfl⟩
  have hk0 : Kept [] w W0 := by rw [hW0]; exact (Kept.refl [] w).alloc _
  have hp0 : Hid (PenIn W0 w.heap.size zeroP) := hide (by rw [hW0]; exact PenIn.new w zeroP)
  have hs0 : W0.heap.size = w.heap.size + 1 := by rw [hW0]; simp
  change Calls _ _ _ (w.alloc (.cells #[.int .i64 zeroP.f.k, .int .u8 zeroP.f.i, .int .u8 zeroP.f.r, .int .u8 zeroP.f.g, .int .u8 zeroP.f.b, .int .i64 zeroP.b.k, .int .u8 zeroP.b.i, .int .u8 zeroP.b.r, .int .u8 zeroP.b.g, .int .u8 zeroP.b.b, .int .u8 zeroP.fl] 27)) _
  rw [← hW0]
  clear hW0
  refine (hF.out _).mono ?_
  rintro r w1 ⟨rfl, hk1⟩
  go_wp2_with fail
  refine (hB.out _).mono ?_
  rintro r w2 ⟨rfl, hk2⟩
  have hK2 : Kept [] W0 w2 := hk1.trans hk2 (by simp)
  clear hk1 hk2
  go_wp2_with fail
  obtain ⟨W3, hW3⟩ : ∃ z : World, z = w2.alloc (.cells #[.int .i64 x.f.k, .int .u8 x.f.i, .int .u8 x.f.r, .int .u8 x.f.g, .int .u8 x.f.b, .int .i64 x.b.k, .int .u8 x.b.i, .int .u8 x.b.r, .int .u8 x.b.g, .int .u8 x.b.b, .int .u8 x.fl] 27) := ⟨_, rfl⟩
  have hk3 : Kept [] w2 W3 := by rw [hW3]; exact (Kept.refl [] w2).alloc _
  have hp3 : PenIn W3 w2.heap.size x := by rw [hW3]; exact PenIn.new w2 x
  rw [← hW3]
  clear hW3
  have hlt : w.heap.size < w2.heap.size := by have := hK2.size; omega
  refine (hP.out _).mono ?_
  rintro r w4 ⟨rfl, hk4⟩
  have hK4 : Kept [] W0 w4 := hK2.trans (hk3.trans hk4 (by simp)) (by simp)
  have hr4 := hp0.out.kept hK4 (by simp)
  have hp4 := hp3.kept hk4 (by simp)
  obtain ⟨q0, q1, q2, q3, q4, q5, q6, q7, q8, q9, q10⟩ := hr4.at
  obtain ⟨f0, f1, f2, f3, f4, f5, f6, f7, f8, f9, f10⟩ := hr4.froz
  obtain ⟨s0, s1, s2, s3, s4, s5, s6, s7, s8, s9, s10⟩ := hp4.at
  clear hk4 hk3 hp3 hp0 hK2
  by_cases c : packI x = v
  · have hE2 := hE.out
    rw [if_pos c] at hE2
    cases hE2
    go_wp2_with fail
    have hn := (hr4.set p).at
    obtain ⟨n0, n1, n2, n3, n4, n5, n6, n7, n8, n9, n10⟩ := hn
    refine bodyPost_ret (v := .tuple #[.agg #[.int .i64 p.f.k, .int .u8 p.f.i, .int .u8 p.f.r, .int .u8 p.f.g, .int .u8 p.f.b, .int .i64 p.b.k, .int .u8 p.b.i, .int .u8 p.b.r, .int .u8 p.b.g, .int .u8 p.b.b, .int .u8 p.fl], .int .i64 0]) (by simp [results, Tryd.results25, go_sem, n0, n1, n2, n3, n4, n5, n6, n7, n8, n9, n10]) rfl ?_
    exact ⟨rfl, (hk0.trans hK4 (by simp)).setPen (.inr (Nat.le_refl _)) p⟩
  · have hE2 := hE.out
    rw [if_neg c] at hE2
    cases hE2
    go_wp2_with fail
    have hn : PenAt (((((((((((w4.setCell ⟨w.heap.size, 0, none⟩ (.int .i64 0)).setCell ⟨w.heap.size, 1, none⟩ (.int .u8 0)).setCell ⟨w.heap.size, 2, none⟩ (.int .u8 0)).setCell ⟨w.heap.size, 3, none⟩ (.int .u8 0)).setCell ⟨w.heap.size, 4, none⟩ (.int .u8 0)).setCell ⟨w.heap.size, 5, none⟩ (.int .i64 0)).setCell ⟨w.heap.size, 6, none⟩ (.int .u8 0)).setCell ⟨w.heap.size, 7, none⟩ (.int .u8 0)).setCell ⟨w.heap.size, 8, none⟩ (.int .u8 0)).setCell ⟨w.heap.size, 9, none⟩ (.int .u8 0)).setCell ⟨w.heap.size, 10, none⟩ (.int .u8 0)) w.heap.size zeroP := (hr4.set zeroP).at
    obtain ⟨n0, n1, n2, n3, n4, n5, n6, n7, n8, n9, n10⟩ := hn
    refine bodyPost_ret (v := .tuple #[.agg #[.int .i64 zeroP.f.k, .int .u8 zeroP.f.i, .int .u8 zeroP.f.r, .int .u8 zeroP.f.g, .int .u8 zeroP.f.b, .int .i64 zeroP.b.k, .int .u8 zeroP.b.i, .int .u8 zeroP.b.r, .int .u8 zeroP.b.g, .int .u8 zeroP.b.b, .int .u8 zeroP.fl], .int .i64 12]) (by simp [results, Tryd.results25, go_sem, n0, n1, n2, n3, n4, n5, n6, n7, n8, n9, n10]) rfl ?_
    exact ⟨rfl, (hk0.trans hK4 (by simp)).setPen (.inr (Nat.le_refl _)) zeroP⟩

set_option maxHeartbeats 2000000 in
theorem rUnpack_is (v : Int) (h : 0 ≤ v ∧ v < 18446744073709551616) (w : World) : Calls Tryd.prog 18 #[.int .u64 v] w fun r w' => r = .returned (.tuple #[.agg #[.int .i64 (unpackI v).f.k, .int .u8 (unpackI v).f.i, .int .u8 (unpackI v).f.r, .int .u8 (unpackI v).f.g, .int .u8 (unpackI v).f.b, .int .i64 (unpackI v).b.k, .int .u8 (unpackI v).b.i, .int .u8 (unpackI v).b.r, .int .u8 (unpackI v).b.g, .int .u8 (unpackI v).b.b, .int .u8 (unpackI v).fl], .bool (packI (unpackI v) == v)]) ∧ Kept [] w w' := by
  obtain ⟨v0, v1⟩ := h
  obtain ⟨x, hx⟩ : ∃ x, x = unpackI v := ⟨_, rfl⟩
  have hF : Hid (∀ w1, Calls Tryd.prog 30 #[.int .u64 (v % 67108864)] w1 fun e w' => e = .returned (.agg #[.int .i64 x.f.k, .int .u8 x.f.i, .int .u8 x.f.r, .int .u8 x.f.g, .int .u8 x.f.b]) ∧ Kept [] w1 w') := hide (by subst hx; exact fun w1 => rcol_any (v % 67108864) (by omega) w1)
  have hB : Hid (∀ w1, Calls Tryd.prog 30 #[.int .u64 (v / 67108864 % 67108864)] w1 fun e w' => e = .returned (.agg #[.int .i64 x.b.k, .int .u8 x.b.i, .int .u8 x.b.r, .int .u8 x.b.g, .int .u8 x.b.b]) ∧ Kept [] w1 w') := hide (by subst hx; exact fun w1 => rcol_any (v / 67108864 % 67108864) (by omega) w1)
  have hfl : v / 4503599627370496 % 256 = x.fl := by subst hx; rfl
  have hP : Hid (∀ w1, Calls Tryd.prog 14 #[.agg #[.int .i64 x.f.k, .int .u8 x.f.i, .int .u8 x.f.r, .int .u8 x.f.g, .int .u8 x.f.b, .int .i64 x.b.k, .int .u8 x.b.i, .int .u8 x.b.r, .int .u8 x.b.g, .int .u8 x.b.b, .int .u8 x.fl]] w1 fun e w' => e = .returned (.int .u64 (packI x)) ∧ Kept [] w1 w') := hide (by subst hx; exact fun w1 => rPack_ok _ (unpack_ok v) (unpack_b v) w1)
  rw [← hx]
  clear hx
  generalize packI x = y at *
  go_enter Tryd.func18, Tryd.ntmps18
  go_wp2_with fail
  obtain ⟨W0, hW0⟩ : ∃ x : World, x = w.alloc (.cells #[.int .i64 zeroP.f.k, .int .u8 zeroP.f.i, .int .u8 zeroP.f.r, .int .u8 zeroP.f.g, .int .u8 zeroP.f.b, .int .i64 zeroP.b.k, .int .u8 zeroP.b.i, .int .u8 zeroP.b.r, .int .u8 zeroP.b.g, .int .u8 zeroP.b.b, .int .u8 zeroP.fl] 27) := ⟨_, rfl⟩
  have hk0 : Kept [] w W0 := by rw [hW0]; exact (Kept.refl [] w).alloc _
  have hp0 : Hid (PenIn W0 w.heap.size zeroP) := hide (by rw [hW0]; exact PenIn.new w zeroP)
  have hs0 : W0.heap.size = w.heap.size + 1 := by rw [hW0]; simp
  change Calls _ _ _ (w.alloc (.cells #[.int .i64 zeroP.f.k, .int .u8 zeroP.f.i, .int .u8 zeroP.f.r, .int .u8 zeroP.f.g, .int .u8 zeroP.f.b, .int .i64 zeroP.b.k, .int .u8 zeroP.b.i, .int .u8 zeroP.b.r, .int .u8 zeroP.b.g, .int .u8 zeroP.b.b, .int .u8 zeroP.fl] 27)) _
  rw [← hW0]
  clear hW0
  refine (hF.out _).mono ?_
  rintro r w1 ⟨rfl, hk1⟩
  go_wp2_with fail
  refine (hB.out _).mono ?_
  rintro r w2 ⟨rfl, hk2⟩
  have hK2 : Kept [] W0 w2 := hk1.trans hk2 (by simp)
  clear hk1 hk2
  go_wp2_with fail
  obtain ⟨W3, hW3⟩ : ∃ z : World, z = w2.alloc (.cells #[.int .i64 x.f.k, .int .u8 x.f.i, .int .u8 x.f.r, .int .u8 x.f.g, .int .u8 x.f.b, .int .i64 x.b.k, .int .u8 x.b.i, .int .u8 x.b.r, .int .u8 x.b.g, .int .u8 x.b.b, .int .u8 x.fl] 27) := ⟨_, rfl⟩
  have hk3 : Kept [] w2 W3 := by rw [hW3]; exact (Kept.refl [] w2).alloc _
  have hp3 : PenIn W3 w2.heap.size x := by rw [hW3]; exact PenIn.new w2 x
  rw [← hW3]
  clear hW3
  have hlt : w.heap.size < w2.heap.size := by have := hK2.size; omega
  have hK3 : Kept [] W0 W3 := hK2.trans hk3 (by simp)
  have hr3 := hp0.out.kept hK3 (by simp)
  have hp3' := hide hp3
  have hr3' := hide hr3
  obtain ⟨s0, s1, s2, s3, s4, s5, s6, s7, s8, s9, s10⟩ := hp3.at
  clear hk3 hp3 hp0 hr3 hK2
  go_region_with (go_at_call 14; refine (hP.out W3.drew).mono ?_; rintro r w4 ⟨rfl, hk40⟩; have hk4 : Kept [] W3 w4 := ((Kept.refl [] W3).drew).trans hk40 (by simp); have hr4 := hr3'.out.kept hk4 (by simp); obtain ⟨q0, q1, q2, q3, q4, q5, q6, q7, q8, q9, q10⟩ := hr4.at; obtain ⟨f0, f1, f2, f3, f4, f5, f6, f7, f8, f9, f10⟩ := hr4.froz; have hp4 := hp3'.out.kept hk4 (by simp); obtain ⟨z0, z1, z2, z3, z4, z5, z6, z7, z8, z9, z10⟩ := hp4.at)
  all_goals
    go_wp2_with fail
    have hn := (hr4.set x).at
    obtain ⟨n0, n1, n2, n3, n4, n5, n6, n7, n8, n9, n10⟩ := hn
    refine bodyPost_ret (v := .tuple #[.agg #[.int .i64 x.f.k, .int .u8 x.f.i, .int .u8 x.f.r, .int .u8 x.f.g, .int .u8 x.f.b, .int .i64 x.b.k, .int .u8 x.b.i, .int .u8 x.b.r, .int .u8 x.b.g, .int .u8 x.b.b, .int .u8 x.fl], .bool (y == v)]) (by simp [results, Tryd.results18, go_sem, n0, n1, n2, n3, n4, n5, n6, n7, n8, n9, n10]) rfl ?_
    exact ⟨rfl, (hk0.trans (hK3.trans hk4 (by simp)) (by simp)).setPen (.inr (Nat.le_refl _)) x⟩
end Go.Proofs.YtjhekofnecojkaaDoor
