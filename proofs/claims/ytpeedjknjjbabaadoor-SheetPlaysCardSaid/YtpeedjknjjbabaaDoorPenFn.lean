/- Pens: in memory; valid ones: the program's and the reference's. -/
import Derived.Test.YtpeedjknjjbabaaDoorPenLeaf
namespace Go.Proofs.YtpeedjknjjbabaaDoor
open Go.RowKit
set_option linter.unusedVariables false

/-- A pen in a block, from its first cell on. -/
def PenAt (W : World) (b : Nat) (p : Pn) : Prop := W.cell? ⟨b, 0, none⟩ = some (.int .i64 p.f.k) ∧ W.cell? ⟨b, 1, none⟩ = some (.int .u8 p.f.i) ∧ W.cell? ⟨b, 2, none⟩ = some (.int .u8 p.f.r) ∧ W.cell? ⟨b, 3, none⟩ = some (.int .u8 p.f.g) ∧ W.cell? ⟨b, 4, none⟩ = some (.int .u8 p.f.b) ∧ W.cell? ⟨b, 5, none⟩ = some (.int .i64 p.b.k) ∧ W.cell? ⟨b, 6, none⟩ = some (.int .u8 p.b.i) ∧ W.cell? ⟨b, 7, none⟩ = some (.int .u8 p.b.r) ∧ W.cell? ⟨b, 8, none⟩ = some (.int .u8 p.b.g) ∧ W.cell? ⟨b, 9, none⟩ = some (.int .u8 p.b.b) ∧ W.cell? ⟨b, 10, none⟩ = some (.int .u8 p.fl)
theorem PenAt.kept {S : List Nat} {w w' : World} {b : Nat} {p : Pn} (h : PenAt w b p) (hk : Kept S w w') (hb : b ∉ S) : PenAt w' b p := by
  obtain ⟨e0, e1, e2, e3, e4, e5, e6, e7, e8, e9, e10⟩ := h
  exact ⟨hk.cell e0 hb, hk.cell e1 hb, hk.cell e2 hb, hk.cell e3 hb, hk.cell e4 hb, hk.cell e5 hb, hk.cell e6 hb, hk.cell e7 hb, hk.cell e8 hb, hk.cell e9 hb, hk.cell e10 hb⟩
theorem PenAt.new (w : World) (p : Pn) : PenAt (w.alloc (.cells #[.int .i64 p.f.k, .int .u8 p.f.i, .int .u8 p.f.r, .int .u8 p.f.g, .int .u8 p.f.b, .int .i64 p.b.k, .int .u8 p.b.i, .int .u8 p.b.r, .int .u8 p.b.g, .int .u8 p.b.b, .int .u8 p.fl] 69)) w.heap.size p := by
  unfold PenAt
  simp [go_sem]

/-- A pen that fills a block. -/
def PenIn (W : World) (b : Nat) (p : Pn) : Prop := W.heap[b]? = some (.cells #[.int .i64 p.f.k, .int .u8 p.f.i, .int .u8 p.f.r, .int .u8 p.f.g, .int .u8 p.f.b, .int .i64 p.b.k, .int .u8 p.b.i, .int .u8 p.b.r, .int .u8 p.b.g, .int .u8 p.b.b, .int .u8 p.fl] 69 (0, 0))
def Froz (W : World) (b : Nat) : Prop := W.frozen? ⟨b, 0, none⟩ = false ∧ W.frozen? ⟨b, 1, none⟩ = false ∧ W.frozen? ⟨b, 2, none⟩ = false ∧ W.frozen? ⟨b, 3, none⟩ = false ∧ W.frozen? ⟨b, 4, none⟩ = false ∧ W.frozen? ⟨b, 5, none⟩ = false ∧ W.frozen? ⟨b, 6, none⟩ = false ∧ W.frozen? ⟨b, 7, none⟩ = false ∧ W.frozen? ⟨b, 8, none⟩ = false ∧ W.frozen? ⟨b, 9, none⟩ = false ∧ W.frozen? ⟨b, 10, none⟩ = false
theorem PenIn.new (w : World) (p : Pn) : PenIn (w.alloc (.cells #[.int .i64 p.f.k, .int .u8 p.f.i, .int .u8 p.f.r, .int .u8 p.f.g, .int .u8 p.f.b, .int .i64 p.b.k, .int .u8 p.b.i, .int .u8 p.b.r, .int .u8 p.b.g, .int .u8 p.b.b, .int .u8 p.fl] 69)) w.heap.size p := heap_alloc_new w _
theorem PenIn.kept {S : List Nat} {w w' : World} {b : Nat} {p : Pn} (h : PenIn w b p) (hk : Kept S w w') (hb : b ∉ S) : PenIn w' b p := hk.heap h hb
theorem PenIn.at {w : World} {b : Nat} {p : Pn} (h : PenIn w b p) : PenAt w b p := by
  unfold PenAt
  simp [cell_of_row w b _ _ _ _ h]
theorem PenIn.froz {w : World} {b : Nat} {p : Pn} (h : PenIn w b p) : Froz w b := by
  unfold Froz
  simp [frozen_of_row w b _ _ _ h]

theorem heap_set (w : World) (b i : Nat) (v : Value) (cur : Array Value) (t : TypeId) (h : w.heap[b]? = some (.cells cur t (0, 0))) : (w.setCell ⟨b, i, none⟩ v).heap[b]? = some (.cells (cur.setIfInBounds i v) t (0, 0)) := by
  show (w.heap.modify b _)[b]? = _
  rw [Array.getElem?_modify, if_pos rfl, h]
  rfl
theorem PenIn.set {w : World} {b : Nat} {p : Pn} (h : PenIn w b p) (q : Pn) : PenIn (((((((((((w.setCell ⟨b, 0, none⟩ (.int .i64 q.f.k)).setCell ⟨b, 1, none⟩ (.int .u8 q.f.i)).setCell ⟨b, 2, none⟩ (.int .u8 q.f.r)).setCell ⟨b, 3, none⟩ (.int .u8 q.f.g)).setCell ⟨b, 4, none⟩ (.int .u8 q.f.b)).setCell ⟨b, 5, none⟩ (.int .i64 q.b.k)).setCell ⟨b, 6, none⟩ (.int .u8 q.b.i)).setCell ⟨b, 7, none⟩ (.int .u8 q.b.r)).setCell ⟨b, 8, none⟩ (.int .u8 q.b.g)).setCell ⟨b, 9, none⟩ (.int .u8 q.b.b)).setCell ⟨b, 10, none⟩ (.int .u8 q.fl)) b q := by
  unfold PenIn at h ⊢
  have h := heap_set _ _ 0 (.int .i64 q.f.k) _ _ h
  have h := heap_set _ _ 1 (.int .u8 q.f.i) _ _ h
  have h := heap_set _ _ 2 (.int .u8 q.f.r) _ _ h
  have h := heap_set _ _ 3 (.int .u8 q.f.g) _ _ h
  have h := heap_set _ _ 4 (.int .u8 q.f.b) _ _ h
  have h := heap_set _ _ 5 (.int .i64 q.b.k) _ _ h
  have h := heap_set _ _ 6 (.int .u8 q.b.i) _ _ h
  have h := heap_set _ _ 7 (.int .u8 q.b.r) _ _ h
  have h := heap_set _ _ 8 (.int .u8 q.b.g) _ _ h
  have h := heap_set _ _ 9 (.int .u8 q.b.b) _ _ h
  have h := heap_set _ _ 10 (.int .u8 q.fl) _ _ h
  simpa using h
theorem Kept.setPen {S : List Nat} {a w : World} (h : Kept S a w) {b : Nat} (hb : b ∈ S ∨ a.heap.size ≤ b) (q : Pn) : Kept S a (((((((((((w.setCell ⟨b, 0, none⟩ (.int .i64 q.f.k)).setCell ⟨b, 1, none⟩ (.int .u8 q.f.i)).setCell ⟨b, 2, none⟩ (.int .u8 q.f.r)).setCell ⟨b, 3, none⟩ (.int .u8 q.f.g)).setCell ⟨b, 4, none⟩ (.int .u8 q.f.b)).setCell ⟨b, 5, none⟩ (.int .i64 q.b.k)).setCell ⟨b, 6, none⟩ (.int .u8 q.b.i)).setCell ⟨b, 7, none⟩ (.int .u8 q.b.r)).setCell ⟨b, 8, none⟩ (.int .u8 q.b.g)).setCell ⟨b, 9, none⟩ (.int .u8 q.b.b)).setCell ⟨b, 10, none⟩ (.int .u8 q.fl)) :=
  ((((((((((h.setCell hb _).setCell hb _).setCell hb _).setCell hb _).setCell hb _).setCell hb _).setCell hb _).setCell hb _).setCell hb _).setCell hb _).setCell hb _

theorem color_is (c : Col) (v : Bool) (h : decide (colOk c) = v) (w : World) : Calls Tryd.prog 61 #[.agg #[.int .i64 c.k, .int .u8 c.i, .int .u8 c.r, .int .u8 c.g, .int .u8 c.b]] w fun e w' => e = .returned (.bool v) ∧ Kept [] w w' := by
  subst h
  exact color_any c.k c.i c.r c.g c.b w
theorem rcolor_is (c : Col) (v : Bool) (h : decide (colOk c) = v) (w : World) : Calls Tryd.prog 66 #[.agg #[.int .i64 c.k, .int .u8 c.i, .int .u8 c.r, .int .u8 c.g, .int .u8 c.b]] w fun e w' => e = .returned (.bool v) ∧ Kept [] w w' := by
  subst h
  exact rcolor_any c.k c.i c.r c.g c.b w
theorem penOk_and (p : Pn) : decide (penOk p) = (decide (colOk p.f) && decide (colOk p.b)) := by
  unfold penOk
  exact Bool.decide_and _ _

set_option maxHeartbeats 1000000 in
theorem valid_is (p : Pn) (v : Bool) (hv : decide (penOk p) = v) (w : World) : Calls Tryd.prog 53 #[.agg #[.int .i64 p.f.k, .int .u8 p.f.i, .int .u8 p.f.r, .int .u8 p.f.g, .int .u8 p.f.b, .int .i64 p.b.k, .int .u8 p.b.i, .int .u8 p.b.r, .int .u8 p.b.g, .int .u8 p.b.b, .int .u8 p.fl]] w fun e w' => e = .returned (.bool v) ∧ Kept [] w w' := by
  rw [penOk_and] at hv
  obtain ⟨vf, hvf⟩ : ∃ x, decide (colOk p.f) = x := ⟨_, rfl⟩
  obtain ⟨vb, hvb⟩ : ∃ x, decide (colOk p.b) = x := ⟨_, rfl⟩
  have hF := hide (fun w1 => color_is p.f vf hvf w1)
  have hB := hide (fun w1 => color_is p.b vb hvb w1)
  rw [hvf, hvb] at hv
  subst hv
  clear hvf hvb
  go_enter Tryd.func53, Tryd.ntmps53
  cases vf
  all_goals
    go_wp2_with fail
    obtain ⟨W0, hW0⟩ : ∃ x : World, x = w.alloc (.cells #[.int .i64 p.f.k, .int .u8 p.f.i, .int .u8 p.f.r, .int .u8 p.f.g, .int .u8 p.f.b, .int .i64 p.b.k, .int .u8 p.b.i, .int .u8 p.b.r, .int .u8 p.b.g, .int .u8 p.b.b, .int .u8 p.fl] 69) := ⟨_, rfl⟩
    have hk0 : Kept [] w W0 := by rw [hW0]; exact (Kept.refl [] w).alloc _
    have hp0 : PenAt W0 w.heap.size p := by rw [hW0]; exact PenAt.new w p
    rw [← hW0]
    clear hW0
    refine (hF.out _).mono ?_
    rintro e w1 ⟨rfl, hk1⟩
    obtain ⟨q0, q1, q2, q3, q4, q5, q6, q7, q8, q9, q10⟩ := hp0.kept hk1 (by simp)
    go_wp2_with fail
  · go_ret
    exact ⟨rfl, hk0.trans hk1 (by simp)⟩
  · refine (hB.out _).mono ?_
    rintro e w2 ⟨rfl, hk2⟩
    go_wp2_with fail
    go_ret
    exact ⟨by simp, hk0.trans (hk1.trans hk2 (by simp)) (by simp)⟩

set_option maxHeartbeats 1000000 in
theorem rvalid_is (p : Pn) (v : Bool) (hv : decide (penOk p) = v) (w : World) : Calls Tryd.prog 59 #[.agg #[.int .i64 p.f.k, .int .u8 p.f.i, .int .u8 p.f.r, .int .u8 p.f.g, .int .u8 p.f.b, .int .i64 p.b.k, .int .u8 p.b.i, .int .u8 p.b.r, .int .u8 p.b.g, .int .u8 p.b.b, .int .u8 p.fl]] w fun e w' => e = .returned (.bool v) ∧ Kept [] w w' := by
  rw [penOk_and] at hv
  obtain ⟨vf, hvf⟩ : ∃ x, decide (colOk p.f) = x := ⟨_, rfl⟩
  obtain ⟨vb, hvb⟩ : ∃ x, decide (colOk p.b) = x := ⟨_, rfl⟩
  have hF := hide (fun w1 => rcolor_is p.f vf hvf w1)
  have hB := hide (fun w1 => rcolor_is p.b vb hvb w1)
  rw [hvf, hvb] at hv
  subst hv
  clear hvf hvb
  go_enter Tryd.func59, Tryd.ntmps59
  cases vf
  all_goals
    go_wp2_with fail
    obtain ⟨W0, hW0⟩ : ∃ x : World, x = w.alloc (.cells #[.int .i64 p.f.k, .int .u8 p.f.i, .int .u8 p.f.r, .int .u8 p.f.g, .int .u8 p.f.b, .int .i64 p.b.k, .int .u8 p.b.i, .int .u8 p.b.r, .int .u8 p.b.g, .int .u8 p.b.b, .int .u8 p.fl] 69) := ⟨_, rfl⟩
    have hk0 : Kept [] w W0 := by rw [hW0]; exact (Kept.refl [] w).alloc _
    have hp0 : PenAt W0 w.heap.size p := by rw [hW0]; exact PenAt.new w p
    rw [← hW0]
    clear hW0
    refine (hF.out _).mono ?_
    rintro e w1 ⟨rfl, hk1⟩
    obtain ⟨q0, q1, q2, q3, q4, q5, q6, q7, q8, q9, q10⟩ := hp0.kept hk1 (by simp)
    go_wp2_with fail
  · go_ret
    exact ⟨rfl, hk0.trans hk1 (by simp)⟩
  · refine (hB.out _).mono ?_
    rintro e w2 ⟨rfl, hk2⟩
    go_wp2_with fail
    go_ret
    exact ⟨by simp, hk0.trans (hk1.trans hk2 (by simp)) (by simp)⟩
end Go.Proofs.YtpeedjknjjbabaaDoor
