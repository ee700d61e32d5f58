/- The reference of layer 2: its tables, in, Of. A slice that holds a table. The reference's in, Of; equal lists of ranges. The reference's Of; Same of equal tables. -/
import Derived.Test.YtnkddhmhjnhgcaaDoorWidA
import Derived.Deep.MidRow
import Derived.Deep.WholeRow
import Derived.Laws.StructEq
namespace Go.Proofs.YtnkddhmhjnhgcaaDoor
open Go.RowKit
set_option linter.unusedVariables false

/-- A table's numbers, one behind the other. -/
def flatT (T : List (Int × Int)) : List Value := T.flatMap fun x => [.int .i32 x.1, .int .i32 x.2]
theorem flat_at (T : List (Int × Int)) : ∀ i, i < T.length → (flatT T)[i * 2]? = some (.int .i32 (T.getD i (0, 0)).1) ∧ (flatT T)[i * 2 + 1]? = some (.int .i32 (T.getD i (0, 0)).2) := by
  induction T with
  | nil => intro i hi; simp at hi
  | cons x T ih =>
    intro i hi
    match i, hi with
    | 0, _ => exact ⟨rfl, rfl⟩
    | i + 1, hi =>
      have := ih i (by simpa using hi)
      have e : flatT (x :: T) = .int .i32 x.1 :: .int .i32 x.2 :: flatT T := rfl
      rw [e, show (i + 1) * 2 = i * 2 + 1 + 1 by omega]
      exact this

theorem TabAt.of_heap {w : World} {b : Nat} {T : List (Int × Int)} {cur : Array Value} {E : TypeId} (h : w.heap[b]? = some (.cells cur E (0, 0))) (hc : cur.toList = flatT T) : TabAt w b T := by
  intro i hi
  have := flat_at T i hi
  rw [← hc] at this
  rw [cell_of_row w b (i * 2) cur E (0, 0) h, cell_of_row w b (i * 2 + 1) cur E (0, 0) h]
  exact ⟨by simpa using this.1, by simpa using this.2⟩

/-- What returns a table that may be changed: a block of its own. -/
def NewT (w : World) (T : List (Int × Int)) (e : Ending) (w' : World) : Prop :=
  ∃ b cur E, e = .returned (.slice (some ⟨b, 0, none⟩) T.length T.length) ∧ w.heap.size ≤ b ∧ w'.heap[b]? = some (.cells cur E (0, 0)) ∧ cur.toList = flatT T ∧ Kept [] w w'

theorem flat_len (T : List (Int × Int)) : (flatT T).length = 2 * T.length := by
  induction T with
  | nil => rfl
  | cons x T ih => rw [show flatT (x :: T) = .int .i32 x.1 :: .int .i32 x.2 :: flatT T from rfl, List.length_cons, List.length_cons, List.length_cons, ih]; omega
theorem flat_one (T : List (Int × Int)) : ∀ v ∈ flatT T, v.oneCell' = true := by
  intro v hv
  simp only [flatT, List.mem_flatMap] at hv
  obtain ⟨x, _, hv⟩ := hv
  simp at hv
  rcases hv with rfl | rfl <;> rfl
/-- A table's cells as one range. -/
theorem TabAt.range {w : World} {b : Nat} {T : List (Int × Int)} (h : TabAt w b T) : w.rangeAt b 0 (flatT T) := by
  intro j v hv
  have hj : j < (flatT T).length := (List.getElem?_eq_some_iff.1 hv).1
  rw [flat_len] at hj
  have h1 := flat_at T (j / 2) (by omega)
  have h2 := h (j / 2) (by omega)
  rw [Nat.zero_add]
  rcases Nat.mod_two_eq_zero_or_one j with hm | hm
  · rw [show j / 2 * 2 = j by omega] at h1 h2
    rw [hv] at h1
    rw [h2.1, ← h1.1]
  · rw [show j / 2 * 2 + 1 = j by omega] at h1 h2
    rw [hv] at h1
    rw [h2.2, ← h1.2]

end Go.Proofs.YtnkddhmhjnhgcaaDoor
namespace Go.Proofs.YtnkddhmhjnhgcaaDoor
open Go.RowKit
set_option linter.unusedVariables false

theorem inT_false {T : List (Int × Int)} {r : Int} (h : ∀ t, t < T.length → ¬ ((T.getD t (0, 0)).1 ≤ r ∧ r ≤ (T.getD t (0, 0)).2)) : inT T r = false := by
  rcases Bool.eq_false_or_eq_true (inT T r) with h1 | h1
  · obtain ⟨k, hk, h2, h3⟩ := inT_elim h1
    exact absurd ⟨h2, h3⟩ (h k hk)
  · exact h1

end Go.Proofs.YtnkddhmhjnhgcaaDoor
namespace Go.Proofs.YtnkddhmhjnhgcaaDoor
open Go.RowKit
set_option linter.unusedVariables false

theorem NewT.tab {w w' : World} {T : List (Int × Int)} {e : Ending} (h : NewT w T e w') : ∃ b, e = .returned (.slice (some ⟨b, 0, none⟩) T.length T.length) ∧ w.heap.size ≤ b ∧ TabAt w' b T ∧ Kept [] w w' := by
  obtain ⟨b, cur, E, he, hb, hg, hc, hk⟩ := h
  exact ⟨b, he, hb, TabAt.of_heap hg hc, hk⟩

end Go.Proofs.YtnkddhmhjnhgcaaDoor
