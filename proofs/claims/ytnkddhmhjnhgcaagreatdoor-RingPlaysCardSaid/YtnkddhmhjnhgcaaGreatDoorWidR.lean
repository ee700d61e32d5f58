/- The reference of layer 2: its tables, in, Of. A slice that holds a table. The reference's in, Of; equal lists of ranges. The reference's Of; Same of equal tables. -/
import Derived.Test.YtnkddhmhjnhgcaaGreatDoorWidA
import Derived.Deep.MidRow
import Derived.Deep.WholeRow
import Derived.Laws.StructEq
namespace Go.Proofs.YtnkddhmhjnhgcaaGreatDoor
open Go.RowKit
set_option linter.unusedVariables false

/-- A table's numbers, one behind the other. -/
def flatT (T : List (Int × Int)) : List Value := T.flatMap fun x => [.int .i32 x.1, .int .i32 x.2]
theorem flat_at (T : List (Int × Int)) : ∀ i, i < T.length → (flatT T)[i * 2]? = some (.int .i32 (T.getD i (0, 0)).1) ∧ (flatT T)[i * 2 + 1]? = some (.int .i32 (T.getD i (0, 0)).2) := by
  induction T with
  | nil => intro i hi; simp at hi
  | cons x T ih =>
    intro i hi
    match i, hi with
    | 0, _ => exact ⟨rfl, rfl⟩
    | i + 1, hi =>
      have := ih i (by simpa using hi)
      have e : flatT (x :: T) = .int .i32 x.1 :: .int .i32 x.2 :: flatT T := rfl
      rw [e, show (i + 1) * 2 = i * 2 + 1 + 1 by omega]
      exact this

theorem TabAt.of_heap {w : World} {b : Nat} {T : List (Int × Int)} {cur : Array Value} {E : TypeId} (h : w.heap[b]? = some (.cells cur E (0, 0))) (hc : cur.toList = flatT T) : TabAt w b T := by
  intro i hi
  have := flat_at T i hi
  rw [← hc] at this
  rw [cell_of_row w b (i * 2) cur E (0, 0) h, cell_of_row w b (i * 2 + 1) cur E (0, 0) h]
  exact ⟨by simpa using this.1, by simpa using this.2⟩

/-- What returns a table that may be changed: a block of its own. -/
def NewT (w : World) (T : List (Int × Int)) (e : Ending) (w' : World) : Prop :=
  ∃ b cur E, e = .returned (.slice (some ⟨b, 0, none⟩) T.length T.length) ∧ w.heap.size ≤ b ∧ w'.heap[b]? = some (.cells cur E (0, 0)) ∧ cur.toList = flatT T ∧ Kept [] w w'

set_option maxHeartbeats 1000000 in
theorem rMarks_any (w : World) : Calls Tryz.prog 96 #[] w (NewT w marksT) := by
  go_enter Tryz.func96, Tryz.ntmps96
  go_wp2_with fail
  go_ret
  exact ⟨w.heap.size, _, _, rfl, Nat.le_refl _, heap_alloc_new w _, rfl, (Kept.refl [] w).alloc _⟩

set_option maxHeartbeats 1000000 in
theorem rWide_any (w : World) : Calls Tryz.prog 97 #[] w (NewT w wideT) := by
  go_enter Tryz.func97, Tryz.ntmps97
  go_wp2_with fail
  go_ret
  exact ⟨w.heap.size, _, _, rfl, Nat.le_refl _, heap_alloc_new w _, rfl, (Kept.refl [] w).alloc _⟩

theorem flat_len (T : List (Int × Int)) : (flatT T).length = 2 * T.length := by
  induction T with
  | nil => rfl
  | cons x T ih => rw [show flatT (x :: T) = .int .i32 x.1 :: .int .i32 x.2 :: flatT T from rfl, List.length_cons, List.length_cons, List.length_cons, ih]; omega
theorem flat_one (T : List (Int × Int)) : ∀ v ∈ flatT T, v.oneCell' = true := by
  intro v hv
  simp only [flatT, List.mem_flatMap] at hv
  obtain ⟨x, _, hv⟩ := hv
  simp at hv
  rcases hv with rfl | rfl <;> rfl
/-- A table's cells as one range. -/
theorem TabAt.range {w : World} {b : Nat} {T : List (Int × Int)} (h : TabAt w b T) : w.rangeAt b 0 (flatT T) := by
  intro j v hv
  have hj : j < (flatT T).length := (List.getElem?_eq_some_iff.1 hv).1
  rw [flat_len] at hj
  have h1 := flat_at T (j / 2) (by omega)
  have h2 := h (j / 2) (by omega)
  rw [Nat.zero_add]
  rcases Nat.mod_two_eq_zero_or_one j with hm | hm
  · rw [show j / 2 * 2 = j by omega] at h1 h2
    rw [hv] at h1
    rw [h2.1, ← h1.1]
  · rw [show j / 2 * 2 + 1 = j by omega] at h1 h2
    rw [hv] at h1
    rw [h2.2, ← h1.2]

end Go.Proofs.YtnkddhmhjnhgcaaGreatDoor
namespace Go.Proofs.YtnkddhmhjnhgcaaGreatDoor
open Go.RowKit
set_option linter.unusedVariables false

theorem inT_false {T : List (Int × Int)} {r : Int} (h : ∀ t, t < T.length → ¬ ((T.getD t (0, 0)).1 ≤ r ∧ r ≤ (T.getD t (0, 0)).2)) : inT T r = false := by
  rcases Bool.eq_false_or_eq_true (inT T r) with h1 | h1
  · obtain ⟨k, hk, h2, h3⟩ := inT_elim h1
    exact absurd ⟨h2, h3⟩ (h k hk)
  · exact h1

set_option maxHeartbeats 2000000 in
theorem rin_any (T : List (Int × Int)) (b c : Nat) (r : Int) (w : World) (hT : T.length < 1000) (ht : TabAt w b T) :
    Calls Tryz.prog 95 #[.slice (some ⟨b, 0, none⟩) T.length c, .int .i32 r] w fun e w' => e = .returned (.bool (inT T r)) ∧ w = w' := by
  have ht' := hide ht
  clear ht
  generalize hn : T.length = n at *
  have hn' := hide hn
  clear hn
  go_enter Tryz.func95, Tryz.ntmps95
  go_wp2
  go_loopg [5] n (fun kx s5 wr => ∃ k : Nat, s5 = .int .i64 k ∧ k ≤ n ∧ n - k ≤ kx ∧ w = wr ∧ Hid (∀ t, t < k → ¬ ((T.getD t (0, 0)).1 ≤ r ∧ r ≤ (T.getD t (0, 0)).2)))
  case atStart => exact ⟨0, rfl, Nat.zero_le _, by omega, rfl, hide fun t ht => absurd ht (Nat.not_lt_zero _)⟩
  case round =>
    obtain ⟨k, rfl, hk, hg, rfl, I⟩ := hrel
    by_cases hlt : k < n
    · obtain ⟨c1, c2⟩ := ht'.out k (by rw [hn'.out]; exact hlt)
      have hr := hide (show (T.getD k (0, 0)).1 = (T.getD k (0, 0)).1 ∧ (T.getD k (0, 0)).2 = (T.getD k (0, 0)).2 from ⟨rfl, rfl⟩)
      have I2 : Hid (¬ ((T.getD k (0, 0)).1 ≤ r ∧ r ≤ (T.getD k (0, 0)).2) → ∀ t, t < k + 1 → ¬ ((T.getD t (0, 0)).1 ≤ r ∧ r ≤ (T.getD t (0, 0)).2)) := hide fun h t ht => by
        rcases Nat.lt_or_eq_of_le (Nat.lt_succ_iff.1 ht) with h1 | rfl
        · exact I.out t h1
        · exact h
      have I3 : Hid ((T.getD k (0, 0)).1 ≤ r → r ≤ (T.getD k (0, 0)).2 → inT T r = true) := hide fun h1 h2 => inT_true k (by rw [hn'.out]; exact hlt) h1 h2
      have hkn : (k : Int) < (n : Int) := by omega
      clear hr I
      generalize (T.getD k (0, 0)).1 = lo at *
      generalize (T.getD k (0, 0)).2 = hi at *
      by_cases h1 : lo ≤ r
      · by_cases h2 : r ≤ hi
        · go_wp2_with fail
          go_ret
          exact ⟨ret_bool (I3.out h1 h2).symm, rfl⟩
        · go_wp2_with fail
          go_roundg (n - (k + 1))
          case measure => omega
          case rel => exact ⟨k + 1, by push_cast; rfl, by omega, Nat.le_refl _, rfl, hide (I2.out (by omega))⟩
      · go_wp2_with fail
        go_roundg (n - (k + 1))
        case measure => omega
        case rel => exact ⟨k + 1, by push_cast; rfl, by omega, Nat.le_refl _, rfl, hide (I2.out (by omega))⟩
    · obtain rfl : k = n := by omega
      have hf : Hid (inT T r = false) := hide (inT_false fun t ht => I.out t (by rw [hn'.out] at ht; exact ht))
      go_wp2_with fail
      go_ret
      exact ⟨ret_bool hf.out.symm, rfl⟩
end Go.Proofs.YtnkddhmhjnhgcaaGreatDoor
namespace Go.Proofs.YtnkddhmhjnhgcaaGreatDoor
open Go.RowKit
set_option linter.unusedVariables false

theorem NewT.tab {w w' : World} {T : List (Int × Int)} {e : Ending} (h : NewT w T e w') : ∃ b, e = .returned (.slice (some ⟨b, 0, none⟩) T.length T.length) ∧ w.heap.size ≤ b ∧ TabAt w' b T ∧ Kept [] w w' := by
  obtain ⟨b, cur, E, he, hb, hg, hc, hk⟩ := h
  exact ⟨b, he, hb, TabAt.of_heap hg hc, hk⟩

set_option maxHeartbeats 1000000 in
theorem rof_any (r : Int) (w : World) :
    Calls Tryz.prog 87 #[.int .i32 r] w fun e w' => e = .returned (.int .i64 (ofI r)) ∧ Kept [] w w' := by
  have hp := rprinted_any r w
  have hM := (rMarks_any w).mono fun _ _ h => h.tab
  have hW := hide fun w1 => (rWide_any w1).mono fun _ _ h => h.tab
  have hm := hide fun b w1 (h : TabAt w1 b marksT) => rin_any marksT b marksT.length r w1 (by decide) h
  have hd := hide fun b w1 (h : TabAt w1 b wideT) => rin_any wideT b wideT.length r w1 (by decide) h
  have hR : ofI r = if printedI r = true then (if inT marksT r = true then 0 else if inT wideT r = true then 2 else 1) else -1 := rfl
  rw [marks_len] at *
  rw [wide_len] at *
  generalize ofI r = R at *
  generalize printedI r = p at *
  generalize inT marksT r = m at *
  generalize inT wideT r = d at *
  have hR' := hide hR
  clear hR
  cases p
  · go_enter Tryz.func87, Tryz.ntmps87
    go_wp2_with (go_at_call 94; refine hp.mono ?_; rintro e w1 ⟨rfl, rfl⟩)
    go_ret
    exact ⟨ret_int hR'.out.symm, Kept.refl _ _⟩
  · cases m
    · cases d
      all_goals
        go_enter Tryz.func87, Tryz.ntmps87
        go_wp2_with (first
          | (go_at_call 94; refine hp.mono ?_; rintro e w1 ⟨rfl, rfl⟩)
          | (go_at_call 96; refine hM.mono ?_; rintro e w2 ⟨b2, rfl, _, hb2, hk2⟩)
          | (go_at_call 97; refine (hW.out w2).mono ?_; rintro e w3 ⟨b3, rfl, _, hb3, hk3⟩)
          | (go_at_call 95; refine (hd.out b3 w3 hb3).mono ?_; rintro e w4 ⟨rfl, rfl⟩)
          | (go_at_call 95; refine (hm.out b2 w2 hb2).mono ?_; rintro e w4 ⟨rfl, rfl⟩))
        go_ret
        exact ⟨ret_int hR'.out.symm, hk2.trans hk3 (by simp)⟩
    · go_enter Tryz.func87, Tryz.ntmps87
      go_wp2_with (first
        | (go_at_call 94; refine hp.mono ?_; rintro e w1 ⟨rfl, rfl⟩)
        | (go_at_call 96; refine hM.mono ?_; rintro e w2 ⟨b2, rfl, _, hb2, hk2⟩)
        | (go_at_call 95; refine (hm.out b2 w2 hb2).mono ?_; rintro e w4 ⟨rfl, rfl⟩))
      go_ret
      exact ⟨ret_int hR'.out.symm, hk2⟩
end Go.Proofs.YtnkddhmhjnhgcaaGreatDoor
