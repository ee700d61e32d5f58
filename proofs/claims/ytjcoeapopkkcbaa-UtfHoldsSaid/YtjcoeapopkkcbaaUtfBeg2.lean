/- The reference of layer 1: Begins of pending bytes and one more; Rune. -/
import Derived.Test.YtjcoeapopkkcbaaUtfBeg
namespace Go.Proofs.Ytjcoeapopkkcbaa
open Go.RowKit
set_option linter.unusedVariables false

set_option maxHeartbeats 400000 in
theorem Begins_zero (bb oo cb : Nat) (c : Int) (w : World) (hc : 0 ≤ c ∧ c ≤ 255) (hr : w.cell? ⟨bb, oo, none⟩ = some (.int .u8 c)) (hs : sizeI c = 0) :
    Calls Try.prog 28 #[.slice (some ⟨bb, oo, none⟩) 1 cb] w (Bool2Kept false false w) := by
  have Hs := hide (fun w' => rsize_any c w' hc.1 hc.2)
  rw [hs] at Hs
  clear hs
  go_enter Try.func28, Try.ntmps28
  go_wp2_with (go_at_call 36; refine (Hs.out _).mono ?_; rintro e w' ⟨rfl, rfl⟩)
  go_ret2
  exact ⟨rfl, Kept.refl _ _⟩

set_option maxHeartbeats 400000 in
theorem Begins_one (bb oo cb : Nat) (c : Int) (w : World) (hc : 0 ≤ c ∧ c ≤ 255) (hr : w.cell? ⟨bb, oo, none⟩ = some (.int .u8 c)) (hs : sizeI c = 1) :
    Calls Try.prog 28 #[.slice (some ⟨bb, oo, none⟩) 1 cb] w (Bool2Kept true true w) := by
  have Hs := hide (fun w' => rsize_any c w' hc.1 hc.2)
  rw [hs] at Hs
  clear hs
  go_enter Try.func28, Try.ntmps28
  go_wp2_with (go_at_call 36; refine (Hs.out _).mono ?_; rintro e w' ⟨rfl, rfl⟩)
  go_ret2
  exact ⟨rfl, Kept.refl _ _⟩

set_option maxHeartbeats 400000 in
theorem Begins_not (bb oo cb n : Nat) (l : List Int) (w : World) (hl : ∀ x ∈ l, 0 ≤ x ∧ x ≤ 255) (hr : ∀ j u, (ints .u8 l)[j]? = some u → w.cell? ⟨bb, oo + j, none⟩ = some u)
    (hn : n = 2 ∨ n = 3 ∨ n = 4) (h0 : 0 < l.length) (hln : l.length ≤ n) (hs : sizeI (l.getD 0 0) = n) (hf : ∃ j, 1 ≤ j ∧ j < l.length ∧ furtherB (l.getD j 0) = false) :
    Calls Try.prog 28 #[.slice (some ⟨bb, oo, none⟩) l.length cb] w (Bool2Kept false false w) := by
  have hc0 : w.cell? ⟨bb, oo, none⟩ = some (.int .u8 (l.getD 0 0)) := by
    rw [getD_at h0]
    simpa using Rd.at hr 0 h0
  have hb0 := getD_byte hl 0
  have hb0' := hb0.1
  have hb0'' := hb0.2
  clear hb0
  have Hs := hide (fun w' => rsize_any (l.getD 0 0) w' hb0' hb0'')
  rw [hs] at Hs
  clear hs
  generalize l.getD 0 0 = x0 at *
  have t1 : ((l.length : Int) == 0) = false := beq_eq_false_iff_ne.2 (by omega)
  have t2 : ((n : Int) == 0) = false := beq_eq_false_iff_ne.2 (by omega)
  have t3 : (l.length : Int) ≤ (n : Int) := by omega
  have t4 : ((n : Int) == 1) = false := beq_eq_false_iff_ne.2 (by omega)
  obtain ⟨j, hj1, hj2, hj3⟩ := hf
  have hj3' := hide hj3
  have hn4 : (n : Int) ≤ 4 := by omega
  clear hj3 hn
  go_enter Try.func28, Try.ntmps28
  go_wp2_with (go_at_call 36; refine (Hs.out _).mono ?_; rintro e w' ⟨rfl, rfl⟩)
  go_loop [5] (fun i => ∃ k : Nat, 1 ≤ k ∧ k ≤ j ∧ i = .int .i64 k) (fun i => l.length - (intOf i).toNat)
  case atStart => exact ⟨1, Nat.le_refl _, by omega, rfl⟩
  case round =>
    obtain ⟨k, hk1, hk, rfl⟩ := hrel
    have hlt : k < l.length := by omega
    have hcell : w.cell? ⟨bb, oo + k, none⟩ = some (.int .u8 (l.getD k 0)) := by
      have := Rd.at hr k hlt
      rw [getD_at hlt]
      exact this
    have hbk := getD_byte hl k
    have Hf := hide (fun w' => rfurther_any (l.getD k 0) w' hbk.1 hbk.2)
    have hkj : furtherB (l.getD k 0) = true → k < j := by
      intro h
      rcases Nat.lt_or_ge k j with h1 | h1
      · exact h1
      · obtain rfl : k = j := by omega
        rw [hj3'.out] at h
        cases h
    have hkj' := hide hkj
    clear hbk hkj
    generalize l.getD k 0 = y at *
    cases hfy : furtherB y with
    | true =>
      have := hkj'.out hfy
      rw [hfy] at Hf
      clear hfy
      go_wp2_with fail
      refine (Hf.out _).mono ?_
      rintro e w' ⟨rfl, rfl⟩
      go_wp2_with fail
      go_round
      case rel => exact ⟨k + 1, by omega, by omega, by go_num⟩
      case measure => simp [intOf]; omega
    | false =>
      rw [hfy] at Hf
      clear hfy
      go_wp2_with fail
      refine (Hf.out _).mono ?_
      rintro e w' ⟨rfl, rfl⟩
      go_wp2_with fail
      go_ret2
      exact ⟨rfl, Kept.refl _ _⟩

theorem Begins_facts (bb oo cb n : Nat) (l : List Int) (w : World) (hl : ∀ x ∈ l, 0 ≤ x ∧ x ≤ 255) (hr : ∀ j u, (ints .u8 l)[j]? = some u → w.cell? ⟨bb, oo + j, none⟩ = some u)
    (hn : n = 2 ∨ n = 3 ∨ n = 4) (h0 : 0 < l.length) (hln : l.length ≤ n) (hs : sizeI (l.getD 0 0) = n) (hf : ∀ j, 1 ≤ j → j < l.length → furtherB (l.getD j 0) = true)
    (res : Bool) (hF : Facts n l res) :
    Calls Try.prog 28 #[.slice (some ⟨bb, oo, none⟩) l.length cb] w (Bool2Kept res (res && decide (l.length = n)) w) := by
  obtain ⟨h1, j0, hA, hB⟩ := hF
  exact Begins_loop bb oo cb n l w hl hr hn h0 hln hs hf res j0 h1 hA hB

theorem furtherB_true {y : Int} (h : 128 ≤ y ∧ y ≤ 191) : furtherB y = true := by unfold furtherB; rw [decide_eq_true_eq]; omega
theorem furtherB_false {y : Int} (h : ¬ (128 ≤ y ∧ y ≤ 191)) : furtherB y = false := by unfold furtherB; rw [decide_eq_false_iff_not]; omega

theorem b2_of {a b a' b' : Bool} {P : Program} {f : FuncId} {args : Array Value} {w : World} (h : Calls P f args w (Bool2Kept a b w)) (h1 : a = a') (h2 : b = b') : Calls P f args w (Bool2Kept a' b' w) := by
  subst h1 h2; exact h

theorem Begins_any (bb oo cb : Nat) (p : List Int) (c : Int) (w : World) (hi : Inv p) (hc : 0 ≤ c ∧ c ≤ 255)
    (hr : ∀ j u, (ints .u8 (p ++ [c]))[j]? = some u → w.cell? ⟨bb, oo + j, none⟩ = some u) :
    Calls Try.prog 28 #[.slice (some ⟨bb, oo, none⟩) (p ++ [c]).length cb] w (Bool2Kept (isB p c) (wholeB p c) w) := by
  have hl : ∀ x ∈ p ++ [c], 0 ≤ x ∧ x ≤ 255 := by
    intro x hx
    rw [List.mem_append, List.mem_singleton] at hx
    rcases hx with hx | rfl
    · exact hi.byte x hx
    · exact hc
  match p, hi with
  | [], _ =>
    have hcell : w.cell? ⟨bb, oo, none⟩ = some (.int .u8 c) := by simpa using hr 0 (.int .u8 c) (by simp [ints])
    rcases size_cases c with ⟨_, hs⟩ | ⟨_, _, hs⟩ | ⟨a, b, hs⟩ | ⟨a, b, hs⟩ | ⟨a, b, hs⟩ | ⟨_, hs⟩
    · exact b2_of (Begins_one bb oo cb c w hc hcell hs) (by simp [isB, hs]) (by simp [isB, wholeB, hs])
    · exact b2_of (Begins_zero bb oo cb c w hc hcell hs) (by simp [isB, hs]) (by simp [isB, wholeB, hs])
    · exact b2_of (Begins_facts bb oo cb 2 [c] w hl hr (by omega) (by simp) (by simp) (by simp [hs]) (by intro j h1 h2; simp at h2; omega) true (facts_one2 c ⟨a, b⟩)) (by simp [isB, hs]) (by simp [isB, wholeB, hs])
    · exact b2_of (Begins_facts bb oo cb 3 [c] w hl hr (by omega) (by simp) (by simp) (by simp [hs]) (by intro j h1 h2; simp at h2; omega) true (facts_one3 c ⟨a, b⟩)) (by simp [isB, hs]) (by simp [isB, wholeB, hs])
    · exact b2_of (Begins_facts bb oo cb 4 [c] w hl hr (by omega) (by simp) (by simp) (by simp [hs]) (by intro j h1 h2; simp at h2; omega) true (facts_one4 c ⟨a, b⟩)) (by simp [isB, hs]) (by simp [isB, wholeB, hs])
    · exact b2_of (Begins_zero bb oo cb c w hc hcell hs) (by simp [isB, hs]) (by simp [isB, wholeB, hs])
  | [x], hi =>
    simp only [Inv] at hi
    have hlh := lohi x
    by_cases hf : 128 ≤ c ∧ c ≤ 191
    · have hff : ∀ j, 1 ≤ j → j < [x, c].length → furtherB ([x, c].getD j 0) = true := by
        intro j h1 h2
        obtain rfl : j = 1 := by simp at h2; omega
        exact furtherB_true hf
      rcases size_cases x with ⟨_, hs⟩ | ⟨_, _, hs⟩ | ⟨a, b, hs⟩ | ⟨a, b, hs⟩ | ⟨a, b, hs⟩ | ⟨_, hs⟩
      · omega
      · omega
      · exact b2_of (Begins_facts bb oo cb 2 [x, c] w hl hr (by omega) (by simp) (by simp) (by simp [hs]) hff _ (facts_two2 x c ⟨a, b⟩ hf)) rfl (by simp [isB, wholeB, hs])
      · exact b2_of (Begins_facts bb oo cb 3 [x, c] w hl hr (by omega) (by simp) (by simp) (by simp [hs]) hff _ (facts_two3 x c ⟨a, b⟩ hf)) rfl (by simp [isB, wholeB, hs])
      · exact b2_of (Begins_facts bb oo cb 4 [x, c] w hl hr (by omega) (by simp) (by simp) (by simp [hs]) hff _ (facts_two4 x c ⟨a, b⟩ hf)) rfl (by simp [isB, wholeB, hs])
      · omega
    · have hg : goesB [x] c = false := by simp only [goesB]; rw [decide_eq_false_iff_not]; omega
      obtain ⟨n, hn1, hn2⟩ : ∃ n : Nat, (n = 2 ∨ n = 3 ∨ n = 4) ∧ sizeI x = n := by
        rcases size_cases x with ⟨_, hs⟩ | ⟨_, _, hs⟩ | ⟨a, b, hs⟩ | ⟨a, b, hs⟩ | ⟨a, b, hs⟩ | ⟨_, hs⟩
        · omega
        · omega
        · exact ⟨2, by omega, hs⟩
        · exact ⟨3, by omega, hs⟩
        · exact ⟨4, by omega, hs⟩
        · omega
      exact b2_of (Begins_not bb oo cb n [x, c] w hl hr hn1 (by simp) (by simp; omega) (by simp [hn2]) ⟨1, by omega, by simp, furtherB_false hf⟩) (by simp [isB, hg]) (by simp [isB, wholeB, hg])
  | [x, y], hi =>
    simp only [Inv] at hi
    have hlh := lohi x
    by_cases hf : 128 ≤ c ∧ c ≤ 191
    · have hg : goesB [x, y] c = true := by simp only [goesB]; rw [decide_eq_true_eq]; omega
      have hff : ∀ j, 1 ≤ j → j < [x, y, c].length → furtherB ([x, y, c].getD j 0) = true := by
        intro j h1 h2
        have : j = 1 ∨ j = 2 := by simp at h2; omega
        rcases this with rfl | rfl
        · exact furtherB_true (show 128 ≤ y ∧ y ≤ 191 by omega)
        · exact furtherB_true hf
      rcases size_cases x with ⟨_, hs⟩ | ⟨_, _, hs⟩ | ⟨a, b, hs⟩ | ⟨a, b, hs⟩ | ⟨a, b, hs⟩ | ⟨_, hs⟩
      · omega
      · omega
      · omega
      · exact b2_of (Begins_facts bb oo cb 3 [x, y, c] w hl hr (by omega) (by simp) (by simp) (by simp [hs]) hff _ (facts_three3 x y c ⟨a, b⟩ hi.2.2 hf)) (by simp [isB, hg]) (by simp [isB, wholeB, hs, hg])
      · exact b2_of (Begins_facts bb oo cb 4 [x, y, c] w hl hr (by omega) (by simp) (by simp) (by simp [hs]) hff _ (facts_three4 x y c ⟨a, b⟩ hi.2.2 hf)) (by simp [isB, hg]) (by simp [isB, wholeB, hs, hg])
      · omega
    · have hg : goesB [x, y] c = false := by simp only [goesB]; rw [decide_eq_false_iff_not]; omega
      obtain ⟨n, hn1, hn2⟩ : ∃ n : Nat, (n = 3 ∨ n = 4) ∧ sizeI x = n := by
        rcases size_cases x with ⟨_, hs⟩ | ⟨_, _, hs⟩ | ⟨a, b, hs⟩ | ⟨a, b, hs⟩ | ⟨a, b, hs⟩ | ⟨_, hs⟩
        · omega
        · omega
        · omega
        · exact ⟨3, by omega, hs⟩
        · exact ⟨4, by omega, hs⟩
        · omega
      exact b2_of (Begins_not bb oo cb n [x, y, c] w hl hr (by omega) (by simp) (by simp; omega) (by simp [hn2]) ⟨2, by omega, by simp, furtherB_false hf⟩) (by simp [isB, hg]) (by simp [isB, wholeB, hg])
  | [x, y, z], hi =>
    simp only [Inv] at hi
    have hlh := lohi x
    have hs : sizeI x = 4 := by have := size_cases x; omega
    by_cases hf : 128 ≤ c ∧ c ≤ 191
    · have hg : goesB [x, y, z] c = true := by simp only [goesB]; rw [decide_eq_true_eq]; omega
      have hff : ∀ j, 1 ≤ j → j < [x, y, z, c].length → furtherB ([x, y, z, c].getD j 0) = true := by
        intro j h1 h2
        have : j = 1 ∨ j = 2 ∨ j = 3 := by simp at h2; omega
        rcases this with rfl | rfl | rfl
        · exact furtherB_true (show 128 ≤ y ∧ y ≤ 191 by omega)
        · exact furtherB_true (show 128 ≤ z ∧ z ≤ 191 by omega)
        · exact furtherB_true hf
      exact b2_of (Begins_facts bb oo cb 4 [x, y, z, c] w hl hr (by omega) (by simp) (by simp) (by simp [hs]) hff _ (facts_four4 x y z c ⟨hi.1, hi.2.1⟩ ⟨hi.2.2.1, hi.2.2.2.1⟩ hi.2.2.2.2 hf)) (by simp [isB, hg]) (by simp [isB, wholeB, hs, hg])
    · have hg : goesB [x, y, z] c = false := by simp only [goesB]; rw [decide_eq_false_iff_not]; omega
      exact b2_of (Begins_not bb oo cb 4 [x, y, z, c] w hl hr (by omega) (by simp) (by simp) (by simp [hs]) ⟨3, by omega, by simp, furtherB_false hf⟩) (by simp [isB, hg]) (by simp [isB, wholeB, hg])
end Go.Proofs.Ytjcoeapopkkcbaa
