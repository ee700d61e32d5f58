/- The walks of the laws UtfDecodes, UtfFours, UtfEncodes and UtfNil. -/
import Derived.Test.YtjcoeapopkkcbaaUtfKnown
namespace Go.Proofs.Ytjcoeapopkkcbaa
open Go.RowKit
set_option linter.unusedVariables false

theorem Same_self (a b : Option Addr) (na ca nb cb : Nat) (l : List Int) (w : World) (ha : Rd w a na 1 (ints .i32 l)) (hb : Rd w b nb 1 (ints .i32 l)) (hn : l.length ≤ 1000000) :
    Calls Try.prog 10 #[.slice a na ca, .slice b nb cb] w (BoolKept true w) := by
  have := Same_any a b na ca nb cb l l w ha hb hn
  rw [decide_eq_true rfl] at this
  exact this

set_option maxHeartbeats 400000 in
theorem UtfDecodes_big (a : Option Addr) (n c : Nat) (w : World) (hn : 200 < n) : Calls Try.prog 3 #[.slice a n c] w (BoolKept true w) := by
  go_enter Try.func3, Try.ntmps3
  go_wp2_with fail
  refine (known_any _).mono ?_
  rintro e w1 ⟨rfl, hk⟩
  go_wp2_with fail
  go_ret
  exact ⟨rfl, hk⟩

set_option maxHeartbeats 400000 in
theorem UtfDecodes_small (a : Option Addr) (n c : Nat) (z : List Int) (w : World) (hr : Rd w a n 1 (ints .u8 z)) (hz : ∀ x ∈ z, 0 ≤ x ∧ x ≤ 255) (hn : n ≤ 200) : Calls Try.prog 3 #[.slice a n c] w (BoolKept true w) := by
  have hzl : z.length ≤ 200 := by have := hr.1; rw [ints_len] at this; omega
  have hdl := decI_len z
  have hz' := hide hz
  clear hz
  go_enter Try.func3, Try.ntmps3
  go_wp2_with (at_builtin; refine wpList_app (base := w.heap.size) ?_ rfl elByte rfl rfl (Own.nil _ _ _ _) rfl hr (ints_one _ _) (by omega) (Nat.le_refl _); intro a2 c2 w2 ho2 hk2 hat2; simp only [Nat.zero_add, List.nil_append] at ho2)
  have hk2' : Kept [] w w2 := hk2
  refine (Decode_any _ _ _ z w2 hz'.out ho2.rd (by omega)).mono ?_
  rintro e w3 ⟨a3, n3, c3, rfl, ho3, hk3, hat3⟩
  go_wp2_with fail
  have K3 := hk2'.trans hk3 (by simp)
  refine (rDecode_any _ _ _ z w3 hz'.out (hr.kept K3 (by simp)) (by omega)).mono ?_
  rintro e w4 ⟨a4, n4, c4, rfl, ho4, hk4, hat4⟩
  go_wp2_with fail
  have K4 := K3.trans hk4 (by simp)
  refine (Same_self _ _ _ _ _ _ (decI z) w4 (ho3.rd.kept hk4 (by simp)) ho4.rd (by omega)).mono ?_
  rintro e w5 ⟨rfl, hk5⟩
  have K5 := K4.trans hk5 (by simp)
  have q1 := conv_bytes w5 a2 n c2 z (((ho2.rd.kept hk3 (by simp)).kept hk4 (by simp)).kept hk5 (by simp))
  have q2 := conv_bytes w5 a n c z (hr.kept K5 (by simp))
  go_wp2_with fail
  refine (known_any _).mono ?_
  rintro e w6 ⟨rfl, hk6⟩
  go_wp2_with fail
  go_ret
  exact ⟨rfl, K5.trans hk6 (by simp)⟩

theorem UtfDecodes_walk (a : Option Addr) (n c : Nat) (z : List Int) (w : World) (hr : Rd w a n 1 (ints .u8 z)) (hz : ∀ x ∈ z, 0 ≤ x ∧ x ≤ 255) : Calls Try.prog 3 #[.slice a n c] w (BoolKept true w) := by
  by_cases hn : n ≤ 200
  · exact UtfDecodes_small a n c z w hr hz hn
  · exact UtfDecodes_big a n c w (by omega)
end Go.Proofs.Ytjcoeapopkkcbaa
