/- Flags that are given one by one: what comes out does not depend on their order. -/
import Derived.Test.YtjhekofnecojkaaDoorPenKnown
import Derived.Laws.BitsAllLaws
namespace Go.Proofs.YtjhekofnecojkaaDoor
set_option linter.unusedVariables false

/-- The place that a number gives. -/
def plc (n : Int) : Nat := n.toNat % 8
/-- The flags that numbers give, together. -/
def flN (l : List Int) : Nat := l.foldl (fun acc n => acc ||| 2 ^ plc n) 0
/-- Whether one of the numbers gives this place. -/
def th (l : List Int) (j : Nat) : Bool := l.any fun n => plc n == j

theorem plc_lt (n : Int) : plc n < 8 := Nat.mod_lt _ (by decide)
theorem flN_snoc (l : List Int) (n : Int) : flN (l ++ [n]) = flN l ||| 2 ^ plc n := by simp [flN, List.foldl_append]
theorem th_snoc (l : List Int) (n : Int) (j : Nat) : th (l ++ [n]) j = (th l j || plc n == j) := by simp [th, List.any_append]
theorem fl_bit (l : List Int) (acc i : Nat) : (l.foldl (fun acc n => acc ||| 2 ^ plc n) acc).testBit i = (acc.testBit i || l.any fun n => plc n == i) := by
  induction l generalizing acc with
  | nil => simp
  | cons n l ih =>
    rw [List.foldl_cons, ih, Nat.testBit_or, Nat.testBit_two_pow, List.any_cons, Bool.or_assoc]
    congr 2
theorem flN_bit (l : List Int) (i : Nat) : (flN l).testBit i = th l i := by
  unfold flN th
  rw [fl_bit]
  simp
theorem flN_lt (l : List Int) : flN l < 256 := by
  have h : ∀ (l : List Int) (acc : Nat), acc < 2 ^ 8 → l.foldl (fun acc n => acc ||| 2 ^ plc n) acc < 2 ^ 8 := by
    intro l
    induction l with
    | nil => exact fun acc h => h
    | cons n l ih =>
      intro acc h
      exact ih _ (Nat.or_lt_two_pow h (Nat.pow_lt_pow_right (by decide) (plc_lt n)))
  exact h l 0 (by decide)
theorem flN_reverse (l : List Int) : flN l.reverse = flN l := by
  apply Nat.eq_of_testBit_eq
  intro i
  rw [flN_bit, flN_bit]
  simp [th, List.any_reverse]
theorem flag_nat (i : Nat) : flagI i = ((2 ^ i : Nat) : Int) := by unfold flagI; push_cast; rfl
theorem pow_lt (i : Nat) (h : i < 8) : 2 ^ i < 256 := Nat.pow_lt_pow_right (a := 2) (m := i) (n := 8) (by decide) h
theorem or_flag (l : List Int) (n : Int) : bits .or .u8 (flN l : Int) (flagI (plc n)) = (flN (l ++ [n]) : Int) := by
  rw [flag_nat, u8_or_nat _ _ (flN_lt l) (pow_lt _ (plc_lt n)), flN_snoc]
theorem has_flag (l : List Int) (i : Nat) (hi : i < 8) : hasI (flN l : Int) (flagI i) = th l i := by
  unfold hasI
  rw [flag_one hi, Bool.true_and, flag_nat, u8_and_nat _ _ (flN_lt l) (pow_lt _ hi), nat_bit, ← flN_bit]
  rw [Nat.testBit_eq_decide_div_mod_eq]
  have hp : 0 < 2 ^ i := Nat.pow_pos (by decide)
  rcases Nat.mod_two_eq_zero_or_one (flN l / 2 ^ i) with h | h
  · rw [h]; simp
  · rw [h]
    simp
    intro h2
    have e : ((2 : Int) ^ i) = ((2 ^ i : Nat) : Int) := by push_cast; rfl
    first
      | omega
      | (rw [e] at h2; omega)
end Go.Proofs.YtjhekofnecojkaaDoor
