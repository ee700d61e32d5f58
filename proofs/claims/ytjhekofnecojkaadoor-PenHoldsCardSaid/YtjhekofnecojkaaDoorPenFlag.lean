/- Flags and their words: the program's and the reference's. -/
import Derived.Test.YtjhekofnecojkaaDoorPenFn
import Derived.Lib.Strings
import Derived.Lib.Slices
import Derived.Lib.Small
import Derived.Lib.Walk
import Derived.Lib.BitFns
import Derived.Laws.BitsAllLaws
import Derived.IntWalk
namespace Go.Proofs.YtjhekofnecojkaaDoor
open Go.RowKit
set_option linter.unusedVariables false

set_option maxRecDepth 100000 in
theorem ones_any (x : Int) (w : World) (h : Byte x) :
    Calls Tryd.prog 38 #[.int .u8 x] w fun e w' => e = .returned (.int .i64 (Lib.onesCount x.toNat)) ∧ w' = w := by
  obtain ⟨h0, h1⟩ := h
  have hv := hide (Lib.pop8_int x h0 h1)
  go_enter Tryd.func38, Tryd.ntmps38
  go_wp2
  go_ret
  exact ⟨ret_int (by unfold wrap64; exact hv.out), rfl⟩
set_option maxRecDepth 100000 in
theorem zeros_any (x : Int) (w : World) (h : Byte x) :
    Calls Tryd.prog 37 #[.int .u8 x] w fun e w' => e = .returned (.int .i64 (Lib.trailingZeros8 x.toNat)) ∧ w' = w := by
  obtain ⟨h0, h1⟩ := h
  have hv := hide (Lib.ntz8_int x h0 h1)
  go_enter Tryd.func37, Tryd.ntmps37
  go_wp2
  go_ret
  exact ⟨ret_int (by unfold wrap64; exact hv.out), rfl⟩

/-- Just one flag. -/
def oneI (f : Int) : Bool := Lib.onesCount f.toNat == 1
/-- The flag at a place. -/
def flagI (i : Nat) : Int := 2 ^ i
theorem one_iff (f : Int) (h : Byte f) : oneI f = true ↔ ∃ i, i < 8 ∧ f = flagI i := by
  have key : ∀ n : Fin 256, (Lib.onesCount n.val == 1) = true ↔ ∃ i : Fin 8, n.val = 2 ^ i.val := by decide +kernel
  obtain ⟨h0, h1⟩ := h
  have := key ⟨f.toNat, by omega⟩
  simp only at this
  unfold oneI
  rw [this]
  constructor
  · rintro ⟨i, hi⟩
    refine ⟨i.val, i.isLt, ?_⟩
    unfold flagI
    have e : f = (f.toNat : Int) := by omega
    rw [e, hi]
    push_cast
    rfl
  · rintro ⟨i, hi, e⟩
    refine ⟨⟨i, hi⟩, ?_⟩
    subst e
    unfold flagI
    have : ((2 : Int) ^ i) = ((2 ^ i : Nat) : Int) := by push_cast; rfl
    rw [this]
    rfl
theorem flag_byte {i : Nat} (h : i < 8) : Byte (flagI i) := by
  have : ∀ j : Fin 8, 0 ≤ flagI j.val ∧ flagI j.val ≤ 255 := by decide
  exact this ⟨i, h⟩
theorem flag_one {i : Nat} (h : i < 8) : oneI (flagI i) = true := (one_iff _ (flag_byte h)).2 ⟨i, h, rfl⟩
theorem flag_zeros {i : Nat} (h : i < 8) : Lib.trailingZeros8 (flagI i).toNat = i := by
  have : ∀ j : Fin 8, Lib.trailingZeros8 (flagI j.val).toNat = j.val := by decide
  exact this ⟨i, h⟩
theorem flag_inj {i j : Nat} (hi : i < 8) (hj : j < 8) (h : flagI i = flagI j) : i = j := by
  have := flag_zeros hi
  rw [h, flag_zeros hj] at this
  exact this.symm

theorem single_any (f : Int) (w : World) (h : Byte f) :
    Calls Tryd.prog 36 #[.int .u8 f] w fun e w' => e = .returned (.bool (oneI f)) ∧ w' = w := by
  have hO := hide (fun w1 => ones_any f w1 h)
  have hR := hide (show oneI f = ((Lib.onesCount f.toNat : Int) == 1) by unfold oneI; rw [Bool.eq_iff_iff]; simp; omega)
  generalize oneI f = R at *
  generalize (Lib.onesCount f.toNat : Int) = c at *
  go_enter Tryd.func36, Tryd.ntmps36
  go_wp2_with fail
  refine (hO.out _).mono ?_
  rintro e w1 ⟨rfl, rfl⟩
  go_wp2_with fail
  all_goals
    go_ret
    exact ⟨ret_bool hR.out.symm, rfl⟩
theorem flag_any (i : Nat) (hi : i < 8) (w : World) :
    Calls Tryd.prog 31 #[.int .i64 i] w fun e w' => e = .returned (.int .u8 (flagI i)) ∧ w' = w := by
  have h : i = 0 ∨ i = 1 ∨ i = 2 ∨ i = 3 ∨ i = 4 ∨ i = 5 ∨ i = 6 ∨ i = 7 := by omega
  rcases h with rfl | rfl | rfl | rfl | rfl | rfl | rfl | rfl
  all_goals
    go_enter Tryd.func31, Tryd.ntmps31
    go_wp2
    go_ret
    exact ⟨rfl, rfl⟩
end Go.Proofs.YtjhekofnecojkaaDoor
