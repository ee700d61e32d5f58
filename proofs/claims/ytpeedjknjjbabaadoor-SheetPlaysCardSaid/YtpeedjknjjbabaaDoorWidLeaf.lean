/- The leaf functions of layer 2 and of its reference: what each returns. -/
import Derived.Test.YtpeedjknjjbabaaDoorRows
import Derived.Test.YtpeedjknjjbabaaDoorUtil
import Derived.Test.YtpeedjknjjbabaaDoorWidMath
import Derived.WalkKit
import Derived.WalkSpells
import Derived.WalkLawsBesides
import Derived.BigQuiet
import Derived.StillTailTactics
namespace Go.Proofs.YtpeedjknjjbabaaDoor
open Go.RowKit
set_option linter.unusedVariables false

/-- A number of 32 bits. -/
def I32 (r : Int) : Prop := -2147483648 ≤ r ∧ r ≤ 2147483647

set_option maxHeartbeats 400000 in
theorem printed_any (r : Int) (w : World) :
    Calls Tryd.prog 62 #[.int .i32 r] w fun e w' => e = .returned (.bool (printedI r)) ∧ w = w' := by
  have h : r < 32 ∨ (32 ≤ r ∧ r < 127) ∨ (127 ≤ r ∧ r ≤ 159) ∨ (159 < r ∧ r < 55296) ∨ (55296 ≤ r ∧ r ≤ 57343) ∨ (57343 < r ∧ r ≤ 1114111) ∨ 1114111 < r := by omega
  rcases h with h | h | h | h | h | h | h
  all_goals
    go_enter Tryd.func62, Tryd.ntmps62
    go_wp2
    go_ret
    exact ⟨ret_bool (by unfold printedI; rw [Bool.eq_iff_iff]; simp; omega), rfl⟩

set_option maxHeartbeats 400000 in
theorem rprinted_any (r : Int) (w : World) :
    Calls Tryd.prog 67 #[.int .i32 r] w fun e w' => e = .returned (.bool (printedI r)) ∧ w = w' := by
  have h : r < 32 ∨ (32 ≤ r ∧ r < 127) ∨ (127 ≤ r ∧ r ≤ 159) ∨ (159 < r ∧ r < 55296) ∨ (55296 ≤ r ∧ r ≤ 57343) ∨ (57343 < r ∧ r ≤ 1114111) ∨ 1114111 < r := by omega
  rcases h with h | h | h | h | h | h | h
  all_goals
    go_enter Tryd.func67, Tryd.ntmps67
    go_wp2
    go_ret
    exact ⟨ret_bool (by unfold printedI; rw [Bool.eq_iff_iff]; simp; omega), rfl⟩

set_option maxHeartbeats 400000 in
theorem side_any (r a b : Int) (w : World) :
    Calls Tryd.prog 75 #[.int .i32 r, .agg #[.int .i32 a, .int .i32 b]] w fun e w' => e = .returned (.int .i64 (sideI r (a, b))) ∧ Kept [] w w' := by
  have h : r < a ∨ (a ≤ r ∧ b < r) ∨ (a ≤ r ∧ r ≤ b) := by omega
  rcases h with h | h | h
  all_goals
    go_enter Tryd.func75, Tryd.ntmps75
    go_wp2
    go_ret
    exact ⟨ret_int (by unfold sideI; repeat (first | rw [if_pos (by simp; omega)] | rw [if_neg (by simp; omega)])), (Kept.refl _ _).alloc _⟩

set_option maxRecDepth 100000 in
theorem cmark_any (r : Int) (x : Int × Int) (i bx : Nat) (w : World) (hi : i < 18) (hx : w.cell? ⟨bx, 0, none⟩ = some (.int .i32 r)) (ha : w.cell? ⟨0, i * 2, none⟩ = some (.int .i32 x.1)) (hb : w.cell? ⟨0, i * 2 + 1, none⟩ = some (.int .i32 x.2)) :
    Calls Tryd.prog 74 (#[.int .i64 i] ++ #[.pointer (some ⟨bx, 0, none⟩)]) w fun e w' => e = .returned (.int .i64 (sideI r x)) ∧ Kept [] w w' := by
  obtain ⟨a, b⟩ := x
  have hs := hide (fun w => side_any r a b w)
  have hiz : (i : Int) < 18 := by omega
  generalize sideI r (a, b) = s at *
  go_enter Tryd.func74, Tryd.ntmps74
  go_wp2_with fail
  go_still_tail 4, (by kernel_rfl)
  change wpList _ _ _ _ _ w.drew
  go_wp2_with (go_at_call 75; refine (hs.out _).mono ?_; rintro e w1 ⟨rfl, hk⟩)
  go_ret
  exact ⟨rfl, ((Kept.refl [] w).drew).trans hk (by simp)⟩

set_option maxRecDepth 100000 in
theorem cwide_any (r : Int) (x : Int × Int) (i bx : Nat) (w : World) (hi : i < 19) (hx : w.cell? ⟨bx, 0, none⟩ = some (.int .i32 r)) (ha : w.cell? ⟨1, i * 2, none⟩ = some (.int .i32 x.1)) (hb : w.cell? ⟨1, i * 2 + 1, none⟩ = some (.int .i32 x.2)) :
    Calls Tryd.prog 76 (#[.int .i64 i] ++ #[.pointer (some ⟨bx, 0, none⟩)]) w fun e w' => e = .returned (.int .i64 (sideI r x)) ∧ Kept [] w w' := by
  obtain ⟨a, b⟩ := x
  have hs := hide (fun w => side_any r a b w)
  have hiz : (i : Int) < 19 := by omega
  generalize sideI r (a, b) = s at *
  go_enter Tryd.func76, Tryd.ntmps76
  go_wp2_with fail
  go_still_tail 4, (by kernel_rfl)
  change wpList _ _ _ _ _ w.drew
  go_wp2_with (go_at_call 75; refine (hs.out _).mono ?_; rintro e w1 ⟨rfl, hk⟩)
  go_ret
  exact ⟨rfl, ((Kept.refl [] w).drew).trans hk (by simp)⟩

end Go.Proofs.YtpeedjknjjbabaaDoor
