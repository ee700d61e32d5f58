/- The reference's functions of layer 6: Columns, Valid, Used, Same, Copy, Trim, Text. -/
import Derived.Test.YtpeedjknjjbabaaDoorLinMem
import Derived.Test.YtpeedjknjjbabaaDoorCelRr
namespace Go.Proofs.YtpeedjknjjbabaaDoor
open Go.RowKit
set_option linter.unusedVariables false
set_option maxRecDepth 100000

theorem rColumns_any (n : Int) (w : World) : Calls Tryd.prog 47 #[.int .i64 n] w fun e w' => e = .returned (.bool (decide (0 ≤ n ∧ n ≤ 1000))) ∧ w' = w := by
  by_cases h0 : 0 ≤ n
  · go_enter Tryd.func47, Tryd.ntmps47
    go_wp2_with fail
    go_ret
    exact ⟨ret_bool (by simp [h0]), rfl⟩
  · have h1 : n < 0 := by omega
    go_enter Tryd.func47, Tryd.ntmps47
    go_wp2_with fail
    go_ret
    exact ⟨ret_bool (by simp; omega), rfl⟩

set_option maxHeartbeats 1000000 in
theorem rValid6_any (a : Option Addr) (n c : Nat) (s : Bool) (l : List Cl) (w : World) (hr : Rd w a n 16 (cellsV l)) :
    Calls Tryd.prog 42 #[.agg #[.slice a n c, .bool s]] w fun e w' => e = .returned (.bool (validL l)) ∧ Kept [] w w' := by
  have hl := hr.clen
  have hk0 : Kept [] w (w.alloc (.cells #[.slice a n c, .bool s] 35)) := (Kept.refl [] w).alloc _
  have hC := hide (fun w1 => rColumns_any (n : Int) w1)
  by_cases hn : n ≤ 1000
  · have hR := hide (rRow_any a n c l _ (hr.kept hk0 (by simp)) hn)
    have hV : validL l = rowI l := by unfold validL; rw [decide_eq_true (by omega), Bool.true_and]
    rw [hV]
    rw [decide_eq_true (by omega)] at hC
    clear hr
    go_enter Tryd.func42, Tryd.ntmps42
    go_wp2_with fail
    refine (hC.out _).mono ?_
    rintro e w1 ⟨rfl, rfl⟩
    go_wp2_with fail
    refine hR.out.mono ?_
    rintro e w1 ⟨rfl, hk1⟩
    go_wp2_with fail
    go_ret
    exact ⟨rfl, hk0.trans hk1 (by simp)⟩
  · have hV : validL l = false := by unfold validL; rw [decide_eq_false (by omega), Bool.false_and]
    rw [hV]
    rw [decide_eq_false (by omega)] at hC
    clear hr
    go_enter Tryd.func42, Tryd.ntmps42
    go_wp2_with fail
    refine (hC.out _).mono ?_
    rintro e w1 ⟨rfl, rfl⟩
    go_wp2_with fail
    go_ret
    exact ⟨rfl, hk0⟩

set_option maxHeartbeats 1000000 in
theorem rSame6_any (a : Option Addr) (n c : Nat) (s : Bool) (l : List Cl) (a2 : Option Addr) (n2 c2 : Nat) (s2 : Bool) (m : List Cl) (w : World) (hr : Rd w a n 16 (cellsV l)) (hr2 : Rd w a2 n2 16 (cellsV m)) (hn : n ≤ 1000000) :
    Calls Tryd.prog 26 #[.agg #[.slice a n c, .bool s], .agg #[.slice a2 n2 c2, .bool s2]] w fun e w' => e = .returned (.bool (decide (s = s2 ∧ l = m))) ∧ Kept [] w w' := by
  have hk0 : Kept [] w ((w.alloc (.cells #[.slice a n c, .bool s] 35)).alloc (.cells #[.slice a2 n2 c2, .bool s2] 35)) := ((Kept.refl [] w).alloc _).alloc _
  have hS := hide (Same_big a n c l a2 n2 c2 m _ (hr.kept hk0 (by simp)) (hr2.kept hk0 (by simp)) hn)
  clear hr hr2
  by_cases hs : s = s2
  · subst hs
    have e : decide (s = s ∧ l = m) = decide (l = m) := by simp
    rw [e]
    have hb : (s == s) = true := by simp
    go_enter Tryd.func26, Tryd.ntmps26
    go_wp2_with fail
    refine hS.out.mono ?_
    rintro e w1 ⟨rfl, hk1⟩
    go_wp2_with fail
    go_ret
    exact ⟨rfl, hk0.trans hk1 (by simp)⟩
  · have e : decide (s = s2 ∧ l = m) = false := by simp [hs]
    rw [e]
    have hb : (s == s2) = false := by simpa using hs
    clear hs
    go_enter Tryd.func26, Tryd.ntmps26
    go_wp2_with fail
    go_ret
    exact ⟨rfl, hk0⟩
end Go.Proofs.YtpeedjknjjbabaaDoor
