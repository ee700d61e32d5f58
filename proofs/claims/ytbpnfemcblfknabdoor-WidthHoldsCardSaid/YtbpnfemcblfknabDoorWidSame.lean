/- Same of equal tables. -/
import Derived.Test.YtbpnfemcblfknabDoorWidRef
import Derived.KernelRfl
import Derived.Laws.StructEq
import Derived.BigQuiet
namespace Go.Proofs.YtbpnfemcblfknabDoor
open Go.RowKit
set_option linter.unusedVariables false

theorem eq_pair (a b c d : Int) (w : World) : (Op.equalIn 10000 30 (.agg #[.int .i32 a, .int .i32 b]) (.agg #[.int .i32 c, .int .i32 d])).run Tryd.prog w = .ok (a == c && b == d) w := by
  have u3 := Tryd.underlying21
  have a3 := Tryd.isAgg21
  have z3 := Tryd.sizeOf21
  rw [show (10000 : Nat) = 9999 + 1 from rfl, Op.equalIn]
  simp only [Sem.run_bind, run_underlying Tryd.underlying30, Result.andThen_ok]
  simp only [Std.Legacy.Range.forIn_eq_forIn_range', Std.Legacy.Range.size, Nat.sub_zero, Nat.add_sub_cancel, Nat.div_one, List.range'_succ, List.range'_zero, List.forIn_cons, List.forIn_nil]
  go_simp
  by_cases h1 : a = c <;> by_cases h2 : b = d <;> simp [h1, h2]
theorem neq_pair (a b : Int) (w : World) : (binOp .neq 30 (.agg #[.int .i32 a, .int .i32 b]) (.agg #[.int .i32 a, .int .i32 b])).run Tryd.prog w = .ok (.bool false) w := by
  rw [run_neq_struct, eq_pair]
  simp
theorem guard_pair (x y : Operand) (xs ys : Array Value) (w : World) : (eqGuard .neq 30 x y (.agg xs) (.agg ys)).run Tryd.prog w = .ok () w := run_eqGuard_agg w .neq 30 x y xs ys (by kernel_rfl)
attribute [local go_sem] neq_pair guard_pair
attribute [-go_sem] run_neq_struct run_eqGuard_agg

set_option maxHeartbeats 2000000 in
theorem rsame_any (T : List (Int × Int)) (b c b2 c2 : Nat) (w : World) (hT : T.length < 1000) (ht : TabAt w b T) (ht2 : TabAt w b2 T) :
    Calls Tryd.prog 12 #[.slice (some ⟨b, 0, none⟩) T.length c, .slice (some ⟨b2, 0, none⟩) T.length c2] w fun e w' => e = .returned (.bool true) ∧ Kept [] w w' := by
  have ht' := hide ht
  have ht2' := hide ht2
  clear ht ht2
  generalize hn : T.length = n at *
  have hn' := hide hn
  clear hn
  go_enter Tryd.func12, Tryd.ntmps12
  go_wp2
  go_loopg [5] n (fun kx s5 wr => ∃ k : Nat, s5 = .int .i64 k ∧ k ≤ n ∧ n - k ≤ kx ∧ Kept [] w wr)
  case atStart => exact ⟨0, rfl, Nat.zero_le _, by omega, Kept.refl _ _⟩
  case round =>
    obtain ⟨k, rfl, hk, hg, hkr⟩ := hrel
    by_cases hlt : k < n
    · obtain ⟨c1, c2⟩ := (ht'.out.kept hkr (by simp)) k (by rw [hn'.out]; exact hlt)
      obtain ⟨d1, d2⟩ := (ht2'.out.kept hkr (by simp)) k (by rw [hn'.out]; exact hlt)
      have hkn : (k : Int) < (n : Int) := by omega
      generalize (T.getD k (0, 0)).1 = lo at *
      generalize (T.getD k (0, 0)).2 = hi at *
      go_wp2_with fail
      go_quiet (fail)
      go_wp2_with fail
      go_roundg (n - (k + 1))
      case measure => omega
      case rel => exact ⟨k + 1, by push_cast; rfl, by omega, Nat.le_refl _, hkr.drewN _⟩
    · obtain rfl : k = n := by omega
      go_wp2_with fail
      go_ret
      exact ⟨rfl, hkr⟩
end Go.Proofs.YtbpnfemcblfknabDoor
