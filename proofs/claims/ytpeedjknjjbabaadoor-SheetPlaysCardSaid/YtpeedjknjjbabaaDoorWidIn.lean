/- The reference's in, Of; equal lists of ranges. -/
import Derived.Test.YtpeedjknjjbabaaDoorWidRef
namespace Go.Proofs.YtpeedjknjjbabaaDoor
open Go.RowKit
set_option linter.unusedVariables false

theorem inT_false {T : List (Int × Int)} {r : Int} (h : ∀ t, t < T.length → ¬ ((T.getD t (0, 0)).1 ≤ r ∧ r ≤ (T.getD t (0, 0)).2)) : inT T r = false := by
  rcases Bool.eq_false_or_eq_true (inT T r) with h1 | h1
  · obtain ⟨k, hk, h2, h3⟩ := inT_elim h1
    exact absurd ⟨h2, h3⟩ (h k hk)
  · exact h1

set_option maxHeartbeats 2000000 in
theorem rin_any (T : List (Int × Int)) (b c : Nat) (r : Int) (w : World) (hT : T.length < 1000) (ht : TabAt w b T) :
    Calls Tryd.prog 68 #[.slice (some ⟨b, 0, none⟩) T.length c, .int .i32 r] w fun e w' => e = .returned (.bool (inT T r)) ∧ w = w' := by
  have ht' := hide ht
  clear ht
  generalize hn : T.length = n at *
  have hn' := hide hn
  clear hn
  go_enter Tryd.func68, Tryd.ntmps68
  go_wp2
  go_loopg [5] n (fun kx s5 wr => ∃ k : Nat, s5 = .int .i64 k ∧ k ≤ n ∧ n - k ≤ kx ∧ w = wr ∧ Hid (∀ t, t < k → ¬ ((T.getD t (0, 0)).1 ≤ r ∧ r ≤ (T.getD t (0, 0)).2)))
  case atStart => exact ⟨0, rfl, Nat.zero_le _, by omega, rfl, hide fun t ht => absurd ht (Nat.not_lt_zero _)⟩
  case round =>
    obtain ⟨k, rfl, hk, hg, rfl, I⟩ := hrel
    by_cases hlt : k < n
    · obtain ⟨c1, c2⟩ := ht'.out k (by rw [hn'.out]; exact hlt)
      have hr := hide (show (T.getD k (0, 0)).1 = (T.getD k (0, 0)).1 ∧ (T.getD k (0, 0)).2 = (T.getD k (0, 0)).2 from ⟨rfl, rfl⟩)
      have I2 : Hid (¬ ((T.getD k (0, 0)).1 ≤ r ∧ r ≤ (T.getD k (0, 0)).2) → ∀ t, t < k + 1 → ¬ ((T.getD t (0, 0)).1 ≤ r ∧ r ≤ (T.getD t (0, 0)).2)) := hide fun h t ht => by
        rcases Nat.lt_or_eq_of_le (Nat.lt_succ_iff.1 ht) with h1 | rfl
        · exact I.out t h1
        · exact h
      have I3 : Hid ((T.getD k (0, 0)).1 ≤ r → r ≤ (T.getD k (0, 0)).2 → inT T r = true) := hide fun h1 h2 => inT_true k (by rw [hn'.out]; exact hlt) h1 h2
      have hkn : (k : Int) < (n : Int) := by omega
      clear hr I
      generalize (T.getD k (0, 0)).1 = lo at *
      generalize (T.getD k (0, 0)).2 = hi at *
      by_cases h1 : lo ≤ r
      · by_cases h2 : r ≤ hi
        · go_wp2_with fail
          go_ret
          exact ⟨ret_bool (I3.out h1 h2).symm, rfl⟩
        · go_wp2_with fail
          go_roundg (n - (k + 1))
          case measure => omega
          case rel => exact ⟨k + 1, by push_cast; rfl, by omega, Nat.le_refl _, rfl, hide (I2.out (by omega))⟩
      · go_wp2_with fail
        go_roundg (n - (k + 1))
        case measure => omega
        case rel => exact ⟨k + 1, by push_cast; rfl, by omega, Nat.le_refl _, rfl, hide (I2.out (by omega))⟩
    · obtain rfl : k = n := by omega
      have hf : Hid (inT T r = false) := hide (inT_false fun t ht => I.out t (by rw [hn'.out] at ht; exact ht))
      go_wp2_with fail
      go_ret
      exact ⟨ret_bool hf.out.symm, rfl⟩
end Go.Proofs.YtpeedjknjjbabaaDoor
