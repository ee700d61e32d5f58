/- The leaf functions of layer 1 and of its reference: what each returns, by plain functions on integers. -/
import Derived.Test.YtjcoeapopkkcbaaRows
import Derived.Test.YtjcoeapopkkcbaaUtil
import Derived.Test.YtjcoeapopkkcbaaUtfMath
import Derived.WalkKit
import Derived.WalkSpells
import Derived.WalkLawsBesides
import Derived.BigQuiet
namespace Go.Proofs.Ytjcoeapopkkcbaa
open Go.RowKit





set_option maxHeartbeats 400000 in
theorem size_any (c : Int) (w : World) (h0 : 0 ≤ c) (h1 : c ≤ 255) :
    Calls Try.prog 34 #[.int .u8 c] w fun e w' => e = .returned (.int .i64 (sizeI c)) ∧ w = w' := by
  have h : c < 128 ∨ (128 ≤ c ∧ c < 194) ∨ (194 ≤ c ∧ c < 224) ∨ (224 ≤ c ∧ c < 240) ∨ (240 ≤ c ∧ c < 245) ∨ 245 ≤ c := by omega
  rcases h with h | h | h | h | h | h
  all_goals
    go_enter Try.func34, Try.ntmps34
    go_wp2
    go_ret
    exact ⟨ret_int (by unfold sizeI; repeat (first | rw [if_pos (by omega)] | rw [if_neg (by omega)])), rfl⟩

set_option maxHeartbeats 400000 in
theorem rsize_any (c : Int) (w : World) (h0 : 0 ≤ c) (h1 : c ≤ 255) :
    Calls Try.prog 36 #[.int .u8 c] w fun e w' => e = .returned (.int .i64 (sizeI c)) ∧ w = w' := by
  have h : c < 128 ∨ (128 ≤ c ∧ c < 194) ∨ (194 ≤ c ∧ c < 224) ∨ (224 ≤ c ∧ c < 240) ∨ (240 ≤ c ∧ c < 245) ∨ 245 ≤ c := by omega
  rcases h with h | h | h | h | h | h
  all_goals
    go_enter Try.func36, Try.ntmps36
    go_wp2
    go_ret
    exact ⟨ret_int (by unfold sizeI; repeat (first | rw [if_pos (by omega)] | rw [if_neg (by omega)])), rfl⟩


set_option maxHeartbeats 400000 in
theorem valid_any (r : Int) (w : World) (h0 : -2147483648 ≤ r) (h1 : r ≤ 2147483647) :
    Calls Try.prog 18 #[.int .i32 r] w fun e w' => e = .returned (.bool (validI r)) ∧ w = w' := by
  have h : r < 0 ∨ (0 ≤ r ∧ r < 55296) ∨ (55296 ≤ r ∧ r ≤ 57343) ∨ (57343 < r ∧ r ≤ 1114111) ∨ 1114111 < r := by omega
  rcases h with h | h | h | h | h
  all_goals
    go_enter Try.func18, Try.ntmps18
    go_wp2
    go_ret
    exact ⟨ret_bool (by unfold validI; rw [Bool.eq_iff_iff]; simp; omega), rfl⟩

set_option maxHeartbeats 400000 in
theorem rvalid_any (r : Int) (w : World) (h0 : -2147483648 ≤ r) (h1 : r ≤ 2147483647) :
    Calls Try.prog 19 #[.int .i32 r] w fun e w' => e = .returned (.bool (validI r)) ∧ w = w' := by
  have h : r < 0 ∨ (0 ≤ r ∧ r < 55296) ∨ (55296 ≤ r ∧ r ≤ 57343) ∨ (57343 < r ∧ r ≤ 1114111) ∨ 1114111 < r := by omega
  rcases h with h | h | h | h | h
  all_goals
    go_enter Try.func19, Try.ntmps19
    go_wp2
    go_ret
    exact ⟨ret_bool (by unfold validI; rw [Bool.eq_iff_iff]; simp; omega), rfl⟩


set_option maxHeartbeats 400000 in
theorem rfurther_any (c : Int) (w : World) (h0 : 0 ≤ c) (h1 : c ≤ 255) :
    Calls Try.prog 37 #[.int .u8 c] w fun e w' => e = .returned (.bool (furtherB c)) ∧ w = w' := by
  have h : c < 128 ∨ (128 ≤ c ∧ c < 192) ∨ 192 ≤ c := by omega
  rcases h with h | h | h
  all_goals
    go_enter Try.func37, Try.ntmps37
    go_wp2
    go_ret
    exact ⟨ret_bool (by unfold furtherB; simp; omega), rfl⟩


set_option maxHeartbeats 400000 in
theorem rlength_any (r : Int) (w : World) (h0 : -2147483648 ≤ r) (h1 : r ≤ 2147483647) :
    Calls Try.prog 39 #[.int .i32 r] w fun e w' => e = .returned (.int .i64 (lengthI r)) ∧ w = w' := by
  have h : r < 128 ∨ (128 ≤ r ∧ r < 2048) ∨ (2048 ≤ r ∧ r < 65536) ∨ 65536 ≤ r := by omega
  rcases h with h | h | h | h
  all_goals
    go_enter Try.func39, Try.ntmps39
    go_wp2
    go_ret
    exact ⟨ret_int (by unfold lengthI; repeat (first | rw [if_pos (by omega)] | rw [if_neg (by omega)])), rfl⟩


set_option maxHeartbeats 400000 in
theorem secondBounds_any (c : Int) (w : World) (h0 : 0 ≤ c) (h1 : c ≤ 255) :
    Calls Try.prog 41 #[.int .u8 c] w fun e w' => e = .returned (.tuple #[.int .u8 (loI c), .int .u8 (hiI c)]) ∧ w = w' := by
  have h : c = 224 ∨ c = 237 ∨ c = 240 ∨ c = 244 ∨ (c ≠ 224 ∧ c ≠ 237 ∧ c ≠ 240 ∧ c ≠ 244) := by omega
  rcases h with rfl | rfl | rfl | rfl | ⟨a, b, d, e⟩
  · go_enter Try.func41, Try.ntmps41
    go_wp2
    go_ret2
    exact ⟨rfl, rfl⟩
  · go_enter Try.func41, Try.ntmps41
    go_wp2
    go_ret2
    exact ⟨rfl, rfl⟩
  · go_enter Try.func41, Try.ntmps41
    go_wp2
    go_ret2
    exact ⟨rfl, rfl⟩
  · go_enter Try.func41, Try.ntmps41
    go_wp2
    go_ret2
    exact ⟨rfl, rfl⟩
  · have el : loI c = 128 := by unfold loI; rw [if_neg a, if_neg d]
    have eh : hiI c = 191 := by unfold hiI; rw [if_neg b, if_neg e]
    rw [el, eh]
    go_enter Try.func41, Try.ntmps41
    go_wp2
    go_ret2
    exact ⟨rfl, rfl⟩

theorem i32_and63 (x : Int) (h₀ : 0 ≤ x) (h₁ : x < 2147483648) : bits .and .i32 x 63 = x % 64 := bits_mask .i32 31 (by decide) wraps_i32 6 (by decide) x h₀ h₁

set_option maxHeartbeats 400000 in
theorem further_any (r : Int) (w : World) (h0 : 0 ≤ r) (h1 : r < 2147483648) :
    Calls Try.prog 40 #[.int .i32 r] w fun e w' => e = .returned (.int .u8 (128 + r % 64)) ∧ w = w' := by
  have e1 := i32_and63 r h0 h1
  have e2 := u8_or128 (r % 64) (by omega) (by omega)
  go_enter Try.func40, Try.ntmps40
  go_wp2
  go_ret
  exact ⟨rfl, rfl⟩


set_option maxHeartbeats 400000 in
theorem firstBits_any (c : Int) (w : World) (h0 : 194 ≤ c) (h1 : c < 245) :
    Calls Try.prog 42 #[.int .u8 c] w fun e w' => e = .returned (.int .i32 (fbI c)) ∧ w = w' := by
  rcases fb_cases c ⟨h0, h1⟩ with ⟨a, b, hs, hf⟩ | ⟨a, b, hs, hf⟩ | ⟨a, b, hs, hf⟩
  all_goals
    rw [hf]
    have hc := size_any c w (by omega) (by omega)
    rw [hs] at hc
    clear hs hf
    have e1 := u8_and31 c (by omega) (by omega)
    have e2 := u8_and15 c (by omega) (by omega)
    have e3 := u8_and7 c (by omega) (by omega)
    go_enter Try.func42, Try.ntmps42
    go_wp2_with fail
    refine hc.mono ?_
    rintro e w' ⟨rfl, rfl⟩
    go_wp2
    go_ret
    exact ⟨rfl, rfl⟩

set_option maxHeartbeats 400000 in
theorem addBits_any (r c : Int) (w : World) (h0 : 0 ≤ r) (h1 : r < 1048576) (h2 : 0 ≤ c) (h3 : c ≤ 255) :
    Calls Try.prog 43 #[.int .i32 r, .int .u8 c] w fun e w' => e = .returned (.int .i32 (r * 64 + c % 64)) ∧ w = w' := by
  go_enter Try.func43, Try.ntmps43
  go_wp2
  go_ret
  exact ⟨rfl, rfl⟩
end Go.Proofs.Ytjcoeapopkkcbaa
