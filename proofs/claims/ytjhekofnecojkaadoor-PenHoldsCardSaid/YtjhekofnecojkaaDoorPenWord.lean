/- The words of the flags: the table, and the functions on it. -/
import Derived.Test.YtjhekofnecojkaaDoorPenFlag
import Derived.Deep.MidRow
namespace Go.Proofs.YtjhekofnecojkaaDoor
open Go.RowKit
set_option linter.unusedVariables false

/-- The word at a place. -/
def wordB : Nat → ByteArray
  | 0 => ⟨#[98, 111, 108, 100]⟩
  | 1 => ⟨#[102, 97, 105, 110, 116]⟩
  | 2 => ⟨#[105, 116, 97, 108, 105, 99]⟩
  | 3 => ⟨#[117, 110, 100, 101, 114, 108, 105, 110, 101]⟩
  | 4 => ⟨#[98, 108, 105, 110, 107]⟩
  | 5 => ⟨#[105, 110, 118, 101, 114, 115, 101]⟩
  | 6 => ⟨#[104, 105, 100, 100, 101, 110]⟩
  | 7 => ⟨#[115, 116, 114, 117, 99, 107]⟩
  | _ => ⟨#[]⟩
/-- The table as it lies in memory. -/
def WordsAt (w : World) : Prop := ∀ i, i < 8 → w.cell? ⟨0, i, none⟩ = some (.string (wordB i))
theorem WordsAt.kept {S : List Nat} {w w' : World} (h : WordsAt w) (hk : Kept S w w') (hb : 0 ∉ S) : WordsAt w' := fun i hi => hk.cell (h i hi) hb
def wordVs : List Value := [.string (wordB 0), .string (wordB 1), .string (wordB 2), .string (wordB 3), .string (wordB 4), .string (wordB 5), .string (wordB 6), .string (wordB 7)]
theorem words_range {w : World} (h : WordsAt w) : w.rangeAt 0 0 wordVs := by
  intro j v hv
  have hj : j < 8 := (List.getElem?_eq_some_iff.1 hv).1
  rw [Nat.zero_add, h j hj]
  have hc : j = 0 ∨ j = 1 ∨ j = 2 ∨ j = 3 ∨ j = 4 ∨ j = 5 ∨ j = 6 ∨ j = 7 := by omega
  rcases hc with rfl | rfl | rfl | rfl | rfl | rfl | rfl | rfl <;> exact hv
theorem word_at0 (w : World) : (Instr.index 69 (.agg wordVs.toArray) (.int .i64 ((0 : Nat) : Int))).run Tryd.prog w = .ok (.string (wordB 0)) w := by kernel_rfl
theorem word_at1 (w : World) : (Instr.index 69 (.agg wordVs.toArray) (.int .i64 ((1 : Nat) : Int))).run Tryd.prog w = .ok (.string (wordB 1)) w := by kernel_rfl
theorem word_at2 (w : World) : (Instr.index 69 (.agg wordVs.toArray) (.int .i64 ((2 : Nat) : Int))).run Tryd.prog w = .ok (.string (wordB 2)) w := by kernel_rfl
theorem word_at3 (w : World) : (Instr.index 69 (.agg wordVs.toArray) (.int .i64 ((3 : Nat) : Int))).run Tryd.prog w = .ok (.string (wordB 3)) w := by kernel_rfl
theorem word_at4 (w : World) : (Instr.index 69 (.agg wordVs.toArray) (.int .i64 ((4 : Nat) : Int))).run Tryd.prog w = .ok (.string (wordB 4)) w := by kernel_rfl
theorem word_at5 (w : World) : (Instr.index 69 (.agg wordVs.toArray) (.int .i64 ((5 : Nat) : Int))).run Tryd.prog w = .ok (.string (wordB 5)) w := by kernel_rfl
theorem word_at6 (w : World) : (Instr.index 69 (.agg wordVs.toArray) (.int .i64 ((6 : Nat) : Int))).run Tryd.prog w = .ok (.string (wordB 6)) w := by kernel_rfl
theorem word_at7 (w : World) : (Instr.index 69 (.agg wordVs.toArray) (.int .i64 ((7 : Nat) : Int))).run Tryd.prog w = .ok (.string (wordB 7)) w := by kernel_rfl
theorem word_at (i : Nat) (hi : i < 8) (w : World) : (Instr.index 69 (.agg wordVs.toArray) (.int .i64 i)).run Tryd.prog w = .ok (.string (wordB i)) w := by
  have hc : i = 0 ∨ i = 1 ∨ i = 2 ∨ i = 3 ∨ i = 4 ∨ i = 5 ∨ i = 6 ∨ i = 7 := by omega
  rcases hc with rfl | rfl | rfl | rfl | rfl | rfl | rfl | rfl
  · exact word_at0 w
  · exact word_at1 w
  · exact word_at2 w
  · exact word_at3 w
  · exact word_at4 w
  · exact word_at5 w
  · exact word_at6 w
  · exact word_at7 w

set_option maxHeartbeats 1000000 in
theorem Word_ok (i : Nat) (hi : i < 8) (w : World) (ht : WordsAt w) :
    Calls Tryd.prog 33 #[.int .u8 (flagI i)] w fun e w' => e = .returned (.tuple #[.string (wordB i), .int .i64 0]) ∧ w' = w := by
  have h1 := hide (fun w1 => single_any (flagI i) w1 (flag_byte hi))
  have h2 := hide (fun w1 => zeros_any (flagI i) w1 (flag_byte hi))
  rw [flag_one hi] at h1
  rw [flag_zeros hi] at h2
  have hc := ht i hi
  have hi2 : (i : Int) < 8 := by omega
  generalize wordB i = v at *
  generalize flagI i = f at *
  clear ht
  go_enter Tryd.func33, Tryd.ntmps33
  go_wp2_with fail
  refine (h1.out _).mono ?_
  rintro e w1 ⟨rfl, rfl⟩
  go_wp2_with fail
  refine (h2.out _).mono ?_
  rintro e w1 ⟨rfl, rfl⟩
  go_wp2_with fail
  go_ret2
  exact ⟨rfl, rfl⟩
theorem Word_bad (f : Int) (hb : Byte f) (hf : oneI f = false) (w : World) :
    Calls Tryd.prog 33 #[.int .u8 f] w fun e w' => e = .returned (.tuple #[.string ⟨#[]⟩, .int .i64 2]) ∧ w' = w := by
  have h1 := hide (fun w1 => single_any f w1 hb)
  rw [hf] at h1
  clear hb hf
  go_enter Tryd.func33, Tryd.ntmps33
  go_wp2_with fail
  refine (h1.out _).mono ?_
  rintro e w1 ⟨rfl, rfl⟩
  go_wp2_with fail
  go_ret2
  exact ⟨rfl, rfl⟩

set_option maxHeartbeats 2000000 in
/-- What ByWord returns: the flag's place, or none. -/
theorem ByWord_any (s : ByteArray) (n : Nat) (hn : n ≤ 8) (hbefore : ∀ i, i < n → ((wordB i).toList == s.toList) = false) (hat : n < 8 → ((wordB n).toList == s.toList) = true) (r no : Int) (hr1 : n < 8 → r = flagI n ∧ no = 0) (hr2 : n = 8 → r = 0 ∧ no = 6) (w : World) (ht : WordsAt w) :
    Calls Tryd.prog 32 #[.string s] w fun e w' => e = .returned (.tuple #[.int .u8 r, .int .i64 no]) ∧ w' = w := by
  have hR1 := hide hr1
  have hR2 := hide hr2
  clear hr1 hr2
  have hr := hide (words_range ht)
  have hB := hide hbefore
  have hA := hide hat
  have hW := hide word_at
  have hF := hide flag_any
  clear ht hbefore hat
  go_enter Tryd.func32, Tryd.ntmps32
  go_upto_region 1 with fail
  refine wp_region_list ?_
  refine wpList_load_mid rfl 69 (.global 0) rfl 0 0 rfl wordVs _ hr.out Tryd.underlying69 rfl (by kernel_rfl) ?_
  clear hr
  generalize wordVs.toArray = cs at *
  go_wp2_with fail
  go_loopg [7] 8 (fun kx s7 wr => ∃ k : Nat, s7 = .int .i64 k ∧ k ≤ n ∧ 8 - k ≤ kx ∧ Hid (wr = w))
  case atStart => exact ⟨0, rfl, Nat.zero_le _, by omega, hide rfl⟩
  case round =>
    obtain ⟨k, rfl, hk, hg, hwr⟩ := hrel
    by_cases hlt : k < 8
    · have hk8 : (k : Int) < 8 := by omega
      have hidx := hW.out k hlt
      have hfl := hide (hF.out k hlt)
      by_cases hkn : k < n
      · have hq := hB.out k hkn
        clear hB hA hW hF
        generalize wordB k = b at *
        go_wp2_with fail
        go_roundg (8 - (k + 1))
        case measure => omega
        case rel => exact ⟨k + 1, by push_cast; rfl, hkn, Nat.le_refl _, hwr⟩
      · obtain rfl : k = n := by omega
        have hq := hA.out hlt
        obtain ⟨q1, q2⟩ := hR1.out hlt
        rw [← q1] at hfl
        have Q1 := hide q2
        clear hB hA hW hF hR1 hR2 q1 q2
        generalize wordB k = b at *
        go_wp2_with fail
        refine (hfl.out _).mono ?_
        rintro e w1 ⟨rfl, rfl⟩
        go_wp2_with fail
        go_ret2
        exact ⟨by rw [Q1.out]; rfl, hwr.out⟩
    · obtain rfl : k = 8 := by omega
      obtain rfl : n = 8 := by omega
      have Q1 := hide (hR2.out rfl)
      clear hB hA hW hF hR1 hR2
      go_wp2_with fail
      go_ret2
      exact ⟨by rw [Q1.out.1, Q1.out.2]; rfl, hwr.out⟩
end Go.Proofs.YtjhekofnecojkaaDoor
