/- Slices of a slice of bytes: what they read as. -/
import Derived.Test.YtjcoeapopkkcbaaUtfKnown
namespace Go.Proofs.Ytjcoeapopkkcbaa
open Go.RowKit

theorem ints_cut (k : IntKind) (l : List Int) (lo hi j : Nat) : (ints k ((l.take hi).drop lo))[j]? = if lo + j < hi then (ints k l)[lo + j]? else none := by
  simp only [ints, List.getElem?_map, List.getElem?_drop, List.getElem?_take]
  split <;> rfl

/-- b[lo:hi], wherever b lies. -/
theorem slice_lh (a : Option Addr) (n c lo hi : Nat) (h1 : lo ≤ hi) (h2 : hi ≤ n) (h3 : n ≤ c) :
    ∃ a2 c2, (∀ w, (Instr.slice 22 (.slice a n c) (some (.int .i64 lo)) (some (.int .i64 hi)) none).run Try.prog w = .ok (.slice a2 (hi - lo) c2) w) ∧
      ∀ w l, Rd w a n 1 (ints .u8 l) → Rd w a2 (hi - lo) 1 (ints .u8 ((l.take hi).drop lo)) := by
  refine ⟨if c = lo then a else a.map (·.add (lo * 1)), c - lo, fun w => ?_, fun w l hr => ?_⟩
  · rw [run_slice_lh (P := Try.prog) w 22 a n c Try.underlying22 .i64 .i64 lo hi (by omega) (by omega) (by omega)]
    have hs : (sizeOf (Try.prog.elem 22)).run Try.prog w = .ok 1 w := by kernel_rfl
    rw [hs]
    simp [Result.andThen, sliced]
  · have hl : l.length = n := by have := hr.1; rw [ints_len] at this; omega
    refine ⟨by rw [ints_len, List.length_drop, List.length_take]; omega, ?_⟩
    rcases hr.2 with h0 | ⟨b, o, rfl, hc⟩
    · left
      have : l = [] := by simpa [ints] using h0
      subst this
      simp [ints]
    · by_cases hz : lo = hi
      · left
        subst hz
        have : (l.take lo).drop lo = [] := List.drop_eq_nil_of_le (by rw [List.length_take]; omega)
        rw [this]
        rfl
      · right
        rw [if_neg (by omega)]
        refine ⟨b, o + lo, ?_, fun j u hu => ?_⟩
        · simp [Addr.add]
        · rw [ints_cut] at hu
          split at hu
          · have := hc (lo + j) u hu
            rwa [show o + lo + j = o + (lo + j) from by omega]
          · cases hu

/-- b[:hi] -/
theorem slice_h (a : Option Addr) (n c hi : Nat) (h2 : hi ≤ n) (h3 : n ≤ c) :
    ∃ a2 c2, (∀ w, (Instr.slice 22 (.slice a n c) none (some (.int .i64 hi)) none).run Try.prog w = .ok (.slice a2 hi c2) w) ∧
      ∀ w l, Rd w a n 1 (ints .u8 l) → Rd w a2 hi 1 (ints .u8 (l.take hi)) := by
  obtain ⟨a2, c2, h, hr⟩ := slice_lh a n c 0 hi (Nat.zero_le _) h2 h3
  refine ⟨a2, c2, fun w => ?_, fun w l hl => by simpa using hr w l hl⟩
  have := h w
  rw [run_slice_lh (P := Try.prog) w 22 a n c Try.underlying22 .i64 .i64 _ hi (by omega) (by omega) (by omega)] at this
  rw [run_slice_h (P := Try.prog) w 22 a n c Try.underlying22 .i64 hi (by omega) (by omega)]
  simpa using this

/-- b[lo:] -/
theorem slice_l (a : Option Addr) (n c lo : Nat) (h1 : lo ≤ n) (h3 : n ≤ c) :
    ∃ a2 c2, (∀ w, (Instr.slice 22 (.slice a n c) (some (.int .i64 lo)) none none).run Try.prog w = .ok (.slice a2 (n - lo) c2) w) ∧
      ∀ w l, Rd w a n 1 (ints .u8 l) → Rd w a2 (n - lo) 1 (ints .u8 (l.drop lo)) := by
  obtain ⟨a2, c2, h, hr⟩ := slice_lh a n c lo n h1 (Nat.le_refl _) h3
  refine ⟨a2, c2, fun w => ?_, fun w l hl => ?_⟩
  · have := h w
    rw [run_slice_lh (P := Try.prog) w 22 a n c Try.underlying22 .i64 .i64 lo n (by omega) (by omega) (by omega)] at this
    rw [run_slice_l (P := Try.prog) w 22 a n c Try.underlying22 .i64 lo (by omega) (by omega)]
    simpa using this
  · have hn : l.length = n := by have := hl.1; rw [ints_len] at this; omega
    have := hr w l hl
    rwa [← hn, List.take_length, hn] at this
end Go.Proofs.Ytjcoeapopkkcbaa
