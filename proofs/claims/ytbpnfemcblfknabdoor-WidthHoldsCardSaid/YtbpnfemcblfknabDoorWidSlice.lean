/- l[:hi] of a slice of runes; appending runes. -/
import Derived.Test.YtbpnfemcblfknabDoorWidText
namespace Go.Proofs.YtbpnfemcblfknabDoor
open Go.RowKit

theorem elRune : ElemT Tryd.prog 31 21 (.int .i32 0) 1 4 := ⟨Tryd.underlying31, by kernel_rfl, rfl, by omega, by omega⟩

/-- l[:hi], wherever l lies. -/
theorem slice_h (a : Option Addr) (n c hi : Nat) (h2 : hi ≤ n) (h3 : n ≤ c) :
    ∃ a2 c2, (∀ w, (Instr.slice 31 (.slice a n c) none (some (.int .i64 hi)) none).run Tryd.prog w = .ok (.slice a2 hi c2) w) ∧
      ∀ w l, Rd w a n 1 (ints .i32 l) → Rd w a2 hi 1 (ints .i32 (l.take hi)) := by
  refine ⟨if c = 0 then a else a.map (·.add 0), c, fun w => ?_, fun w l hr => ?_⟩
  · rw [run_slice_h (P := Tryd.prog) w 31 a n c Tryd.underlying31 .i64 hi (by omega) (by omega)]
    have hs : (sizeOf (Tryd.prog.elem 31)).run Tryd.prog w = .ok 1 w := by kernel_rfl
    rw [hs]
    simp [Result.andThen, sliced]
  · have hl : l.length = n := by have := hr.1; rw [ints_len] at this; omega
    refine ⟨by rw [ints_len, List.length_take]; omega, ?_⟩
    rcases hr.2 with h0 | ⟨b, o, rfl, hc⟩
    · left
      have : l = [] := by simpa [ints] using h0
      subst this
      simp [ints]
    · refine .inr ⟨b, o, by simp [Addr.add], fun j u hu => hc j u ?_⟩
      simp only [ints, List.getElem?_map, List.getElem?_take] at hu ⊢
      split at hu
      · exact hu
      · cases hu
end Go.Proofs.YtbpnfemcblfknabDoor
