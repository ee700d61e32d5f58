/- The reference's functions of layer 6: Columns, Valid, Used, Same, Copy, Trim, Text. The reference's functions of layer 6 that make lines: Copy, Trim, New; Text. -/
import Derived.Test.YtnkddhmhjnhgcaaDoorLinMem
import Derived.Test.YtnkddhmhjnhgcaaDoorCelRr
import Derived.Test.YtnkddhmhjnhgcaaDoorCelTexts
namespace Go.Proofs.YtnkddhmhjnhgcaaDoor
open Go.RowKit
set_option linter.unusedVariables false
set_option maxRecDepth 100000

set_option maxHeartbeats 1000000 in
theorem rSame6_any (a : Option Addr) (n c : Nat) (s : Bool) (l : List Cl) (a2 : Option Addr) (n2 c2 : Nat) (s2 : Bool) (m : List Cl) (w : World) (hr : Rd w a n 16 (cellsV l)) (hr2 : Rd w a2 n2 16 (cellsV m)) (hn : n ≤ 1000000) :
    Calls Tryd.prog 16 #[.agg #[.slice a n c, .bool s], .agg #[.slice a2 n2 c2, .bool s2]] w fun e w' => e = .returned (.bool (decide (s = s2 ∧ l = m))) ∧ Kept [] w w' := by
  have hk0 : Kept [] w ((w.alloc (.cells #[.slice a n c, .bool s] 31)).alloc (.cells #[.slice a2 n2 c2, .bool s2] 31)) := ((Kept.refl [] w).alloc _).alloc _
  have hS := hide (Same_big a n c l a2 n2 c2 m _ (hr.kept hk0 (by simp)) (hr2.kept hk0 (by simp)) hn)
  clear hr hr2
  by_cases hs : s = s2
  · subst hs
    have e : decide (s = s ∧ l = m) = decide (l = m) := by simp
    rw [e]
    have hb : (s == s) = true := by simp
    go_enter Tryd.func16, Tryd.ntmps16
    go_wp2_with fail
    refine hS.out.mono ?_
    rintro e w1 ⟨rfl, hk1⟩
    go_wp2_with fail
    go_ret
    exact ⟨rfl, hk0.trans hk1 (by simp)⟩
  · have e : decide (s = s2 ∧ l = m) = false := by simp [hs]
    rw [e]
    have hb : (s == s2) = false := by simpa using hs
    clear hs
    go_enter Tryd.func16, Tryd.ntmps16
    go_wp2_with fail
    go_ret
    exact ⟨rfl, hk0⟩
end Go.Proofs.YtnkddhmhjnhgcaaDoor
namespace Go.Proofs.YtnkddhmhjnhgcaaDoor
open Go.RowKit
set_option linter.unusedVariables false
set_option maxRecDepth 100000

theorem heldL {S : List Nat} {w w' : World} {b : Nat} {a : Option Addr} {n c : Nat} {s : Bool} (h : w.cell? ⟨b, 0, none⟩ = some (.slice a n c) ∧ w.cell? ⟨b, 1, none⟩ = some (.bool s)) (hk : Kept S w w') (hb : b ∉ S) : w'.cell? ⟨b, 0, none⟩ = some (.slice a n c) ∧ w'.cell? ⟨b, 1, none⟩ = some (.bool s) :=
  ⟨hk.cell h.1 hb, hk.cell h.2 hb⟩

end Go.Proofs.YtnkddhmhjnhgcaaDoor
