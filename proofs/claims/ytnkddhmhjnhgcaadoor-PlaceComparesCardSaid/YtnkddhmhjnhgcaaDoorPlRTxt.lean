/- Layer 9: the reference's numbers and texts. -/
import Derived.Test.YtnkddhmhjnhgcaaDoorPlPar
import Derived.Lib.ItoaLen
namespace Go.Proofs.YtnkddhmhjnhgcaaDoor
open Go.RowKit Go.Sort
set_option linter.unusedVariables false
set_option linter.unusedSimpArgs false
set_option maxRecDepth 100000

theorem rValid_any (p : Pl) (w : World) : Calls Tryd.prog 25 #[.agg #[.int .i64 p.l, .int .i64 p.c]] w fun e w' => e = .returned (.bool (vP p)) ∧ Kept [] w w' := by
  have hR := hide (show vP p = decide (0 ≤ p.l ∧ p.l ≤ 1099511627776 ∧ 0 ≤ p.c ∧ p.c ≤ 1000) from rfl)
  generalize vP p = R at *
  obtain ⟨l, k⟩ := p
  by_cases h1 : 0 ≤ l <;> by_cases h2 : l ≤ 1099511627776 <;> by_cases h3 : 0 ≤ k <;> by_cases h4 : k ≤ 1000
  all_goals first
    | (exfalso; omega)
    | (go_enter Tryd.func25, Tryd.ntmps25
       go_wp2_with fail
       go_ret
       exact ⟨ret_bool (by rw [hR.out]; simp; omega), (Kept.refl [] w).alloc _⟩)
theorem str_one {d : Nat} (h : d < 10) : strOfNums [48 + (d : Int)] = ⟨[UInt8.ofNat (48 + d)].toArray⟩ := by
  have key : ∀ d : Fin 10, strOfNums [48 + ((d.val : Nat) : Int)] = ⟨[UInt8.ofNat (48 + d.val)].toArray⟩ := by decide +kernel
  exact key ⟨d, h⟩
theorem conv_one (r : Nat) (hr : r < 10) (W W' : World) (hk : Kept [] (W.alloc (.cells #[.int .u8 (48 + (r : Int))] 5)) W') : (convert 40 9 (.slice (some ⟨W.heap.size, 0, none⟩) 1 1)).run Tryd.prog W' = .ok (.string ⟨[UInt8.ofNat (48 + r)].toArray⟩) W' := by
  rw [← str_one hr]
  exact run_bytes_string W' _ _ _ Tryd.underlying40 Tryd.underlying5 Tryd.underlying9 _ 1 1 [48 + (r : Int)] (Rd.block (hk.heap (heap_alloc_new W _) (by simp)) rfl)
end Go.Proofs.YtnkddhmhjnhgcaaDoor
