/- width.Marks, width.Wide: a copy of the table in a block of its own. -/
import Derived.Test.YtbpnfemcblfknabDoorWidRef
import Derived.Deep.Cut
namespace Go.Proofs.YtbpnfemcblfknabDoor
open Go.RowKit
set_option linter.unusedVariables false

set_option maxHeartbeats 1000000 in
theorem Marks_any (w : World) (ht : Tabs w) : Calls Tryd.prog 10 #[] w (NewT w marksT) := by
  have hr := hide ht.1.range
  have h1 := hide (all_oneCell_toArray (flat_one marksT))
  have hn : (flatT marksT).length = 36 := rfl
  have hcs := hide (show (flatT marksT).toArray.toList = flatT marksT from rfl)
  clear ht
  go_enter Tryd.func10, Tryd.ntmps10
  go_upto_region 1 with fail
  refine wp_region_list ?_
  refine wpList_load_mid rfl 37 (.global 0) rfl 0 0 rfl (flatT marksT) _ hr.out Tryd.underlying37 rfl (by rw [hn]; kernel_rfl) ?_
  clear hr
  have hsz : (flatT marksT).toArray.size = 36 := rfl
  generalize (flatT marksT).toArray = cs at *
  have hst := run_storeCells_new (P := Tryd.prog) w 37 #[.int .i32 0, .int .i32 0, .int .i32 0, .int .i32 0, .int .i32 0, .int .i32 0, .int .i32 0, .int .i32 0, .int .i32 0, .int .i32 0, .int .i32 0, .int .i32 0, .int .i32 0, .int .i32 0, .int .i32 0, .int .i32 0, .int .i32 0, .int .i32 0, .int .i32 0, .int .i32 0, .int .i32 0, .int .i32 0, .int .i32 0, .int .i32 0, .int .i32 0, .int .i32 0, .int .i32 0, .int .i32 0, .int .i32 0, .int .i32 0, .int .i32 0, .int .i32 0, .int .i32 0, .int .i32 0, .int .i32 0, .int .i32 0] cs (by rw [hsz]; kernel_rfl) hsz.symm h1.out
  clear h1
  go_wp2_with fail
  go_ret
  exact ⟨w.heap.size, _, _, rfl, Nat.le_refl _, heap_alloc_new w _, hcs.out, (Kept.refl [] w).alloc _⟩

set_option maxHeartbeats 1000000 in
theorem Wide_any (w : World) (ht : Tabs w) : Calls Tryd.prog 11 #[] w (NewT w wideT) := by
  have hr := hide ht.2.range
  have h1 := hide (all_oneCell_toArray (flat_one wideT))
  have hn : (flatT wideT).length = 38 := rfl
  have hcs := hide (show (flatT wideT).toArray.toList = flatT wideT from rfl)
  clear ht
  go_enter Tryd.func11, Tryd.ntmps11
  go_upto_region 1 with fail
  refine wp_region_list ?_
  refine wpList_load_mid rfl 38 (.global 1) rfl 1 0 rfl (flatT wideT) _ hr.out Tryd.underlying38 rfl (by rw [hn]; kernel_rfl) ?_
  clear hr
  have hsz : (flatT wideT).toArray.size = 38 := rfl
  generalize (flatT wideT).toArray = cs at *
  have hst := run_storeCells_new (P := Tryd.prog) w 38 #[.int .i32 0, .int .i32 0, .int .i32 0, .int .i32 0, .int .i32 0, .int .i32 0, .int .i32 0, .int .i32 0, .int .i32 0, .int .i32 0, .int .i32 0, .int .i32 0, .int .i32 0, .int .i32 0, .int .i32 0, .int .i32 0, .int .i32 0, .int .i32 0, .int .i32 0, .int .i32 0, .int .i32 0, .int .i32 0, .int .i32 0, .int .i32 0, .int .i32 0, .int .i32 0, .int .i32 0, .int .i32 0, .int .i32 0, .int .i32 0, .int .i32 0, .int .i32 0, .int .i32 0, .int .i32 0, .int .i32 0, .int .i32 0, .int .i32 0, .int .i32 0] cs (by rw [hsz]; kernel_rfl) hsz.symm h1.out
  clear h1
  go_wp2_with fail
  go_ret
  exact ⟨w.heap.size, _, _, rfl, Nat.le_refl _, heap_alloc_new w _, hcs.out, (Kept.refl [] w).alloc _⟩

end Go.Proofs.YtbpnfemcblfknabDoor
