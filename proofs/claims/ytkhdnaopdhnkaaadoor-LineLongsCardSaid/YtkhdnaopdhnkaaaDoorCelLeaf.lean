/- The small functions of layer 4. -/
import Derived.Test.YtkhdnaopdhnkaaaDoorCelMem
import Derived.Test.YtkhdnaopdhnkaaaDoorWidROf
namespace Go.Proofs.YtkhdnaopdhnkaaaDoor
open Go.RowKit
set_option linter.unusedVariables false

theorem Blank_any (p : Pn) (w : World) : Calls Tryd.prog 57 #[.agg #[.int .i64 p.f.k, .int .u8 p.f.i, .int .u8 p.f.r, .int .u8 p.f.g, .int .u8 p.f.b, .int .i64 p.b.k, .int .u8 p.b.i, .int .u8 p.b.r, .int .u8 p.b.g, .int .u8 p.b.b, .int .u8 p.fl]] w fun e w' => e = .returned (.agg #[.int .i32 (blankC p).r, .int .i32 (blankC p).m0, .int .i32 (blankC p).m1, .int .i32 (blankC p).m2, .int .i64 (blankC p).w, .int .i64 (blankC p).p.f.k, .int .u8 (blankC p).p.f.i, .int .u8 (blankC p).p.f.r, .int .u8 (blankC p).p.f.g, .int .u8 (blankC p).p.f.b, .int .i64 (blankC p).p.b.k, .int .u8 (blankC p).p.b.i, .int .u8 (blankC p).p.b.r, .int .u8 (blankC p).p.b.g, .int .u8 (blankC p).p.b.b, .int .u8 (blankC p).p.fl]) ∧ Kept [] w w' := by
  go_enter Tryd.func57, Tryd.ntmps57
  have hz : CelIn ((w.alloc (.cells #[.int .i64 p.f.k, .int .u8 p.f.i, .int .u8 p.f.r, .int .u8 p.f.g, .int .u8 p.f.b, .int .i64 p.b.k, .int .u8 p.b.i, .int .u8 p.b.r, .int .u8 p.b.g, .int .u8 p.b.b, .int .u8 p.fl] 58)).alloc (.cells #[.int .i32 0, .int .i32 0, .int .i32 0, .int .i32 0, .int .i64 0, .int .i64 0, .int .u8 0, .int .u8 0, .int .u8 0, .int .u8 0, .int .i64 0, .int .u8 0, .int .u8 0, .int .u8 0, .int .u8 0, .int .u8 0] 60)) (w.heap.size + 1) zeroK := heap_new_at (by simp)
  have hk0 : Kept [] w ((w.alloc (.cells #[.int .i64 p.f.k, .int .u8 p.f.i, .int .u8 p.f.r, .int .u8 p.f.g, .int .u8 p.f.b, .int .i64 p.b.k, .int .u8 p.b.i, .int .u8 p.b.r, .int .u8 p.b.g, .int .u8 p.b.b, .int .u8 p.fl] 58)).alloc (.cells #[.int .i32 0, .int .i32 0, .int .i32 0, .int .i32 0, .int .i64 0, .int .i64 0, .int .u8 0, .int .u8 0, .int .u8 0, .int .u8 0, .int .i64 0, .int .u8 0, .int .u8 0, .int .u8 0, .int .u8 0, .int .u8 0] 60)) := ((Kept.refl [] w).alloc _).alloc _
  go_wp2_with (refine wpList_store_cel rfl rfl rfl (w.heap.size + 1) rfl hz (blankC p) rfl ?_; intro w1 hc1 hk1)
  refine bodyPost_ret (results_cel rfl rfl hc1) rfl ?_
  exact ⟨rfl, hk0.trans hk1 (by simp)⟩
theorem Spacer_any (p : Pn) (w : World) : Calls Tryd.prog 62 #[.agg #[.int .i64 p.f.k, .int .u8 p.f.i, .int .u8 p.f.r, .int .u8 p.f.g, .int .u8 p.f.b, .int .i64 p.b.k, .int .u8 p.b.i, .int .u8 p.b.r, .int .u8 p.b.g, .int .u8 p.b.b, .int .u8 p.fl]] w fun e w' => e = .returned (.agg #[.int .i32 (spacerC p).r, .int .i32 (spacerC p).m0, .int .i32 (spacerC p).m1, .int .i32 (spacerC p).m2, .int .i64 (spacerC p).w, .int .i64 (spacerC p).p.f.k, .int .u8 (spacerC p).p.f.i, .int .u8 (spacerC p).p.f.r, .int .u8 (spacerC p).p.f.g, .int .u8 (spacerC p).p.f.b, .int .i64 (spacerC p).p.b.k, .int .u8 (spacerC p).p.b.i, .int .u8 (spacerC p).p.b.r, .int .u8 (spacerC p).p.b.g, .int .u8 (spacerC p).p.b.b, .int .u8 (spacerC p).p.fl]) ∧ Kept [] w w' := by
  go_enter Tryd.func62, Tryd.ntmps62
  have hz : CelIn ((w.alloc (.cells #[.int .i64 p.f.k, .int .u8 p.f.i, .int .u8 p.f.r, .int .u8 p.f.g, .int .u8 p.f.b, .int .i64 p.b.k, .int .u8 p.b.i, .int .u8 p.b.r, .int .u8 p.b.g, .int .u8 p.b.b, .int .u8 p.fl] 58)).alloc (.cells #[.int .i32 0, .int .i32 0, .int .i32 0, .int .i32 0, .int .i64 0, .int .i64 0, .int .u8 0, .int .u8 0, .int .u8 0, .int .u8 0, .int .i64 0, .int .u8 0, .int .u8 0, .int .u8 0, .int .u8 0, .int .u8 0] 60)) (w.heap.size + 1) zeroK := heap_new_at (by simp)
  have hk0 : Kept [] w ((w.alloc (.cells #[.int .i64 p.f.k, .int .u8 p.f.i, .int .u8 p.f.r, .int .u8 p.f.g, .int .u8 p.f.b, .int .i64 p.b.k, .int .u8 p.b.i, .int .u8 p.b.r, .int .u8 p.b.g, .int .u8 p.b.b, .int .u8 p.fl] 58)).alloc (.cells #[.int .i32 0, .int .i32 0, .int .i32 0, .int .i32 0, .int .i64 0, .int .i64 0, .int .u8 0, .int .u8 0, .int .u8 0, .int .u8 0, .int .i64 0, .int .u8 0, .int .u8 0, .int .u8 0, .int .u8 0, .int .u8 0] 60)) := ((Kept.refl [] w).alloc _).alloc _
  go_wp2_with (refine wpList_store_cel rfl rfl rfl (w.heap.size + 1) rfl hz (spacerC p) rfl ?_; intro w1 hc1 hk1)
  refine bodyPost_ret (results_cel rfl rfl hc1) rfl ?_
  exact ⟨rfl, hk0.trans hk1 (by simp)⟩
theorem spacer_any (c : Cl) (w : World) : Calls Tryd.prog 54 #[.agg #[.int .i32 c.r, .int .i32 c.m0, .int .i32 c.m1, .int .i32 c.m2, .int .i64 c.w, .int .i64 c.p.f.k, .int .u8 c.p.f.i, .int .u8 c.p.f.r, .int .u8 c.p.f.g, .int .u8 c.p.f.b, .int .i64 c.p.b.k, .int .u8 c.p.b.i, .int .u8 c.p.b.r, .int .u8 c.p.b.g, .int .u8 c.p.b.b, .int .u8 c.p.fl]] w fun e w' => e = .returned (.bool (decide (c.w = 0))) ∧ Kept [] w w' := by
  go_enter Tryd.func54, Tryd.ntmps54
  go_wp2_with fail
  go_ret
  exact ⟨rfl, (Kept.refl _ _).alloc _⟩
theorem wide_any (c : Cl) (w : World) : Calls Tryd.prog 55 #[.agg #[.int .i32 c.r, .int .i32 c.m0, .int .i32 c.m1, .int .i32 c.m2, .int .i64 c.w, .int .i64 c.p.f.k, .int .u8 c.p.f.i, .int .u8 c.p.f.r, .int .u8 c.p.f.g, .int .u8 c.p.f.b, .int .i64 c.p.b.k, .int .u8 c.p.b.i, .int .u8 c.p.b.r, .int .u8 c.p.b.g, .int .u8 c.p.b.b, .int .u8 c.p.fl]] w fun e w' => e = .returned (.bool (decide (c.w = 2))) ∧ Kept [] w w' := by
  go_enter Tryd.func55, Tryd.ntmps55
  go_wp2_with fail
  go_ret
  exact ⟨rfl, (Kept.refl _ _).alloc _⟩
theorem Written_any (c : Cl) (w : World) : Calls Tryd.prog 66 #[.agg #[.int .i32 c.r, .int .i32 c.m0, .int .i32 c.m1, .int .i32 c.m2, .int .i64 c.w, .int .i64 c.p.f.k, .int .u8 c.p.f.i, .int .u8 c.p.f.r, .int .u8 c.p.f.g, .int .u8 c.p.f.b, .int .i64 c.p.b.k, .int .u8 c.p.b.i, .int .u8 c.p.b.r, .int .u8 c.p.b.g, .int .u8 c.p.b.b, .int .u8 c.p.fl]] w fun e w' => e = .returned (.bool (!decide (c.r = 0))) ∧ Kept [] w w' := by
  go_enter Tryd.func66, Tryd.ntmps66
  go_wp2_with fail
  go_ret
  exact ⟨rfl, (Kept.refl _ _).alloc _⟩
theorem isMark4_any (r : Int) (w : World) (ht : Tabs w) : Calls Tryd.prog 94 #[.int .i32 r] w fun e w' => e = .returned (.bool (mkI r)) ∧ Kept [] w w' := by
  have ho := of_any r w ht
  have hR := hide (show mkI r = decide (ofI r = 0) from rfl)
  generalize mkI r = R at *
  generalize ofI r = o at *
  clear ht
  go_enter Tryd.func94, Tryd.ntmps94
  go_wp2_with fail
  refine ho.mono ?_
  rintro e w1 ⟨rfl, hk1⟩
  go_wp2_with fail
  go_ret
  exact ⟨by rw [hR.out]; rfl, hk1⟩
end Go.Proofs.YtkhdnaopdhnkaaaDoor
