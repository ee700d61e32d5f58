/- The small functions of layer 4. -/
import Derived.Test.YtnkddhmhjnhgcaaGreatDoorCelMem
import Derived.Test.YtnkddhmhjnhgcaaGreatDoorWidR
namespace Go.Proofs.YtnkddhmhjnhgcaaGreatDoor
open Go.RowKit
set_option linter.unusedVariables false

theorem spacer_any (c : Cl) (w : World) : Calls Tryz.prog 75 #[.agg #[.int .i32 c.r, .int .i32 c.m0, .int .i32 c.m1, .int .i32 c.m2, .int .i64 c.w, .int .i64 c.p.f.k, .int .u8 c.p.f.i, .int .u8 c.p.f.r, .int .u8 c.p.f.g, .int .u8 c.p.f.b, .int .i64 c.p.b.k, .int .u8 c.p.b.i, .int .u8 c.p.b.r, .int .u8 c.p.b.g, .int .u8 c.p.b.b, .int .u8 c.p.fl]] w fun e w' => e = .returned (.bool (decide (c.w = 0))) ∧ Kept [] w w' := by
  go_enter Tryz.func75, Tryz.ntmps75
  go_wp2_with fail
  go_ret
  exact ⟨rfl, (Kept.refl _ _).alloc _⟩
theorem wide_any (c : Cl) (w : World) : Calls Tryz.prog 76 #[.agg #[.int .i32 c.r, .int .i32 c.m0, .int .i32 c.m1, .int .i32 c.m2, .int .i64 c.w, .int .i64 c.p.f.k, .int .u8 c.p.f.i, .int .u8 c.p.f.r, .int .u8 c.p.f.g, .int .u8 c.p.f.b, .int .i64 c.p.b.k, .int .u8 c.p.b.i, .int .u8 c.p.b.r, .int .u8 c.p.b.g, .int .u8 c.p.b.b, .int .u8 c.p.fl]] w fun e w' => e = .returned (.bool (decide (c.w = 2))) ∧ Kept [] w w' := by
  go_enter Tryz.func76, Tryz.ntmps76
  go_wp2_with fail
  go_ret
  exact ⟨rfl, (Kept.refl _ _).alloc _⟩
theorem Written_any (c : Cl) (w : World) : Calls Tryz.prog 81 #[.agg #[.int .i32 c.r, .int .i32 c.m0, .int .i32 c.m1, .int .i32 c.m2, .int .i64 c.w, .int .i64 c.p.f.k, .int .u8 c.p.f.i, .int .u8 c.p.f.r, .int .u8 c.p.f.g, .int .u8 c.p.f.b, .int .i64 c.p.b.k, .int .u8 c.p.b.i, .int .u8 c.p.b.r, .int .u8 c.p.b.g, .int .u8 c.p.b.b, .int .u8 c.p.fl]] w fun e w' => e = .returned (.bool (!decide (c.r = 0))) ∧ Kept [] w w' := by
  go_enter Tryz.func81, Tryz.ntmps81
  go_wp2_with fail
  go_ret
  exact ⟨rfl, (Kept.refl _ _).alloc _⟩
theorem isMark4_any (r : Int) (w : World) (ht : Tabs w) : Calls Tryz.prog 104 #[.int .i32 r] w fun e w' => e = .returned (.bool (mkI r)) ∧ Kept [] w w' := by
  have ho := of_any r w ht
  have hR := hide (show mkI r = decide (ofI r = 0) from rfl)
  generalize mkI r = R at *
  generalize ofI r = o at *
  clear ht
  go_enter Tryz.func104, Tryz.ntmps104
  go_wp2_with fail
  refine ho.mono ?_
  rintro e w1 ⟨rfl, hk1⟩
  go_wp2_with fail
  go_ret
  exact ⟨by rw [hR.out]; rfl, hk1⟩
end Go.Proofs.YtnkddhmhjnhgcaaGreatDoor
