/- Layer 8: the law's helpers at nil and zero rings; the law RingNil. -/
import Derived.Test.YtnkddhmhjnhgcaaGreatDoorRnAsk
namespace Go.Proofs.YtnkddhmhjnhgcaaGreatDoor
open Go.RowKit
set_option linter.unusedVariables false
set_option maxRecDepth 100000

set_option maxHeartbeats 4000000 in
theorem zpushes8 (p : Option Addr) (a : Option Addr) (n c : Nat) (s : Bool) (w : World) (hp : Zr w p) :
    Calls Tryz.prog 15 #[.pointer p, .agg #[.slice a n c, .bool s], .int .i64 0, .int .i64 1] w fun e w' => e = .returned (.bool true) ∧ Kept [] w w' := by
  obtain ⟨W0, hW0⟩ : ∃ z : World, z = w.alloc (.cells #[.slice a n c, .bool s] 36) := ⟨_, rfl⟩
  have hk0 : Kept [] w W0 := by rw [hW0]; exact (Kept.refl [] w).alloc _
  have hbw : Hid (LinIn W0 w.heap.size a n c s) := hide (by rw [hW0]; exact LinIn.new w a n c s)
  have hC := hide (zPush8 p a n c s W0 (hp.kept hk0))
  clear hp
  obtain ⟨q0, q1⟩ := hbw.out.at
  go_enter Tryz.func15, Tryz.ntmps15
  go_upto_region 1 with fail
  rw [← hW0]
  clear hW0
  go_wp2_with fail
  refine hC.out.mono ?_
  rintro e w1 ⟨rfl, hk1⟩
  go_wp2_with fail
  go_ret
  exact ⟨rfl, hk0.trans hk1 (by simp)⟩
set_option maxHeartbeats 4000000 in
theorem zgets8 (p : Option Addr) (k : Int) (w : World) (hp : Zr w p) :
    Calls Tryz.prog 12 #[.pointer p, .int .i64 k, .agg #[.slice none 0 0, .bool false], .int .i64 1] w fun e w' => e = .returned (.bool true) ∧ Kept [] w w' := by
  obtain ⟨W0, hW0⟩ : ∃ z : World, z = w.alloc (.cells #[.slice none 0 0, .bool false] 36) := ⟨_, rfl⟩
  have hk0 : Kept [] w W0 := by rw [hW0]; exact (Kept.refl [] w).alloc _
  have hbw : Hid (LinIn W0 w.heap.size none 0 0 false) := hide (by rw [hW0]; exact LinIn.new w none 0 0 false)
  have hC := hide (zGet8 p k W0 (hp.kept hk0))
  clear hp
  go_enter Tryz.func12, Tryz.ntmps12
  go_upto_region 1 with fail
  rw [← hW0]
  clear hW0
  go_wp2_with fail
  refine hC.out.mono ?_
  rintro e w1 ⟨rfl, hk1⟩
  go_wp2_with (refine wpList_store_lin rfl rfl rfl w1.heap.size rfl (LinIn.new w1 none 0 0 false) none 0 0 false rfl ?_; intro w2 hb2 hj2; have hh2 : Kept [] w1 w2 := ((Kept.refl [] w1).alloc (.cells #[.slice none 0 0, .bool false] 36)).trans hj2 (by simp); obtain ⟨p0, p1⟩ := hb2.at; obtain ⟨q0, q1⟩ := (hbw.out.kept (hk1.trans hh2 (by simp)) (by simp)).at)
  refine (rSame6_any none 0 0 false [] none 0 0 false [] w2 (Rd.nil _ _ _) (Rd.nil _ _ _) (by decide)).mono ?_
  rintro e w3 ⟨rfl, hj3⟩
  go_wp2_with fail
  go_ret
  exact ⟨rfl, (hk0.trans (hk1.trans hh2 (by simp)) (by simp)).trans hj3 (by simp)⟩
set_option maxHeartbeats 4000000 in
theorem zpops8 (p : Option Addr) (w : World) (hp : Zr w p) :
    Calls Tryz.prog 19 #[.pointer p, .agg #[.slice none 0 0, .bool false], .int .i64 1] w fun e w' => e = .returned (.bool true) ∧ Kept [] w w' := by
  obtain ⟨W0, hW0⟩ : ∃ z : World, z = w.alloc (.cells #[.slice none 0 0, .bool false] 36) := ⟨_, rfl⟩
  have hk0 : Kept [] w W0 := by rw [hW0]; exact (Kept.refl [] w).alloc _
  have hbw : Hid (LinIn W0 w.heap.size none 0 0 false) := hide (by rw [hW0]; exact LinIn.new w none 0 0 false)
  have hC := hide (zPop8 p W0 (hp.kept hk0))
  clear hp
  go_enter Tryz.func19, Tryz.ntmps19
  go_upto_region 1 with fail
  rw [← hW0]
  clear hW0
  go_wp2_with fail
  refine hC.out.mono ?_
  rintro e w1 ⟨rfl, hk1⟩
  go_wp2_with (refine wpList_store_lin rfl rfl rfl w1.heap.size rfl (LinIn.new w1 none 0 0 false) none 0 0 false rfl ?_; intro w2 hb2 hj2; have hh2 : Kept [] w1 w2 := ((Kept.refl [] w1).alloc (.cells #[.slice none 0 0, .bool false] 36)).trans hj2 (by simp); obtain ⟨p0, p1⟩ := hb2.at; obtain ⟨q0, q1⟩ := (hbw.out.kept (hk1.trans hh2 (by simp)) (by simp)).at)
  refine (rSame6_any none 0 0 false [] none 0 0 false [] w2 (Rd.nil _ _ _) (Rd.nil _ _ _) (by decide)).mono ?_
  rintro e w3 ⟨rfl, hj3⟩
  go_wp2_with fail
  go_ret
  exact ⟨rfl, (hk0.trans (hk1.trans hh2 (by simp)) (by simp)).trans hj3 (by simp)⟩
theorem LnsR.none (w : World) : LnsR w none 0 [] [] := ⟨Rd.nil _ _ _, .nil⟩
set_option maxHeartbeats 4000000 in
theorem zranges8 (p : Option Addr) (f t : Int) (w : World) (hp : Zr w p) :
    Calls Tryz.prog 13 #[.pointer p, .int .i64 f, .int .i64 t, .int .i64 1, .slice none 0 0] w fun e w' => e = .returned (.bool true) ∧ Kept [] w w' := by
  have hC := hide (zRange8 p f t w hp)
  clear hp
  go_enter Tryz.func13, Tryz.ntmps13
  go_wp2_with fail
  refine hC.out.mono ?_
  rintro e w1 ⟨rfl, hk1⟩
  go_wp2_with fail
  refine (rAll6_any none 0 0 [] [] none 0 0 [] [] w1 (LnsR.none w1) (LnsR.none w1) (fun x hx => by cases hx) (by decide)).mono ?_
  rintro e w3 ⟨rfl, hj3⟩
  go_wp2_with fail
  go_ret
  exact ⟨rfl, hk1.trans hj3 (by simp)⟩
/-- What the examples are. -/
def Known8 : Prop := ∀ w, Tabs w → 2 ≤ w.heap.size → Calls Tryz.prog 5 #[] w fun e w' => e = .returned (.bool true) ∧ Kept [] w w'
theorem tabs_lt8 {w : World} (h : Tabs w) : 2 ≤ w.heap.size := by
  have := World.block_lt_of_cell? w _ (h.2 0 (by decide)).1
  exact this
theorem Known8.at (h : Known8) {w : World} (ht : Tabs w) : Calls Tryz.prog 5 #[] w fun e w' => e = .returned (.bool true) ∧ Kept [] w w' := h w ht (tabs_lt8 ht)
end Go.Proofs.YtnkddhmhjnhgcaaGreatDoor
