/- The program's functions of layer 8 for nil and zero rings. -/
import Derived.Test.YtnkddhmhjnhgcaaGreatDoorRnRange
namespace Go.Proofs.YtnkddhmhjnhgcaaGreatDoor
open Go.RowKit
set_option linter.unusedVariables false
set_option maxRecDepth 100000

def Zr (w : World) (p : Option Addr) : Prop := PtrR w p 0 0 0 0 none 0 0
theorem Zr.kept {w w' : World} {p : Option Addr} (h : Zr w p) (hk : Kept [] w w') : Zr w' p := PtrR.kept h hk
theorem Zr.made {w : World} {p : Option Addr} (h : Zr w p) : Calls Tryz.prog 43 #[.pointer p] w fun e w' => e = .returned (.bool false) ∧ Kept [] w w' := made8_any _ _ _ _ _ _ _ _ _ h false (by decide)
theorem Zr.first {w : World} {p : Option Addr} (h : Zr w p) : Calls Tryz.prog 17 #[.pointer p] w fun e w' => e = .returned (.int .i64 0) ∧ Kept [] w w' := First8_any _ _ _ _ _ _ _ _ _ h
theorem Zr.next {w : World} {p : Option Addr} (h : Zr w p) : Calls Tryz.prog 18 #[.pointer p] w fun e w' => e = .returned (.int .i64 0) ∧ Kept [] w w' := Next8_any _ _ _ _ _ _ _ _ _ h
theorem Zr.most {w : World} {p : Option Addr} (h : Zr w p) : Calls Tryz.prog 35 #[.pointer p] w fun e w' => e = .returned (.int .i64 0) ∧ Kept [] w w' := Most8_any _ _ _ _ _ _ _ _ _ h
theorem Zr.pages {w : World} {p : Option Addr} (h : Zr w p) : Calls Tryz.prog 16 #[.pointer p] w fun e w' => e = .returned (.int .i64 0) ∧ Kept [] w w' := Pages8_any _ _ _ _ _ _ _ _ _ h
theorem Zr.len {w : World} {p : Option Addr} (h : Zr w p) : Calls Tryz.prog 23 #[.pointer p] w fun e w' => e = .returned (.int .i64 0) ∧ Kept [] w w' := Len8_any _ _ _ _ _ _ _ _ _ h 0 (by rw [IntKind.wrap_i64]; omega)
set_option maxHeartbeats 1000000 in
theorem zPush8 (p : Option Addr) (a : Option Addr) (n c : Nat) (s : Bool) (w : World) (h : Zr w p) : Calls Tryz.prog 34 #[.pointer p, .agg #[.slice a n c, .bool s]] w fun e w' => e = .returned (.tuple #[.int .i64 0, .int .i64 1]) ∧ Kept [] w w' := by
  obtain ⟨W0, hW0⟩ : ∃ z : World, z = w.alloc (.cells #[.slice a n c, .bool s] 36) := ⟨_, rfl⟩
  have hk0 : Kept [] w W0 := by rw [hW0]; exact (Kept.refl [] w).alloc _
  have hM := hide (Zr.made (h.kept hk0))
  clear h
  go_enter Tryz.func34, Tryz.ntmps34
  go_upto_region 1 with fail
  rw [← hW0]
  clear hW0
  go_wp2_with fail
  refine hM.out.mono ?_
  rintro e w1 ⟨rfl, hk1⟩
  go_wp2_with fail
  refine bodyPost_ret (v := .tuple #[.int .i64 0, .int .i64 1]) (by simp [results, Tryz.results34, go_sem]) rfl ?_
  exact ⟨rfl, hk0.trans hk1 (by simp)⟩
set_option maxHeartbeats 1000000 in
theorem zSet8 (p : Option Addr) (k : Int) (a : Option Addr) (n c : Nat) (s : Bool) (w : World) (h : Zr w p) : Calls Tryz.prog 21 #[.pointer p, .int .i64 k, .agg #[.slice a n c, .bool s]] w fun e w' => e = .returned (.int .i64 1) ∧ Kept [] w w' := by
  obtain ⟨W0, hW0⟩ : ∃ z : World, z = w.alloc (.cells #[.slice a n c, .bool s] 36) := ⟨_, rfl⟩
  have hk0 : Kept [] w W0 := by rw [hW0]; exact (Kept.refl [] w).alloc _
  have hM := hide (Zr.made (h.kept hk0))
  clear h
  go_enter Tryz.func21, Tryz.ntmps21
  go_upto_region 1 with fail
  rw [← hW0]
  clear hW0
  go_wp2_with fail
  refine hM.out.mono ?_
  rintro e w1 ⟨rfl, hk1⟩
  go_wp2_with fail
  go_ret
  exact ⟨rfl, hk0.trans hk1 (by simp)⟩
set_option maxHeartbeats 1000000 in
theorem zLimit8 (p : Option Addr) (k : Int) (w : World) (h : Zr w p) : Calls Tryz.prog 20 #[.pointer p, .int .i64 k] w fun e w' => e = .returned (.int .i64 1) ∧ Kept [] w w' := by
  have hM := hide h.made
  clear h
  go_enter Tryz.func20, Tryz.ntmps20
  go_wp2_with fail
  refine hM.out.mono ?_
  rintro e w1 ⟨rfl, hk1⟩
  go_wp2_with fail
  go_ret
  exact ⟨rfl, hk1⟩
set_option maxHeartbeats 1000000 in
theorem zCopy8 (p : Option Addr) (w : World) (h : Zr w p) : Calls Tryz.prog 33 #[.pointer p] w fun e w' => e = .returned (.pointer none) ∧ Kept [] w w' := by
  have hM := hide h.made
  clear h
  go_enter Tryz.func33, Tryz.ntmps33
  go_wp2_with fail
  refine hM.out.mono ?_
  rintro e w1 ⟨rfl, hk1⟩
  go_wp2_with fail
  go_ret
  exact ⟨rfl, hk1⟩
set_option maxHeartbeats 1000000 in
theorem zClear8 (p : Option Addr) (w : World) (h : Zr w p) : Calls Tryz.prog 22 #[.pointer p] w fun e w' => e = .returned (.tuple #[]) ∧ Kept [] w w' := by
  have hM := hide h.made
  clear h
  go_enter Tryz.func22, Tryz.ntmps22
  go_wp2_with fail
  refine hM.out.mono ?_
  rintro e w1 ⟨rfl, hk1⟩
  go_wp2_with fail
  go_end0
  exact ⟨rfl, hk1⟩
set_option maxHeartbeats 1000000 in
theorem zGet8 (p : Option Addr) (k : Int) (w : World) (h : Zr w p) : Calls Tryz.prog 39 #[.pointer p, .int .i64 k] w fun e w' => e = .returned (.tuple #[.agg #[.slice none 0 0, .bool false], .int .i64 1]) ∧ Kept [] w w' := by
  obtain ⟨W0, hW0⟩ : ∃ z : World, z = w.alloc (.cells #[.slice none 0 0, .bool false] 36) := ⟨_, rfl⟩
  have hk0 : Kept [] w W0 := by rw [hW0]; exact (Kept.refl [] w).alloc _
  have hz0 : Hid (LinIn W0 w.heap.size none 0 0 false) := hide (by rw [hW0]; exact LinIn.new w none 0 0 false)
  have hM := hide (Zr.made (h.kept hk0))
  clear h
  go_enter Tryz.func39, Tryz.ntmps39
  go_upto_region 1 with fail
  rw [← hW0]
  clear hW0
  go_wp2_with fail
  refine hM.out.mono ?_
  rintro e w1 ⟨rfl, hk1⟩
  go_wp2_with (refine wpList_store_lin rfl rfl rfl w.heap.size rfl (hz0.out.kept hk1 (by simp)) none 0 0 false rfl ?_; intro w7 hb7 hk7)
  refine bodyPost_ret (results_lin2 rfl rfl hb7 rfl) rfl ?_
  exact ⟨rfl, (hk0.trans hk1 (by simp)).trans hk7 (by simp)⟩
set_option maxHeartbeats 1000000 in
theorem zPop8 (p : Option Addr) (w : World) (h : Zr w p) : Calls Tryz.prog 42 #[.pointer p] w fun e w' => e = .returned (.tuple #[.agg #[.slice none 0 0, .bool false], .int .i64 1]) ∧ Kept [] w w' := by
  obtain ⟨W0, hW0⟩ : ∃ z : World, z = w.alloc (.cells #[.slice none 0 0, .bool false] 36) := ⟨_, rfl⟩
  have hk0 : Kept [] w W0 := by rw [hW0]; exact (Kept.refl [] w).alloc _
  have hz0 : Hid (LinIn W0 w.heap.size none 0 0 false) := hide (by rw [hW0]; exact LinIn.new w none 0 0 false)
  have hM := hide (Zr.made (h.kept hk0))
  clear h
  go_enter Tryz.func42, Tryz.ntmps42
  go_upto_region 1 with fail
  rw [← hW0]
  clear hW0
  go_wp2_with fail
  refine hM.out.mono ?_
  rintro e w1 ⟨rfl, hk1⟩
  go_wp2_with (refine wpList_store_lin rfl rfl rfl w.heap.size rfl (hz0.out.kept hk1 (by simp)) none 0 0 false rfl ?_; intro w7 hb7 hk7)
  refine bodyPost_ret (results_lin2 rfl rfl hb7 rfl) rfl ?_
  exact ⟨rfl, (hk0.trans hk1 (by simp)).trans hk7 (by simp)⟩
set_option maxHeartbeats 1000000 in
theorem zRange8 (p : Option Addr) (f t : Int) (w : World) (h : Zr w p) : Calls Tryz.prog 36 #[.pointer p, .int .i64 f, .int .i64 t] w fun e w' => e = .returned (.tuple #[.slice none 0 0, .int .i64 1]) ∧ Kept [] w w' := by
  obtain ⟨W0, hW0⟩ : ∃ z : World, z = (w.alloc (.cells #[.int .i64 f] 3)).alloc (.cells #[.int .i64 t] 3) := ⟨_, rfl⟩
  have hk0 : Kept [] w W0 := by rw [hW0]; exact ((Kept.refl [] w).alloc _).alloc _
  have hM := hide (Zr.made (h.kept hk0))
  clear h
  go_enter Tryz.func36, Tryz.ntmps36
  go_upto_region 1 with fail
  rw [← hW0]
  clear hW0
  go_wp2_with fail
  refine hM.out.mono ?_
  rintro e w1 ⟨rfl, hk1⟩
  go_wp2_with fail
  refine bodyPost_ret (v := .tuple #[.slice none 0 0, .int .i64 1]) (by simp [results, Tryz.results36, go_sem]) rfl ?_
  exact ⟨rfl, hk0.trans hk1 (by simp)⟩
end Go.Proofs.YtnkddhmhjnhgcaaGreatDoor
