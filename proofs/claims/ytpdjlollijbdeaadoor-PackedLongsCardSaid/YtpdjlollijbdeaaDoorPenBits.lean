/- Colors as bits, and back: the program's and the reference's. -/
import Derived.Test.YtpdjlollijbdeaaDoorPenLeaf
namespace Go.Proofs.YtpdjlollijbdeaaDoor
open Go.RowKit
set_option linter.unusedVariables false

set_option maxHeartbeats 1000000 in
theorem colorBits_any (c : Col) (h : colOk c) (hb : ColB c) (w : World) :
    Calls Tryd.prog 59 #[.agg #[.int .i64 c.k, .int .u8 c.i, .int .u8 c.r, .int .u8 c.g, .int .u8 c.b]] w fun e w' => e = .returned (.int .u64 (bitsI c)) ∧ Kept [] w w' := by
  have i1 := hb.i.1; have i2 := hb.i.2; have r1 := hb.r.1; have r2 := hb.r.2; have g1 := hb.g.1; have g2 := hb.g.2; have b1 := hb.b.1; have b2 := hb.b.2
  obtain ⟨k, i, r, g, b⟩ := c
  simp only at i1 i2 r1 r2 g1 g2 b1 b2 ⊢
  clear hb
  go_enter Tryd.func59, Tryd.ntmps59
  go_wp2_with fail
  go_ret
  refine ⟨ret_int (bits_math h i1 i2 r1 r2 g1 g2 b1 b2), (Kept.refl _ _).alloc _⟩

set_option maxHeartbeats 1000000 in
theorem colorOf_any (v : Int) (h : 0 ≤ v ∧ v < 67108864) (w : World) :
    Calls Tryd.prog 60 #[.int .u64 v] w fun e w' => e = .returned (.agg #[.int .i64 (colI v).k, .int .u8 (colI v).i, .int .u8 (colI v).r, .int .u8 (colI v).g, .int .u8 (colI v).b]) ∧ Kept [] w w' := by
  obtain ⟨h1, h2⟩ := h
  by_cases c1 : v / 16777216 = 1
  · rw [colI_one c1]
    go_enter Tryd.func60, Tryd.ntmps60
    go_wp2
    refine bodyPost_ret (v := .agg #[.int .i64 1, .int .u8 (v % 256), .int .u8 0, .int .u8 0, .int .u8 0]) (by simp [results, Tryd.results66, go_sem]) rfl ?_
    go_wp2
    refine bodyPost_ret (v := .agg #[.int .i64 1, .int .u8 (v % 256), .int .u8 0, .int .u8 0, .int .u8 0]) (by simp [results, Tryd.results60, go_sem]) rfl ?_
    exact ⟨rfl, ((Kept.refl _ _).alloc _).alloc _⟩
  by_cases c2 : v / 16777216 = 2
  · rw [colI_two c2]
    go_enter Tryd.func60, Tryd.ntmps60
    go_wp2
    refine bodyPost_ret (v := .agg #[.int .i64 2, .int .u8 0, .int .u8 (v / 65536 % 256), .int .u8 (v / 256 % 256), .int .u8 (v % 256)]) (by simp [results, Tryd.results67, go_sem]) rfl ?_
    go_wp2
    refine bodyPost_ret (v := .agg #[.int .i64 2, .int .u8 0, .int .u8 (v / 65536 % 256), .int .u8 (v / 256 % 256), .int .u8 (v % 256)]) (by simp [results, Tryd.results60, go_sem]) rfl ?_
    exact ⟨rfl, ((Kept.refl _ _).alloc _).alloc _⟩
  rw [colI_else c1 c2]
  go_enter Tryd.func60, Tryd.ntmps60
  go_wp2_with fail
  refine bodyPost_ret (v := .agg #[.int .i64 0, .int .u8 0, .int .u8 0, .int .u8 0, .int .u8 0]) (by simp [results, Tryd.results60, go_sem]) rfl ?_
  exact ⟨rfl, (Kept.refl _ _).alloc _⟩

set_option maxHeartbeats 1000000 in
theorem rbits_any (c : Col) (h : colOk c) (hb : ColB c) (w : World) :
    Calls Tryd.prog 47 #[.agg #[.int .i64 c.k, .int .u8 c.i, .int .u8 c.r, .int .u8 c.g, .int .u8 c.b]] w fun e w' => e = .returned (.int .u64 (bitsI c)) ∧ Kept [] w w' := by
  have i1 := hb.i.1; have i2 := hb.i.2; have r1 := hb.r.1; have r2 := hb.r.2; have g1 := hb.g.1; have g2 := hb.g.2; have b1 := hb.b.1; have b2 := hb.b.2
  obtain ⟨k, i, r, g, b⟩ := c
  simp only at i1 i2 r1 r2 g1 g2 b1 b2 ⊢
  clear hb
  go_enter Tryd.func47, Tryd.ntmps47
  go_wp2_with fail
  all_goals
    go_ret
    refine ⟨ret_int ?_, (Kept.refl _ _).alloc _⟩
    simp only [beq_iff_eq, beq_eq_false_iff_ne, ne_eq] at *
    unfold bitsI
    repeat (first | rw [if_pos (by assumption)] | rw [if_neg (by assumption)])
    try omega
theorem rcol_any (v : Int) (h : 0 ≤ v ∧ v < 67108864) (w : World) :
    Calls Tryd.prog 51 #[.int .u64 v] w fun e w' => e = .returned (.agg #[.int .i64 (colI v).k, .int .u8 (colI v).i, .int .u8 (colI v).r, .int .u8 (colI v).g, .int .u8 (colI v).b]) ∧ Kept [] w w' := by
  obtain ⟨h1, h2⟩ := h
  go_enter Tryd.func51, Tryd.ntmps51
  go_wp2_with fail
  · rw [colI_one (beqT ‹_›)]
    refine bodyPost_ret (v := .agg #[.int .i64 1, .int .u8 (v % 256), .int .u8 0, .int .u8 0, .int .u8 0]) (by simp [results, Tryd.results51, go_sem]) rfl ?_
    exact ⟨rfl, (Kept.refl _ _).alloc _⟩
  · rw [colI_two (beqT ‹_›)]
    refine bodyPost_ret (v := .agg #[.int .i64 2, .int .u8 0, .int .u8 (v / 65536 % 256), .int .u8 (v / 256 % 256), .int .u8 (v % 256)]) (by simp [results, Tryd.results51, go_sem]) rfl ?_
    exact ⟨rfl, (Kept.refl _ _).alloc _⟩
  · rename_i q1 q2
    rw [colI_else (beqF q1) (beqF q2)]
    refine bodyPost_ret (v := .agg #[.int .i64 0, .int .u8 0, .int .u8 0, .int .u8 0, .int .u8 0]) (by simp [results, Tryd.results51, go_sem]) rfl ?_
    exact ⟨rfl, (Kept.refl _ _).alloc _⟩
end Go.Proofs.YtpdjlollijbdeaaDoor
