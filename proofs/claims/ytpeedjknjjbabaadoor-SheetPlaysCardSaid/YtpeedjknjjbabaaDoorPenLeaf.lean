/- The leaf functions of layer 3 and of its reference: what each returns. -/
import Derived.Test.YtpeedjknjjbabaaDoorRows
import Derived.Test.YtpeedjknjjbabaaDoorUtil
import Derived.Test.YtpeedjknjjbabaaDoorPenMath
import Derived.WalkKit
import Derived.WalkSpells
import Derived.WalkLawsBesides
import Derived.BigQuiet
import Derived.StillTailTactics
import Derived.Deep.RegionHeld3
import Derived.Deep.Cut
import Derived.Laws.StructEq
namespace Go.Proofs.YtpeedjknjjbabaaDoor
open Go.RowKit
set_option linter.unusedVariables false

theorem Index_any (n : Int) (w : World) :
    Calls Tryd.prog 71 #[.int .u8 n] w fun e w' => e = .returned (.agg #[.int .i64 1, .int .u8 n, .int .u8 0, .int .u8 0, .int .u8 0]) ∧ Kept [] w w' := by
  go_enter Tryd.func71, Tryd.ntmps71
  go_wp2
  refine bodyPost_ret (v := .agg #[.int .i64 1, .int .u8 n, .int .u8 0, .int .u8 0, .int .u8 0]) (by simp [results, Tryd.results71, go_sem]) rfl ?_
  exact ⟨rfl, (Kept.refl _ _).alloc _⟩
theorem True_any (r g b : Int) (w : World) :
    Calls Tryd.prog 72 #[.int .u8 r, .int .u8 g, .int .u8 b] w fun e w' => e = .returned (.agg #[.int .i64 2, .int .u8 0, .int .u8 r, .int .u8 g, .int .u8 b]) ∧ Kept [] w w' := by
  go_enter Tryd.func72, Tryd.ntmps72
  go_wp2
  refine bodyPost_ret (v := .agg #[.int .i64 2, .int .u8 0, .int .u8 r, .int .u8 g, .int .u8 b]) (by simp [results, Tryd.results72, go_sem]) rfl ?_
  exact ⟨rfl, (Kept.refl _ _).alloc _⟩

theorem rcolor_any (k i r g b : Int) (w : World) :
    Calls Tryd.prog 66 #[.agg #[.int .i64 k, .int .u8 i, .int .u8 r, .int .u8 g, .int .u8 b]] w fun e w' => e = .returned (.bool (decide (colOk ⟨k, i, r, g, b⟩))) ∧ Kept [] w w' := by
  go_enter Tryd.func66, Tryd.ntmps66
  go_wp2
  all_goals
    go_ret
    refine ⟨ret_bool ?_, (Kept.refl _ _).alloc _⟩
    rw [Bool.eq_iff_iff]
    rw [colOk_iff]
    simp only [beq_iff_eq, beq_eq_false_iff_ne, ne_eq, Bool.not_eq_true', bne_eq_false_iff_eq, Bool.false_eq_true, false_iff] at *
    omega
set_option maxHeartbeats 1000000 in
theorem color1_any (i r g b : Int) (w : World) :
    Calls Tryd.prog 61 #[.agg #[.int .i64 1, .int .u8 i, .int .u8 r, .int .u8 g, .int .u8 b]] w fun e w' => e = .returned (.bool (decide (colOk ⟨1, i, r, g, b⟩))) ∧ Kept [] w w' := by
  have hI := hide (fun w => Index_any i w)
  by_cases hr : r = 0
  · subst hr
    by_cases hg : g = 0
    · subst hg
      by_cases hb : b = 0
      · subst hb
        go_enter Tryd.func61, Tryd.ntmps61
        go_wp2_with fail
        obtain ⟨W0, hW0⟩ : ∃ x : World, x = w.alloc (.cells #[.int .i64 1, .int .u8 i, .int .u8 0, .int .u8 0, .int .u8 0] 66) := ⟨_, rfl⟩
        have hk0 : Kept [] w W0 := by rw [hW0]; exact (Kept.refl [] w).alloc _
        have e0 : W0.cell? ⟨w.heap.size, 0, none⟩ = some (.int .i64 1) := by rw [hW0]; simp [go_sem]
        have e1 : W0.cell? ⟨w.heap.size, 1, none⟩ = some (.int .u8 i) := by rw [hW0]; simp [go_sem]
        have e2 : W0.cell? ⟨w.heap.size, 2, none⟩ = some (.int .u8 0) := by rw [hW0]; simp [go_sem]
        have e3 : W0.cell? ⟨w.heap.size, 3, none⟩ = some (.int .u8 0) := by rw [hW0]; simp [go_sem]
        have e4 : W0.cell? ⟨w.heap.size, 4, none⟩ = some (.int .u8 0) := by rw [hW0]; simp [go_sem]
        rw [← hW0]
        clear hW0
        go_region_held3 (fun w' => w'.cell? ⟨w.heap.size, 0, none⟩ = some (.int .i64 1) ∧ w'.cell? ⟨w.heap.size, 1, none⟩ = some (.int .u8 i) ∧ w'.cell? ⟨w.heap.size, 2, none⟩ = some (.int .u8 0) ∧ w'.cell? ⟨w.heap.size, 3, none⟩ = some (.int .u8 0) ∧ w'.cell? ⟨w.heap.size, 4, none⟩ = some (.int .u8 0))
          (first
            | exact ⟨((Kept.refl [] W0).drew).cell e0 (by simp), ((Kept.refl [] W0).drew).cell e1 (by simp), ((Kept.refl [] W0).drew).cell e2 (by simp), ((Kept.refl [] W0).drew).cell e3 (by simp), ((Kept.refl [] W0).drew).cell e4 (by simp)⟩
            | exact ⟨(((Kept.refl [] W0).drew).trans hk1 (by simp)).cell e0 (by simp), (((Kept.refl [] W0).drew).trans hk1 (by simp)).cell e1 (by simp), (((Kept.refl [] W0).drew).trans hk1 (by simp)).cell e2 (by simp), (((Kept.refl [] W0).drew).trans hk1 (by simp)).cell e3 (by simp), (((Kept.refl [] W0).drew).trans hk1 (by simp)).cell e4 (by simp)⟩)
          ((go_at_call 71; refine (hI.out W0.drew).mono ?_; rintro e w1 ⟨rfl, hk1⟩))
        go_wp2_with fail
        go_ret
        refine ⟨ret_bool ?_, hk0.trans ((Kept.refl [] W0).drew.trans hk1 (by simp)) (by simp)⟩
        rw [Bool.eq_iff_iff, colOk_iff]
        simp
        try omega
      · go_enter Tryd.func61, Tryd.ntmps61
        go_wp2_with fail
        obtain ⟨W0, hW0⟩ : ∃ x : World, x = w.alloc (.cells #[.int .i64 1, .int .u8 i, .int .u8 0, .int .u8 0, .int .u8 b] 66) := ⟨_, rfl⟩
        have hk0 : Kept [] w W0 := by rw [hW0]; exact (Kept.refl [] w).alloc _
        have e0 : W0.cell? ⟨w.heap.size, 0, none⟩ = some (.int .i64 1) := by rw [hW0]; simp [go_sem]
        have e1 : W0.cell? ⟨w.heap.size, 1, none⟩ = some (.int .u8 i) := by rw [hW0]; simp [go_sem]
        have e2 : W0.cell? ⟨w.heap.size, 2, none⟩ = some (.int .u8 0) := by rw [hW0]; simp [go_sem]
        have e3 : W0.cell? ⟨w.heap.size, 3, none⟩ = some (.int .u8 0) := by rw [hW0]; simp [go_sem]
        have e4 : W0.cell? ⟨w.heap.size, 4, none⟩ = some (.int .u8 b) := by rw [hW0]; simp [go_sem]
        rw [← hW0]
        clear hW0
        go_region_held3 (fun w' => w'.cell? ⟨w.heap.size, 0, none⟩ = some (.int .i64 1) ∧ w'.cell? ⟨w.heap.size, 1, none⟩ = some (.int .u8 i) ∧ w'.cell? ⟨w.heap.size, 2, none⟩ = some (.int .u8 0) ∧ w'.cell? ⟨w.heap.size, 3, none⟩ = some (.int .u8 0) ∧ w'.cell? ⟨w.heap.size, 4, none⟩ = some (.int .u8 b))
          (first
            | exact ⟨((Kept.refl [] W0).drew).cell e0 (by simp), ((Kept.refl [] W0).drew).cell e1 (by simp), ((Kept.refl [] W0).drew).cell e2 (by simp), ((Kept.refl [] W0).drew).cell e3 (by simp), ((Kept.refl [] W0).drew).cell e4 (by simp)⟩
            | exact ⟨(((Kept.refl [] W0).drew).trans hk1 (by simp)).cell e0 (by simp), (((Kept.refl [] W0).drew).trans hk1 (by simp)).cell e1 (by simp), (((Kept.refl [] W0).drew).trans hk1 (by simp)).cell e2 (by simp), (((Kept.refl [] W0).drew).trans hk1 (by simp)).cell e3 (by simp), (((Kept.refl [] W0).drew).trans hk1 (by simp)).cell e4 (by simp)⟩)
          ((go_at_call 71; refine (hI.out W0.drew).mono ?_; rintro e w1 ⟨rfl, hk1⟩))
        go_wp2_with fail
        go_ret
        refine ⟨ret_bool ?_, hk0.trans ((Kept.refl [] W0).drew.trans hk1 (by simp)) (by simp)⟩
        rw [Bool.eq_iff_iff, colOk_iff]
        simp
        try omega
    · go_enter Tryd.func61, Tryd.ntmps61
      go_wp2_with fail
      obtain ⟨W0, hW0⟩ : ∃ x : World, x = w.alloc (.cells #[.int .i64 1, .int .u8 i, .int .u8 0, .int .u8 g, .int .u8 b] 66) := ⟨_, rfl⟩
      have hk0 : Kept [] w W0 := by rw [hW0]; exact (Kept.refl [] w).alloc _
      have e0 : W0.cell? ⟨w.heap.size, 0, none⟩ = some (.int .i64 1) := by rw [hW0]; simp [go_sem]
      have e1 : W0.cell? ⟨w.heap.size, 1, none⟩ = some (.int .u8 i) := by rw [hW0]; simp [go_sem]
      have e2 : W0.cell? ⟨w.heap.size, 2, none⟩ = some (.int .u8 0) := by rw [hW0]; simp [go_sem]
      have e3 : W0.cell? ⟨w.heap.size, 3, none⟩ = some (.int .u8 g) := by rw [hW0]; simp [go_sem]
      have e4 : W0.cell? ⟨w.heap.size, 4, none⟩ = some (.int .u8 b) := by rw [hW0]; simp [go_sem]
      rw [← hW0]
      clear hW0
      go_region_held3 (fun w' => w'.cell? ⟨w.heap.size, 0, none⟩ = some (.int .i64 1) ∧ w'.cell? ⟨w.heap.size, 1, none⟩ = some (.int .u8 i) ∧ w'.cell? ⟨w.heap.size, 2, none⟩ = some (.int .u8 0) ∧ w'.cell? ⟨w.heap.size, 3, none⟩ = some (.int .u8 g) ∧ w'.cell? ⟨w.heap.size, 4, none⟩ = some (.int .u8 b))
        (first
          | exact ⟨((Kept.refl [] W0).drew).cell e0 (by simp), ((Kept.refl [] W0).drew).cell e1 (by simp), ((Kept.refl [] W0).drew).cell e2 (by simp), ((Kept.refl [] W0).drew).cell e3 (by simp), ((Kept.refl [] W0).drew).cell e4 (by simp)⟩
          | exact ⟨(((Kept.refl [] W0).drew).trans hk1 (by simp)).cell e0 (by simp), (((Kept.refl [] W0).drew).trans hk1 (by simp)).cell e1 (by simp), (((Kept.refl [] W0).drew).trans hk1 (by simp)).cell e2 (by simp), (((Kept.refl [] W0).drew).trans hk1 (by simp)).cell e3 (by simp), (((Kept.refl [] W0).drew).trans hk1 (by simp)).cell e4 (by simp)⟩)
        ((go_at_call 71; refine (hI.out W0.drew).mono ?_; rintro e w1 ⟨rfl, hk1⟩))
      go_wp2_with fail
      go_ret
      refine ⟨ret_bool ?_, hk0.trans ((Kept.refl [] W0).drew.trans hk1 (by simp)) (by simp)⟩
      rw [Bool.eq_iff_iff, colOk_iff]
      simp
      try omega
  · go_enter Tryd.func61, Tryd.ntmps61
    go_wp2_with fail
    obtain ⟨W0, hW0⟩ : ∃ x : World, x = w.alloc (.cells #[.int .i64 1, .int .u8 i, .int .u8 r, .int .u8 g, .int .u8 b] 66) := ⟨_, rfl⟩
    have hk0 : Kept [] w W0 := by rw [hW0]; exact (Kept.refl [] w).alloc _
    have e0 : W0.cell? ⟨w.heap.size, 0, none⟩ = some (.int .i64 1) := by rw [hW0]; simp [go_sem]
    have e1 : W0.cell? ⟨w.heap.size, 1, none⟩ = some (.int .u8 i) := by rw [hW0]; simp [go_sem]
    have e2 : W0.cell? ⟨w.heap.size, 2, none⟩ = some (.int .u8 r) := by rw [hW0]; simp [go_sem]
    have e3 : W0.cell? ⟨w.heap.size, 3, none⟩ = some (.int .u8 g) := by rw [hW0]; simp [go_sem]
    have e4 : W0.cell? ⟨w.heap.size, 4, none⟩ = some (.int .u8 b) := by rw [hW0]; simp [go_sem]
    rw [← hW0]
    clear hW0
    go_region_held3 (fun w' => w'.cell? ⟨w.heap.size, 0, none⟩ = some (.int .i64 1) ∧ w'.cell? ⟨w.heap.size, 1, none⟩ = some (.int .u8 i) ∧ w'.cell? ⟨w.heap.size, 2, none⟩ = some (.int .u8 r) ∧ w'.cell? ⟨w.heap.size, 3, none⟩ = some (.int .u8 g) ∧ w'.cell? ⟨w.heap.size, 4, none⟩ = some (.int .u8 b))
      (first
        | exact ⟨((Kept.refl [] W0).drew).cell e0 (by simp), ((Kept.refl [] W0).drew).cell e1 (by simp), ((Kept.refl [] W0).drew).cell e2 (by simp), ((Kept.refl [] W0).drew).cell e3 (by simp), ((Kept.refl [] W0).drew).cell e4 (by simp)⟩
        | exact ⟨(((Kept.refl [] W0).drew).trans hk1 (by simp)).cell e0 (by simp), (((Kept.refl [] W0).drew).trans hk1 (by simp)).cell e1 (by simp), (((Kept.refl [] W0).drew).trans hk1 (by simp)).cell e2 (by simp), (((Kept.refl [] W0).drew).trans hk1 (by simp)).cell e3 (by simp), (((Kept.refl [] W0).drew).trans hk1 (by simp)).cell e4 (by simp)⟩)
      ((go_at_call 71; refine (hI.out W0.drew).mono ?_; rintro e w1 ⟨rfl, hk1⟩))
    go_wp2_with fail
    go_ret
    refine ⟨ret_bool ?_, hk0.trans ((Kept.refl [] W0).drew.trans hk1 (by simp)) (by simp)⟩
    rw [Bool.eq_iff_iff, colOk_iff]
    simp
    try omega
set_option maxHeartbeats 1000000 in
theorem color2_any (i r g b : Int) (w : World) :
    Calls Tryd.prog 61 #[.agg #[.int .i64 2, .int .u8 i, .int .u8 r, .int .u8 g, .int .u8 b]] w fun e w' => e = .returned (.bool (decide (colOk ⟨2, i, r, g, b⟩))) ∧ Kept [] w w' := by
  have hT := hide (fun w => True_any r g b w)
  by_cases hi : i = 0
  · subst hi
    go_enter Tryd.func61, Tryd.ntmps61
    go_wp2_with fail
    obtain ⟨W0, hW0⟩ : ∃ x : World, x = w.alloc (.cells #[.int .i64 2, .int .u8 0, .int .u8 r, .int .u8 g, .int .u8 b] 66) := ⟨_, rfl⟩
    have hk0 : Kept [] w W0 := by rw [hW0]; exact (Kept.refl [] w).alloc _
    have e0 : W0.cell? ⟨w.heap.size, 0, none⟩ = some (.int .i64 2) := by rw [hW0]; simp [go_sem]
    have e1 : W0.cell? ⟨w.heap.size, 1, none⟩ = some (.int .u8 0) := by rw [hW0]; simp [go_sem]
    have e2 : W0.cell? ⟨w.heap.size, 2, none⟩ = some (.int .u8 r) := by rw [hW0]; simp [go_sem]
    have e3 : W0.cell? ⟨w.heap.size, 3, none⟩ = some (.int .u8 g) := by rw [hW0]; simp [go_sem]
    have e4 : W0.cell? ⟨w.heap.size, 4, none⟩ = some (.int .u8 b) := by rw [hW0]; simp [go_sem]
    rw [← hW0]
    clear hW0
    go_region_held3 (fun w' => w'.cell? ⟨w.heap.size, 0, none⟩ = some (.int .i64 2) ∧ w'.cell? ⟨w.heap.size, 1, none⟩ = some (.int .u8 0) ∧ w'.cell? ⟨w.heap.size, 2, none⟩ = some (.int .u8 r) ∧ w'.cell? ⟨w.heap.size, 3, none⟩ = some (.int .u8 g) ∧ w'.cell? ⟨w.heap.size, 4, none⟩ = some (.int .u8 b))
      (first
        | exact ⟨((Kept.refl [] W0).drew).cell e0 (by simp), ((Kept.refl [] W0).drew).cell e1 (by simp), ((Kept.refl [] W0).drew).cell e2 (by simp), ((Kept.refl [] W0).drew).cell e3 (by simp), ((Kept.refl [] W0).drew).cell e4 (by simp)⟩
        | exact ⟨(((Kept.refl [] W0).drew).trans hk1 (by simp)).cell e0 (by simp), (((Kept.refl [] W0).drew).trans hk1 (by simp)).cell e1 (by simp), (((Kept.refl [] W0).drew).trans hk1 (by simp)).cell e2 (by simp), (((Kept.refl [] W0).drew).trans hk1 (by simp)).cell e3 (by simp), (((Kept.refl [] W0).drew).trans hk1 (by simp)).cell e4 (by simp)⟩)
      ((go_at_call 72; refine (hT.out W0.drew).mono ?_; rintro e w1 ⟨rfl, hk1⟩))
    go_wp2_with fail
    go_ret
    refine ⟨ret_bool ?_, hk0.trans ((Kept.refl [] W0).drew.trans hk1 (by simp)) (by simp)⟩
    rw [Bool.eq_iff_iff, colOk_iff]
    simp
    try omega
  · go_enter Tryd.func61, Tryd.ntmps61
    go_wp2_with fail
    obtain ⟨W0, hW0⟩ : ∃ x : World, x = w.alloc (.cells #[.int .i64 2, .int .u8 i, .int .u8 r, .int .u8 g, .int .u8 b] 66) := ⟨_, rfl⟩
    have hk0 : Kept [] w W0 := by rw [hW0]; exact (Kept.refl [] w).alloc _
    have e0 : W0.cell? ⟨w.heap.size, 0, none⟩ = some (.int .i64 2) := by rw [hW0]; simp [go_sem]
    have e1 : W0.cell? ⟨w.heap.size, 1, none⟩ = some (.int .u8 i) := by rw [hW0]; simp [go_sem]
    have e2 : W0.cell? ⟨w.heap.size, 2, none⟩ = some (.int .u8 r) := by rw [hW0]; simp [go_sem]
    have e3 : W0.cell? ⟨w.heap.size, 3, none⟩ = some (.int .u8 g) := by rw [hW0]; simp [go_sem]
    have e4 : W0.cell? ⟨w.heap.size, 4, none⟩ = some (.int .u8 b) := by rw [hW0]; simp [go_sem]
    rw [← hW0]
    clear hW0
    go_region_held3 (fun w' => w'.cell? ⟨w.heap.size, 0, none⟩ = some (.int .i64 2) ∧ w'.cell? ⟨w.heap.size, 1, none⟩ = some (.int .u8 i) ∧ w'.cell? ⟨w.heap.size, 2, none⟩ = some (.int .u8 r) ∧ w'.cell? ⟨w.heap.size, 3, none⟩ = some (.int .u8 g) ∧ w'.cell? ⟨w.heap.size, 4, none⟩ = some (.int .u8 b))
      (first
        | exact ⟨((Kept.refl [] W0).drew).cell e0 (by simp), ((Kept.refl [] W0).drew).cell e1 (by simp), ((Kept.refl [] W0).drew).cell e2 (by simp), ((Kept.refl [] W0).drew).cell e3 (by simp), ((Kept.refl [] W0).drew).cell e4 (by simp)⟩
        | exact ⟨(((Kept.refl [] W0).drew).trans hk1 (by simp)).cell e0 (by simp), (((Kept.refl [] W0).drew).trans hk1 (by simp)).cell e1 (by simp), (((Kept.refl [] W0).drew).trans hk1 (by simp)).cell e2 (by simp), (((Kept.refl [] W0).drew).trans hk1 (by simp)).cell e3 (by simp), (((Kept.refl [] W0).drew).trans hk1 (by simp)).cell e4 (by simp)⟩)
      ((go_at_call 72; refine (hT.out W0.drew).mono ?_; rintro e w1 ⟨rfl, hk1⟩))
    go_wp2_with fail
    go_ret
    refine ⟨ret_bool ?_, hk0.trans ((Kept.refl [] W0).drew.trans hk1 (by simp)) (by simp)⟩
    rw [Bool.eq_iff_iff, colOk_iff]
    simp
    try omega
set_option maxHeartbeats 1000000 in
theorem color_any (k i r g b : Int) (w : World) :
    Calls Tryd.prog 61 #[.agg #[.int .i64 k, .int .u8 i, .int .u8 r, .int .u8 g, .int .u8 b]] w fun e w' => e = .returned (.bool (decide (colOk ⟨k, i, r, g, b⟩))) ∧ Kept [] w w' := by
  by_cases h1 : k = 1
  · subst h1; exact color1_any i r g b w
  by_cases h2 : k = 2
  · subst h2; exact color2_any i r g b w
  go_enter Tryd.func61, Tryd.ntmps61
  go_wp2_with fail
  all_goals
    go_ret
    refine ⟨ret_bool ?_, (Kept.refl _ _).alloc _⟩
    rw [Bool.eq_iff_iff, colOk_iff]
    simp only [beq_iff_eq, beq_eq_false_iff_ne, ne_eq, Bool.false_eq_true, false_iff, true_iff] at *
    omega
end Go.Proofs.YtpeedjknjjbabaaDoor
