/- The leaf functions of layer 3 and of its reference: what each returns. Pens: in memory; valid ones: the program's and the reference's. A pen among the arguments. -/
import Derived.Test.YtnkddhmhjnhgcaaGreatDoorRows
import Derived.Test.YtnkddhmhjnhgcaaGreatDoorUtil
import Derived.Test.YtnkddhmhjnhgcaaGreatDoorMaths
import Derived.WalkKit
import Derived.WalkSpells
import Derived.WalkLawsBesides
import Derived.BigQuiet
import Derived.StillTailTactics
import Derived.Deep.RegionHeld3
import Derived.Deep.Cut
import Derived.Laws.StructEq
import Derived.ProofKit
import Derived.OpenShut
namespace Go.Proofs.YtnkddhmhjnhgcaaGreatDoor
open Go.RowKit
set_option linter.unusedVariables false

theorem Index_any (n : Int) (w : World) :
    Calls Tryz.prog 98 #[.int .u8 n] w fun e w' => e = .returned (.agg #[.int .i64 1, .int .u8 n, .int .u8 0, .int .u8 0, .int .u8 0]) ∧ Kept [] w w' := by
  go_enter Tryz.func98, Tryz.ntmps98
  go_wp2
  refine bodyPost_ret (v := .agg #[.int .i64 1, .int .u8 n, .int .u8 0, .int .u8 0, .int .u8 0]) (by simp [results, Tryz.results98, go_sem]) rfl ?_
  exact ⟨rfl, (Kept.refl _ _).alloc _⟩
theorem True_any (r g b : Int) (w : World) :
    Calls Tryz.prog 99 #[.int .u8 r, .int .u8 g, .int .u8 b] w fun e w' => e = .returned (.agg #[.int .i64 2, .int .u8 0, .int .u8 r, .int .u8 g, .int .u8 b]) ∧ Kept [] w w' := by
  go_enter Tryz.func99, Tryz.ntmps99
  go_wp2
  refine bodyPost_ret (v := .agg #[.int .i64 2, .int .u8 0, .int .u8 r, .int .u8 g, .int .u8 b]) (by simp [results, Tryz.results99, go_sem]) rfl ?_
  exact ⟨rfl, (Kept.refl _ _).alloc _⟩

theorem rcolor_any (k i r g b : Int) (w : World) :
    Calls Tryz.prog 93 #[.agg #[.int .i64 k, .int .u8 i, .int .u8 r, .int .u8 g, .int .u8 b]] w fun e w' => e = .returned (.bool (decide (colOk ⟨k, i, r, g, b⟩))) ∧ Kept [] w w' := by
  go_enter Tryz.func93, Tryz.ntmps93
  go_wp2
  all_goals
    go_ret
    refine ⟨ret_bool ?_, (Kept.refl _ _).alloc _⟩
    rw [Bool.eq_iff_iff]
    rw [colOk_iff]
    simp only [beq_iff_eq, beq_eq_false_iff_ne, ne_eq, Bool.not_eq_true', bne_eq_false_iff_eq, Bool.false_eq_true, false_iff] at *
    omega
set_option maxHeartbeats 1000000 in
theorem color1_any (i r g b : Int) (w : World) :
    Calls Tryz.prog 88 #[.agg #[.int .i64 1, .int .u8 i, .int .u8 r, .int .u8 g, .int .u8 b]] w fun e w' => e = .returned (.bool (decide (colOk ⟨1, i, r, g, b⟩))) ∧ Kept [] w w' := by
  have hI := hide (fun w => Index_any i w)
  by_cases hr : r = 0
  · subst hr
    by_cases hg : g = 0
    · subst hg
      by_cases hb : b = 0
      · subst hb
        go_enter Tryz.func88, Tryz.ntmps88
        go_wp2_with fail
        obtain ⟨W0, hW0⟩ : ∃ x : World, x = w.alloc (.cells #[.int .i64 1, .int .u8 i, .int .u8 0, .int .u8 0, .int .u8 0] 81) := ⟨_, rfl⟩
        have hk0 : Kept [] w W0 := by rw [hW0]; exact (Kept.refl [] w).alloc _
        have e0 : W0.cell? ⟨w.heap.size, 0, none⟩ = some (.int .i64 1) := by rw [hW0]; simp [go_sem]
        have e1 : W0.cell? ⟨w.heap.size, 1, none⟩ = some (.int .u8 i) := by rw [hW0]; simp [go_sem]
        have e2 : W0.cell? ⟨w.heap.size, 2, none⟩ = some (.int .u8 0) := by rw [hW0]; simp [go_sem]
        have e3 : W0.cell? ⟨w.heap.size, 3, none⟩ = some (.int .u8 0) := by rw [hW0]; simp [go_sem]
        have e4 : W0.cell? ⟨w.heap.size, 4, none⟩ = some (.int .u8 0) := by rw [hW0]; simp [go_sem]
        rw [← hW0]
        clear hW0
        go_region_held3 (fun w' => w'.cell? ⟨w.heap.size, 0, none⟩ = some (.int .i64 1) ∧ w'.cell? ⟨w.heap.size, 1, none⟩ = some (.int .u8 i) ∧ w'.cell? ⟨w.heap.size, 2, none⟩ = some (.int .u8 0) ∧ w'.cell? ⟨w.heap.size, 3, none⟩ = some (.int .u8 0) ∧ w'.cell? ⟨w.heap.size, 4, none⟩ = some (.int .u8 0))
          (first
            | exact ⟨((Kept.refl [] W0).drew).cell e0 (by simp), ((Kept.refl [] W0).drew).cell e1 (by simp), ((Kept.refl [] W0).drew).cell e2 (by simp), ((Kept.refl [] W0).drew).cell e3 (by simp), ((Kept.refl [] W0).drew).cell e4 (by simp)⟩
            | exact ⟨(((Kept.refl [] W0).drew).trans hk1 (by simp)).cell e0 (by simp), (((Kept.refl [] W0).drew).trans hk1 (by simp)).cell e1 (by simp), (((Kept.refl [] W0).drew).trans hk1 (by simp)).cell e2 (by simp), (((Kept.refl [] W0).drew).trans hk1 (by simp)).cell e3 (by simp), (((Kept.refl [] W0).drew).trans hk1 (by simp)).cell e4 (by simp)⟩)
          ((go_at_call 98; refine (hI.out W0.drew).mono ?_; rintro e w1 ⟨rfl, hk1⟩))
        go_wp2_with fail
        go_ret
        refine ⟨ret_bool ?_, hk0.trans ((Kept.refl [] W0).drew.trans hk1 (by simp)) (by simp)⟩
        rw [Bool.eq_iff_iff, colOk_iff]
        simp
        try omega
      · go_enter Tryz.func88, Tryz.ntmps88
        go_wp2_with fail
        obtain ⟨W0, hW0⟩ : ∃ x : World, x = w.alloc (.cells #[.int .i64 1, .int .u8 i, .int .u8 0, .int .u8 0, .int .u8 b] 81) := ⟨_, rfl⟩
        have hk0 : Kept [] w W0 := by rw [hW0]; exact (Kept.refl [] w).alloc _
        have e0 : W0.cell? ⟨w.heap.size, 0, none⟩ = some (.int .i64 1) := by rw [hW0]; simp [go_sem]
        have e1 : W0.cell? ⟨w.heap.size, 1, none⟩ = some (.int .u8 i) := by rw [hW0]; simp [go_sem]
        have e2 : W0.cell? ⟨w.heap.size, 2, none⟩ = some (.int .u8 0) := by rw [hW0]; simp [go_sem]
        have e3 : W0.cell? ⟨w.heap.size, 3, none⟩ = some (.int .u8 0) := by rw [hW0]; simp [go_sem]
        have e4 : W0.cell? ⟨w.heap.size, 4, none⟩ = some (.int .u8 b) := by rw [hW0]; simp [go_sem]
        rw [← hW0]
        clear hW0
        go_region_held3 (fun w' => w'.cell? ⟨w.heap.size, 0, none⟩ = some (.int .i64 1) ∧ w'.cell? ⟨w.heap.size, 1, none⟩ = some (.int .u8 i) ∧ w'.cell? ⟨w.heap.size, 2, none⟩ = some (.int .u8 0) ∧ w'.cell? ⟨w.heap.size, 3, none⟩ = some (.int .u8 0) ∧ w'.cell? ⟨w.heap.size, 4, none⟩ = some (.int .u8 b))
          (first
            | exact ⟨((Kept.refl [] W0).drew).cell e0 (by simp), ((Kept.refl [] W0).drew).cell e1 (by simp), ((Kept.refl [] W0).drew).cell e2 (by simp), ((Kept.refl [] W0).drew).cell e3 (by simp), ((Kept.refl [] W0).drew).cell e4 (by simp)⟩
            | exact ⟨(((Kept.refl [] W0).drew).trans hk1 (by simp)).cell e0 (by simp), (((Kept.refl [] W0).drew).trans hk1 (by simp)).cell e1 (by simp), (((Kept.refl [] W0).drew).trans hk1 (by simp)).cell e2 (by simp), (((Kept.refl [] W0).drew).trans hk1 (by simp)).cell e3 (by simp), (((Kept.refl [] W0).drew).trans hk1 (by simp)).cell e4 (by simp)⟩)
          ((go_at_call 98; refine (hI.out W0.drew).mono ?_; rintro e w1 ⟨rfl, hk1⟩))
        go_wp2_with fail
        go_ret
        refine ⟨ret_bool ?_, hk0.trans ((Kept.refl [] W0).drew.trans hk1 (by simp)) (by simp)⟩
        rw [Bool.eq_iff_iff, colOk_iff]
        simp
        try omega
    · go_enter Tryz.func88, Tryz.ntmps88
      go_wp2_with fail
      obtain ⟨W0, hW0⟩ : ∃ x : World, x = w.alloc (.cells #[.int .i64 1, .int .u8 i, .int .u8 0, .int .u8 g, .int .u8 b] 81) := ⟨_, rfl⟩
      have hk0 : Kept [] w W0 := by rw [hW0]; exact (Kept.refl [] w).alloc _
      have e0 : W0.cell? ⟨w.heap.size, 0, none⟩ = some (.int .i64 1) := by rw [hW0]; simp [go_sem]
      have e1 : W0.cell? ⟨w.heap.size, 1, none⟩ = some (.int .u8 i) := by rw [hW0]; simp [go_sem]
      have e2 : W0.cell? ⟨w.heap.size, 2, none⟩ = some (.int .u8 0) := by rw [hW0]; simp [go_sem]
      have e3 : W0.cell? ⟨w.heap.size, 3, none⟩ = some (.int .u8 g) := by rw [hW0]; simp [go_sem]
      have e4 : W0.cell? ⟨w.heap.size, 4, none⟩ = some (.int .u8 b) := by rw [hW0]; simp [go_sem]
      rw [← hW0]
      clear hW0
      go_region_held3 (fun w' => w'.cell? ⟨w.heap.size, 0, none⟩ = some (.int .i64 1) ∧ w'.cell? ⟨w.heap.size, 1, none⟩ = some (.int .u8 i) ∧ w'.cell? ⟨w.heap.size, 2, none⟩ = some (.int .u8 0) ∧ w'.cell? ⟨w.heap.size, 3, none⟩ = some (.int .u8 g) ∧ w'.cell? ⟨w.heap.size, 4, none⟩ = some (.int .u8 b))
        (first
          | exact ⟨((Kept.refl [] W0).drew).cell e0 (by simp), ((Kept.refl [] W0).drew).cell e1 (by simp), ((Kept.refl [] W0).drew).cell e2 (by simp), ((Kept.refl [] W0).drew).cell e3 (by simp), ((Kept.refl [] W0).drew).cell e4 (by simp)⟩
          | exact ⟨(((Kept.refl [] W0).drew).trans hk1 (by simp)).cell e0 (by simp), (((Kept.refl [] W0).drew).trans hk1 (by simp)).cell e1 (by simp), (((Kept.refl [] W0).drew).trans hk1 (by simp)).cell e2 (by simp), (((Kept.refl [] W0).drew).trans hk1 (by simp)).cell e3 (by simp), (((Kept.refl [] W0).drew).trans hk1 (by simp)).cell e4 (by simp)⟩)
        ((go_at_call 98; refine (hI.out W0.drew).mono ?_; rintro e w1 ⟨rfl, hk1⟩))
      go_wp2_with fail
      go_ret
      refine ⟨ret_bool ?_, hk0.trans ((Kept.refl [] W0).drew.trans hk1 (by simp)) (by simp)⟩
      rw [Bool.eq_iff_iff, colOk_iff]
      simp
      try omega
  · go_enter Tryz.func88, Tryz.ntmps88
    go_wp2_with fail
    obtain ⟨W0, hW0⟩ : ∃ x : World, x = w.alloc (.cells #[.int .i64 1, .int .u8 i, .int .u8 r, .int .u8 g, .int .u8 b] 81) := ⟨_, rfl⟩
    have hk0 : Kept [] w W0 := by rw [hW0]; exact (Kept.refl [] w).alloc _
    have e0 : W0.cell? ⟨w.heap.size, 0, none⟩ = some (.int .i64 1) := by rw [hW0]; simp [go_sem]
    have e1 : W0.cell? ⟨w.heap.size, 1, none⟩ = some (.int .u8 i) := by rw [hW0]; simp [go_sem]
    have e2 : W0.cell? ⟨w.heap.size, 2, none⟩ = some (.int .u8 r) := by rw [hW0]; simp [go_sem]
    have e3 : W0.cell? ⟨w.heap.size, 3, none⟩ = some (.int .u8 g) := by rw [hW0]; simp [go_sem]
    have e4 : W0.cell? ⟨w.heap.size, 4, none⟩ = some (.int .u8 b) := by rw [hW0]; simp [go_sem]
    rw [← hW0]
    clear hW0
    go_region_held3 (fun w' => w'.cell? ⟨w.heap.size, 0, none⟩ = some (.int .i64 1) ∧ w'.cell? ⟨w.heap.size, 1, none⟩ = some (.int .u8 i) ∧ w'.cell? ⟨w.heap.size, 2, none⟩ = some (.int .u8 r) ∧ w'.cell? ⟨w.heap.size, 3, none⟩ = some (.int .u8 g) ∧ w'.cell? ⟨w.heap.size, 4, none⟩ = some (.int .u8 b))
      (first
        | exact ⟨((Kept.refl [] W0).drew).cell e0 (by simp), ((Kept.refl [] W0).drew).cell e1 (by simp), ((Kept.refl [] W0).drew).cell e2 (by simp), ((Kept.refl [] W0).drew).cell e3 (by simp), ((Kept.refl [] W0).drew).cell e4 (by simp)⟩
        | exact ⟨(((Kept.refl [] W0).drew).trans hk1 (by simp)).cell e0 (by simp), (((Kept.refl [] W0).drew).trans hk1 (by simp)).cell e1 (by simp), (((Kept.refl [] W0).drew).trans hk1 (by simp)).cell e2 (by simp), (((Kept.refl [] W0).drew).trans hk1 (by simp)).cell e3 (by simp), (((Kept.refl [] W0).drew).trans hk1 (by simp)).cell e4 (by simp)⟩)
      ((go_at_call 98; refine (hI.out W0.drew).mono ?_; rintro e w1 ⟨rfl, hk1⟩))
    go_wp2_with fail
    go_ret
    refine ⟨ret_bool ?_, hk0.trans ((Kept.refl [] W0).drew.trans hk1 (by simp)) (by simp)⟩
    rw [Bool.eq_iff_iff, colOk_iff]
    simp
    try omega
set_option maxHeartbeats 1000000 in
theorem color2_any (i r g b : Int) (w : World) :
    Calls Tryz.prog 88 #[.agg #[.int .i64 2, .int .u8 i, .int .u8 r, .int .u8 g, .int .u8 b]] w fun e w' => e = .returned (.bool (decide (colOk ⟨2, i, r, g, b⟩))) ∧ Kept [] w w' := by
  have hT := hide (fun w => True_any r g b w)
  by_cases hi : i = 0
  · subst hi
    go_enter Tryz.func88, Tryz.ntmps88
    go_wp2_with fail
    obtain ⟨W0, hW0⟩ : ∃ x : World, x = w.alloc (.cells #[.int .i64 2, .int .u8 0, .int .u8 r, .int .u8 g, .int .u8 b] 81) := ⟨_, rfl⟩
    have hk0 : Kept [] w W0 := by rw [hW0]; exact (Kept.refl [] w).alloc _
    have e0 : W0.cell? ⟨w.heap.size, 0, none⟩ = some (.int .i64 2) := by rw [hW0]; simp [go_sem]
    have e1 : W0.cell? ⟨w.heap.size, 1, none⟩ = some (.int .u8 0) := by rw [hW0]; simp [go_sem]
    have e2 : W0.cell? ⟨w.heap.size, 2, none⟩ = some (.int .u8 r) := by rw [hW0]; simp [go_sem]
    have e3 : W0.cell? ⟨w.heap.size, 3, none⟩ = some (.int .u8 g) := by rw [hW0]; simp [go_sem]
    have e4 : W0.cell? ⟨w.heap.size, 4, none⟩ = some (.int .u8 b) := by rw [hW0]; simp [go_sem]
    rw [← hW0]
    clear hW0
    go_region_held3 (fun w' => w'.cell? ⟨w.heap.size, 0, none⟩ = some (.int .i64 2) ∧ w'.cell? ⟨w.heap.size, 1, none⟩ = some (.int .u8 0) ∧ w'.cell? ⟨w.heap.size, 2, none⟩ = some (.int .u8 r) ∧ w'.cell? ⟨w.heap.size, 3, none⟩ = some (.int .u8 g) ∧ w'.cell? ⟨w.heap.size, 4, none⟩ = some (.int .u8 b))
      (first
        | exact ⟨((Kept.refl [] W0).drew).cell e0 (by simp), ((Kept.refl [] W0).drew).cell e1 (by simp), ((Kept.refl [] W0).drew).cell e2 (by simp), ((Kept.refl [] W0).drew).cell e3 (by simp), ((Kept.refl [] W0).drew).cell e4 (by simp)⟩
        | exact ⟨(((Kept.refl [] W0).drew).trans hk1 (by simp)).cell e0 (by simp), (((Kept.refl [] W0).drew).trans hk1 (by simp)).cell e1 (by simp), (((Kept.refl [] W0).drew).trans hk1 (by simp)).cell e2 (by simp), (((Kept.refl [] W0).drew).trans hk1 (by simp)).cell e3 (by simp), (((Kept.refl [] W0).drew).trans hk1 (by simp)).cell e4 (by simp)⟩)
      ((go_at_call 99; refine (hT.out W0.drew).mono ?_; rintro e w1 ⟨rfl, hk1⟩))
    go_wp2_with fail
    go_ret
    refine ⟨ret_bool ?_, hk0.trans ((Kept.refl [] W0).drew.trans hk1 (by simp)) (by simp)⟩
    rw [Bool.eq_iff_iff, colOk_iff]
    simp
    try omega
  · go_enter Tryz.func88, Tryz.ntmps88
    go_wp2_with fail
    obtain ⟨W0, hW0⟩ : ∃ x : World, x = w.alloc (.cells #[.int .i64 2, .int .u8 i, .int .u8 r, .int .u8 g, .int .u8 b] 81) := ⟨_, rfl⟩
    have hk0 : Kept [] w W0 := by rw [hW0]; exact (Kept.refl [] w).alloc _
    have e0 : W0.cell? ⟨w.heap.size, 0, none⟩ = some (.int .i64 2) := by rw [hW0]; simp [go_sem]
    have e1 : W0.cell? ⟨w.heap.size, 1, none⟩ = some (.int .u8 i) := by rw [hW0]; simp [go_sem]
    have e2 : W0.cell? ⟨w.heap.size, 2, none⟩ = some (.int .u8 r) := by rw [hW0]; simp [go_sem]
    have e3 : W0.cell? ⟨w.heap.size, 3, none⟩ = some (.int .u8 g) := by rw [hW0]; simp [go_sem]
    have e4 : W0.cell? ⟨w.heap.size, 4, none⟩ = some (.int .u8 b) := by rw [hW0]; simp [go_sem]
    rw [← hW0]
    clear hW0
    go_region_held3 (fun w' => w'.cell? ⟨w.heap.size, 0, none⟩ = some (.int .i64 2) ∧ w'.cell? ⟨w.heap.size, 1, none⟩ = some (.int .u8 i) ∧ w'.cell? ⟨w.heap.size, 2, none⟩ = some (.int .u8 r) ∧ w'.cell? ⟨w.heap.size, 3, none⟩ = some (.int .u8 g) ∧ w'.cell? ⟨w.heap.size, 4, none⟩ = some (.int .u8 b))
      (first
        | exact ⟨((Kept.refl [] W0).drew).cell e0 (by simp), ((Kept.refl [] W0).drew).cell e1 (by simp), ((Kept.refl [] W0).drew).cell e2 (by simp), ((Kept.refl [] W0).drew).cell e3 (by simp), ((Kept.refl [] W0).drew).cell e4 (by simp)⟩
        | exact ⟨(((Kept.refl [] W0).drew).trans hk1 (by simp)).cell e0 (by simp), (((Kept.refl [] W0).drew).trans hk1 (by simp)).cell e1 (by simp), (((Kept.refl [] W0).drew).trans hk1 (by simp)).cell e2 (by simp), (((Kept.refl [] W0).drew).trans hk1 (by simp)).cell e3 (by simp), (((Kept.refl [] W0).drew).trans hk1 (by simp)).cell e4 (by simp)⟩)
      ((go_at_call 99; refine (hT.out W0.drew).mono ?_; rintro e w1 ⟨rfl, hk1⟩))
    go_wp2_with fail
    go_ret
    refine ⟨ret_bool ?_, hk0.trans ((Kept.refl [] W0).drew.trans hk1 (by simp)) (by simp)⟩
    rw [Bool.eq_iff_iff, colOk_iff]
    simp
    try omega
set_option maxHeartbeats 1000000 in
theorem color_any (k i r g b : Int) (w : World) :
    Calls Tryz.prog 88 #[.agg #[.int .i64 k, .int .u8 i, .int .u8 r, .int .u8 g, .int .u8 b]] w fun e w' => e = .returned (.bool (decide (colOk ⟨k, i, r, g, b⟩))) ∧ Kept [] w w' := by
  by_cases h1 : k = 1
  · subst h1; exact color1_any i r g b w
  by_cases h2 : k = 2
  · subst h2; exact color2_any i r g b w
  go_enter Tryz.func88, Tryz.ntmps88
  go_wp2_with fail
  all_goals
    go_ret
    refine ⟨ret_bool ?_, (Kept.refl _ _).alloc _⟩
    rw [Bool.eq_iff_iff, colOk_iff]
    simp only [beq_iff_eq, beq_eq_false_iff_ne, ne_eq, Bool.false_eq_true, false_iff, true_iff] at *
    omega
end Go.Proofs.YtnkddhmhjnhgcaaGreatDoor
namespace Go.Proofs.YtnkddhmhjnhgcaaGreatDoor
open Go.RowKit
set_option linter.unusedVariables false

/-- A pen in a block, from its first cell on. -/
def PenAt (W : World) (b : Nat) (p : Pn) : Prop := W.cell? ⟨b, 0, none⟩ = some (.int .i64 p.f.k) ∧ W.cell? ⟨b, 1, none⟩ = some (.int .u8 p.f.i) ∧ W.cell? ⟨b, 2, none⟩ = some (.int .u8 p.f.r) ∧ W.cell? ⟨b, 3, none⟩ = some (.int .u8 p.f.g) ∧ W.cell? ⟨b, 4, none⟩ = some (.int .u8 p.f.b) ∧ W.cell? ⟨b, 5, none⟩ = some (.int .i64 p.b.k) ∧ W.cell? ⟨b, 6, none⟩ = some (.int .u8 p.b.i) ∧ W.cell? ⟨b, 7, none⟩ = some (.int .u8 p.b.r) ∧ W.cell? ⟨b, 8, none⟩ = some (.int .u8 p.b.g) ∧ W.cell? ⟨b, 9, none⟩ = some (.int .u8 p.b.b) ∧ W.cell? ⟨b, 10, none⟩ = some (.int .u8 p.fl)
theorem PenAt.kept {S : List Nat} {w w' : World} {b : Nat} {p : Pn} (h : PenAt w b p) (hk : Kept S w w') (hb : b ∉ S) : PenAt w' b p := by
  obtain ⟨e0, e1, e2, e3, e4, e5, e6, e7, e8, e9, e10⟩ := h
  exact ⟨hk.cell e0 hb, hk.cell e1 hb, hk.cell e2 hb, hk.cell e3 hb, hk.cell e4 hb, hk.cell e5 hb, hk.cell e6 hb, hk.cell e7 hb, hk.cell e8 hb, hk.cell e9 hb, hk.cell e10 hb⟩
theorem PenAt.new (w : World) (p : Pn) : PenAt (w.alloc (.cells #[.int .i64 p.f.k, .int .u8 p.f.i, .int .u8 p.f.r, .int .u8 p.f.g, .int .u8 p.f.b, .int .i64 p.b.k, .int .u8 p.b.i, .int .u8 p.b.r, .int .u8 p.b.g, .int .u8 p.b.b, .int .u8 p.fl] 84)) w.heap.size p := by
  unfold PenAt
  simp [go_sem]

/-- A pen that fills a block. -/
def PenIn (W : World) (b : Nat) (p : Pn) : Prop := W.heap[b]? = some (.cells #[.int .i64 p.f.k, .int .u8 p.f.i, .int .u8 p.f.r, .int .u8 p.f.g, .int .u8 p.f.b, .int .i64 p.b.k, .int .u8 p.b.i, .int .u8 p.b.r, .int .u8 p.b.g, .int .u8 p.b.b, .int .u8 p.fl] 84 (0, 0))
def Froz (W : World) (b : Nat) : Prop := W.frozen? ⟨b, 0, none⟩ = false ∧ W.frozen? ⟨b, 1, none⟩ = false ∧ W.frozen? ⟨b, 2, none⟩ = false ∧ W.frozen? ⟨b, 3, none⟩ = false ∧ W.frozen? ⟨b, 4, none⟩ = false ∧ W.frozen? ⟨b, 5, none⟩ = false ∧ W.frozen? ⟨b, 6, none⟩ = false ∧ W.frozen? ⟨b, 7, none⟩ = false ∧ W.frozen? ⟨b, 8, none⟩ = false ∧ W.frozen? ⟨b, 9, none⟩ = false ∧ W.frozen? ⟨b, 10, none⟩ = false
theorem PenIn.new (w : World) (p : Pn) : PenIn (w.alloc (.cells #[.int .i64 p.f.k, .int .u8 p.f.i, .int .u8 p.f.r, .int .u8 p.f.g, .int .u8 p.f.b, .int .i64 p.b.k, .int .u8 p.b.i, .int .u8 p.b.r, .int .u8 p.b.g, .int .u8 p.b.b, .int .u8 p.fl] 84)) w.heap.size p := heap_alloc_new w _
theorem PenIn.kept {S : List Nat} {w w' : World} {b : Nat} {p : Pn} (h : PenIn w b p) (hk : Kept S w w') (hb : b ∉ S) : PenIn w' b p := hk.heap h hb
theorem PenIn.at {w : World} {b : Nat} {p : Pn} (h : PenIn w b p) : PenAt w b p := by
  unfold PenAt
  simp [cell_of_row w b _ _ _ _ h]
theorem PenIn.froz {w : World} {b : Nat} {p : Pn} (h : PenIn w b p) : Froz w b := by
  unfold Froz
  simp [frozen_of_row w b _ _ _ h]

theorem heap_set (w : World) (b i : Nat) (v : Value) (cur : Array Value) (t : TypeId) (h : w.heap[b]? = some (.cells cur t (0, 0))) : (w.setCell ⟨b, i, none⟩ v).heap[b]? = some (.cells (cur.setIfInBounds i v) t (0, 0)) := by
  show (w.heap.modify b _)[b]? = _
  rw [Array.getElem?_modify, if_pos rfl, h]
  rfl
theorem PenIn.set {w : World} {b : Nat} {p : Pn} (h : PenIn w b p) (q : Pn) : PenIn (((((((((((w.setCell ⟨b, 0, none⟩ (.int .i64 q.f.k)).setCell ⟨b, 1, none⟩ (.int .u8 q.f.i)).setCell ⟨b, 2, none⟩ (.int .u8 q.f.r)).setCell ⟨b, 3, none⟩ (.int .u8 q.f.g)).setCell ⟨b, 4, none⟩ (.int .u8 q.f.b)).setCell ⟨b, 5, none⟩ (.int .i64 q.b.k)).setCell ⟨b, 6, none⟩ (.int .u8 q.b.i)).setCell ⟨b, 7, none⟩ (.int .u8 q.b.r)).setCell ⟨b, 8, none⟩ (.int .u8 q.b.g)).setCell ⟨b, 9, none⟩ (.int .u8 q.b.b)).setCell ⟨b, 10, none⟩ (.int .u8 q.fl)) b q := by
  unfold PenIn at h ⊢
  have h := heap_set _ _ 0 (.int .i64 q.f.k) _ _ h
  have h := heap_set _ _ 1 (.int .u8 q.f.i) _ _ h
  have h := heap_set _ _ 2 (.int .u8 q.f.r) _ _ h
  have h := heap_set _ _ 3 (.int .u8 q.f.g) _ _ h
  have h := heap_set _ _ 4 (.int .u8 q.f.b) _ _ h
  have h := heap_set _ _ 5 (.int .i64 q.b.k) _ _ h
  have h := heap_set _ _ 6 (.int .u8 q.b.i) _ _ h
  have h := heap_set _ _ 7 (.int .u8 q.b.r) _ _ h
  have h := heap_set _ _ 8 (.int .u8 q.b.g) _ _ h
  have h := heap_set _ _ 9 (.int .u8 q.b.b) _ _ h
  have h := heap_set _ _ 10 (.int .u8 q.fl) _ _ h
  simpa using h
theorem Kept.setPen {S : List Nat} {a w : World} (h : Kept S a w) {b : Nat} (hb : b ∈ S ∨ a.heap.size ≤ b) (q : Pn) : Kept S a (((((((((((w.setCell ⟨b, 0, none⟩ (.int .i64 q.f.k)).setCell ⟨b, 1, none⟩ (.int .u8 q.f.i)).setCell ⟨b, 2, none⟩ (.int .u8 q.f.r)).setCell ⟨b, 3, none⟩ (.int .u8 q.f.g)).setCell ⟨b, 4, none⟩ (.int .u8 q.f.b)).setCell ⟨b, 5, none⟩ (.int .i64 q.b.k)).setCell ⟨b, 6, none⟩ (.int .u8 q.b.i)).setCell ⟨b, 7, none⟩ (.int .u8 q.b.r)).setCell ⟨b, 8, none⟩ (.int .u8 q.b.g)).setCell ⟨b, 9, none⟩ (.int .u8 q.b.b)).setCell ⟨b, 10, none⟩ (.int .u8 q.fl)) :=
  ((((((((((h.setCell hb _).setCell hb _).setCell hb _).setCell hb _).setCell hb _).setCell hb _).setCell hb _).setCell hb _).setCell hb _).setCell hb _).setCell hb _

theorem color_is (c : Col) (v : Bool) (h : decide (colOk c) = v) (w : World) : Calls Tryz.prog 88 #[.agg #[.int .i64 c.k, .int .u8 c.i, .int .u8 c.r, .int .u8 c.g, .int .u8 c.b]] w fun e w' => e = .returned (.bool v) ∧ Kept [] w w' := by
  subst h
  exact color_any c.k c.i c.r c.g c.b w
theorem rcolor_is (c : Col) (v : Bool) (h : decide (colOk c) = v) (w : World) : Calls Tryz.prog 93 #[.agg #[.int .i64 c.k, .int .u8 c.i, .int .u8 c.r, .int .u8 c.g, .int .u8 c.b]] w fun e w' => e = .returned (.bool v) ∧ Kept [] w w' := by
  subst h
  exact rcolor_any c.k c.i c.r c.g c.b w
theorem penOk_and (p : Pn) : decide (penOk p) = (decide (colOk p.f) && decide (colOk p.b)) := by
  unfold penOk
  exact Bool.decide_and _ _

set_option maxHeartbeats 1000000 in
theorem valid_is (p : Pn) (v : Bool) (hv : decide (penOk p) = v) (w : World) : Calls Tryz.prog 80 #[.agg #[.int .i64 p.f.k, .int .u8 p.f.i, .int .u8 p.f.r, .int .u8 p.f.g, .int .u8 p.f.b, .int .i64 p.b.k, .int .u8 p.b.i, .int .u8 p.b.r, .int .u8 p.b.g, .int .u8 p.b.b, .int .u8 p.fl]] w fun e w' => e = .returned (.bool v) ∧ Kept [] w w' := by
  rw [penOk_and] at hv
  obtain ⟨vf, hvf⟩ : ∃ x, decide (colOk p.f) = x := ⟨_, rfl⟩
  obtain ⟨vb, hvb⟩ : ∃ x, decide (colOk p.b) = x := ⟨_, rfl⟩
  have hF := hide (fun w1 => color_is p.f vf hvf w1)
  have hB := hide (fun w1 => color_is p.b vb hvb w1)
  rw [hvf, hvb] at hv
  subst hv
  clear hvf hvb
  go_enter Tryz.func80, Tryz.ntmps80
  cases vf
  all_goals
    go_wp2_with fail
    obtain ⟨W0, hW0⟩ : ∃ x : World, x = w.alloc (.cells #[.int .i64 p.f.k, .int .u8 p.f.i, .int .u8 p.f.r, .int .u8 p.f.g, .int .u8 p.f.b, .int .i64 p.b.k, .int .u8 p.b.i, .int .u8 p.b.r, .int .u8 p.b.g, .int .u8 p.b.b, .int .u8 p.fl] 84) := ⟨_, rfl⟩
    have hk0 : Kept [] w W0 := by rw [hW0]; exact (Kept.refl [] w).alloc _
    have hp0 : PenAt W0 w.heap.size p := by rw [hW0]; exact PenAt.new w p
    rw [← hW0]
    clear hW0
    refine (hF.out _).mono ?_
    rintro e w1 ⟨rfl, hk1⟩
    obtain ⟨q0, q1, q2, q3, q4, q5, q6, q7, q8, q9, q10⟩ := hp0.kept hk1 (by simp)
    go_wp2_with fail
  · go_ret
    exact ⟨rfl, hk0.trans hk1 (by simp)⟩
  · refine (hB.out _).mono ?_
    rintro e w2 ⟨rfl, hk2⟩
    go_wp2_with fail
    go_ret
    exact ⟨by simp, hk0.trans (hk1.trans hk2 (by simp)) (by simp)⟩

set_option maxHeartbeats 1000000 in
theorem rvalid_is (p : Pn) (v : Bool) (hv : decide (penOk p) = v) (w : World) : Calls Tryz.prog 86 #[.agg #[.int .i64 p.f.k, .int .u8 p.f.i, .int .u8 p.f.r, .int .u8 p.f.g, .int .u8 p.f.b, .int .i64 p.b.k, .int .u8 p.b.i, .int .u8 p.b.r, .int .u8 p.b.g, .int .u8 p.b.b, .int .u8 p.fl]] w fun e w' => e = .returned (.bool v) ∧ Kept [] w w' := by
  rw [penOk_and] at hv
  obtain ⟨vf, hvf⟩ : ∃ x, decide (colOk p.f) = x := ⟨_, rfl⟩
  obtain ⟨vb, hvb⟩ : ∃ x, decide (colOk p.b) = x := ⟨_, rfl⟩
  have hF := hide (fun w1 => rcolor_is p.f vf hvf w1)
  have hB := hide (fun w1 => rcolor_is p.b vb hvb w1)
  rw [hvf, hvb] at hv
  subst hv
  clear hvf hvb
  go_enter Tryz.func86, Tryz.ntmps86
  cases vf
  all_goals
    go_wp2_with fail
    obtain ⟨W0, hW0⟩ : ∃ x : World, x = w.alloc (.cells #[.int .i64 p.f.k, .int .u8 p.f.i, .int .u8 p.f.r, .int .u8 p.f.g, .int .u8 p.f.b, .int .i64 p.b.k, .int .u8 p.b.i, .int .u8 p.b.r, .int .u8 p.b.g, .int .u8 p.b.b, .int .u8 p.fl] 84) := ⟨_, rfl⟩
    have hk0 : Kept [] w W0 := by rw [hW0]; exact (Kept.refl [] w).alloc _
    have hp0 : PenAt W0 w.heap.size p := by rw [hW0]; exact PenAt.new w p
    rw [← hW0]
    clear hW0
    refine (hF.out _).mono ?_
    rintro e w1 ⟨rfl, hk1⟩
    obtain ⟨q0, q1, q2, q3, q4, q5, q6, q7, q8, q9, q10⟩ := hp0.kept hk1 (by simp)
    go_wp2_with fail
  · go_ret
    exact ⟨rfl, hk0.trans hk1 (by simp)⟩
  · refine (hB.out _).mono ?_
    rintro e w2 ⟨rfl, hk2⟩
    go_wp2_with fail
    go_ret
    exact ⟨by simp, hk0.trans (hk1.trans hk2 (by simp)) (by simp)⟩
end Go.Proofs.YtnkddhmhjnhgcaaGreatDoor
namespace Go.Proofs.YtnkddhmhjnhgcaaGreatDoor
open Go.ChangeShapes Go.WideShapes Go.ChangeAt Go.RowKit
set_option linter.unusedVariables false
set_option maxRecDepth 100000

/-! A pen by value. -/
theorem cColor : Tryz.prog.cellsOf 81 = 5 := by kernel_rfl
theorem cPen : Tryz.prog.cellsOf 84 = 11 := by kernel_rfl
theorem cKind : Tryz.prog.cellsOf 79 = 1 := by kernel_rfl
theorem cU8 : Tryz.prog.cellsOf 5 = 1 := by kernel_rfl
theorem cFlags : Tryz.prog.cellsOf 82 = 1 := by kernel_rfl
def colD {H : Type} (c : Col) : DataW H := .agg [.lit (.int .i64 c.k), .lit (.int .u8 c.i), .lit (.int .u8 c.r), .lit (.int .u8 c.g), .lit (.int .u8 c.b)]
def penD {H : Type} (p : Pn) : DataW H := .agg [colD p.f, colD p.b, .lit (.int .u8 p.fl)]

section
variable {H : Type} {enc : TypeId × Value → H} {w : World} {base : Nat} {sp : Nat → Bool} {held : Bool}
theorem open_color {fuel : Nat} {c0 c1 c2 c3 c4 : Value} {x : DataW H × List MemPlace} (h : DataW.trod enc Tryz.prog w base sp held fuel 81 [c0, c1, c2, c3, c4] = some x) :
    ∃ c : Col, ColB c ∧ (Lit.int .i64 c.k).wf = true ∧ x = (colD c, []) ∧ c0 = .int .i64 c.k ∧ c1 = .int .u8 c.i ∧ c2 = .int .u8 c.r ∧ c3 = .int .u8 c.g ∧ c4 = .int .u8 c.b := by
  obtain ⟨xs, n, rfl, hx, _, hlen, hf⟩ := DataW.trod_struct Tryz.underlying81 h
  have g0 : DataW.trod enc Tryz.prog w base sp held n 79 (([c0, c1, c2, c3, c4].drop 0).take (Tryz.prog.cellsOf 79)) = xs[0]? := hf 0 _ rfl
  have g1 : DataW.trod enc Tryz.prog w base sp held n 5 (([c0, c1, c2, c3, c4].drop 1).take (Tryz.prog.cellsOf 5)) = xs[1]? := hf 1 _ rfl
  have g2 : DataW.trod enc Tryz.prog w base sp held n 5 (([c0, c1, c2, c3, c4].drop 2).take (Tryz.prog.cellsOf 5)) = xs[2]? := hf 2 _ rfl
  have g3 : DataW.trod enc Tryz.prog w base sp held n 5 (([c0, c1, c2, c3, c4].drop 3).take (Tryz.prog.cellsOf 5)) = xs[3]? := hf 3 _ rfl
  have g4 : DataW.trod enc Tryz.prog w base sp held n 5 (([c0, c1, c2, c3, c4].drop 4).take (Tryz.prog.cellsOf 5)) = xs[4]? := hf 4 _ rfl
  rw [cKind] at g0
  rw [cU8] at g1 g2 g3 g4
  match xs, hlen with
  | [y0, y1, y2, y3, y4], _ =>
    obtain ⟨n0, e0, z0, w0⟩ := DataW.trod_int Tryz.underlying79 (x := y0) (by simpa using g0)
    obtain ⟨n1, e1, z1, w1⟩ := DataW.trod_int Tryz.underlying5 (x := y1) (by simpa using g1)
    obtain ⟨n2, e2, z2, w2⟩ := DataW.trod_int Tryz.underlying5 (x := y2) (by simpa using g2)
    obtain ⟨n3, e3, z3, w3⟩ := DataW.trod_int Tryz.underlying5 (x := y3) (by simpa using g3)
    obtain ⟨n4, e4, z4, w4⟩ := DataW.trod_int Tryz.underlying5 (x := y4) (by simpa using g4)
    simp at e0 e1 e2 e3 e4
    subst z0 z1 z2 z3 z4
    exact ⟨⟨n0, n1, n2, n3, n4⟩, ⟨bounds_u8 w1, bounds_u8 w2, bounds_u8 w3, bounds_u8 w4⟩, w0, by rw [hx]; simp [colD], e0, e1, e2, e3, e4⟩

theorem array11 {α : Type} {cs : Array α} (h : cs.size = 11) : ∃ c0 c1 c2 c3 c4 c5 c6 c7 c8 c9 c10, cs = #[c0, c1, c2, c3, c4, c5, c6, c7, c8, c9, c10] := by
  obtain ⟨l⟩ := cs
  match l, h with
  | [c0, c1, c2, c3, c4, c5, c6, c7, c8, c9, c10], _ => exact ⟨c0, c1, c2, c3, c4, c5, c6, c7, c8, c9, c10, rfl⟩

theorem open_pen {r : Reach} {b0 : Nat} {v : Value} {d : DataW H} {p : List MemPlace} (hv : Value.okWide Tryz.prog w r b0 84 v) (h : DataW.Trod enc Tryz.prog w base sp held 84 v d p) :
    ∃ x : Pn, PnB x ∧ v = .agg #[.int .i64 x.f.k, .int .u8 x.f.i, .int .u8 x.f.r, .int .u8 x.f.g, .int .u8 x.f.b, .int .i64 x.b.k, .int .u8 x.b.i, .int .u8 x.b.r, .int .u8 x.b.g, .int .u8 x.b.b, .int .u8 x.fl] := by
  obtain ⟨cs, rfl, hsz⟩ := okWide_struct Tryz.underlying84 hv
  obtain ⟨c0, c1, c2, c3, c4, c5, c6, c7, c8, c9, c10, rfl⟩ := array11 (hsz.trans cPen)
  obtain ⟨fuel, hf⟩ := h
  obtain ⟨xs, n, rfl, hx, _, hlen, hf⟩ := DataW.trod_struct Tryz.underlying84 hf
  have g0 : DataW.trod enc Tryz.prog w base sp held n 81 (([c0, c1, c2, c3, c4, c5, c6, c7, c8, c9, c10].drop 0).take (Tryz.prog.cellsOf 81)) = xs[0]? := hf 0 _ rfl
  have g1 : DataW.trod enc Tryz.prog w base sp held n 81 (([c0, c1, c2, c3, c4, c5, c6, c7, c8, c9, c10].drop 5).take (Tryz.prog.cellsOf 81)) = xs[1]? := hf 1 _ rfl
  have g2 : DataW.trod enc Tryz.prog w base sp held n 82 (([c0, c1, c2, c3, c4, c5, c6, c7, c8, c9, c10].drop 10).take (Tryz.prog.cellsOf 82)) = xs[2]? := hf 2 _ rfl
  rw [cColor] at g0 g1
  rw [cFlags] at g2
  match xs, hlen with
  | [y0, y1, y2], _ =>
    obtain ⟨f, bf, wf, _, rfl, rfl, rfl, rfl, rfl⟩ := open_color (x := y0) (by simpa [Value.cells] using g0)
    obtain ⟨b, bb, wb, _, rfl, rfl, rfl, rfl, rfl⟩ := open_color (x := y1) (by simpa [Value.cells] using g1)
    obtain ⟨n2, e2, z2, w2⟩ := DataW.trod_int Tryz.underlying82 (x := y2) (by simpa [Value.cells] using g2)
    simp at e2
    subst e2
    exact ⟨⟨f, b, n2⟩, ⟨bf, bb, bounds_u8 w2⟩, rfl⟩
end
end Go.Proofs.YtnkddhmhjnhgcaaGreatDoor
