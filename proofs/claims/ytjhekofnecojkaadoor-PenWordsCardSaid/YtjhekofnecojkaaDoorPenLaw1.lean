/- The walks of PenColors, PenWords and PenValid. -/
import Derived.Test.YtjhekofnecojkaaDoorPenKnown
namespace Go.Proofs.YtjhekofnecojkaaDoor
open Go.RowKit
set_option linter.unusedVariables false

set_option maxHeartbeats 1000000 in
theorem PenColors_walk (n r g b : Int) (w : World) (ht : WordsAt w) : Calls Tryd.prog 4 #[.int .u8 n, .int .u8 r, .int .u8 g, .int .u8 b] w fun e w' => e = .returned (.bool true) ∧ Kept [] w w' := by
  have hkn := hide (fun w1 hk => known_any w1 (ht.kept hk (by simp)) : ∀ w1, Kept [] w w1 → _)
  clear ht
  go_enter Tryd.func4, Tryd.ntmps4
  go_wp2_with fail
  refine (Index_any _ _).mono ?_
  rintro e w1 ⟨rfl, hk1⟩
  go_wp2_with fail
  refine (True_any _ _ _ _).mono ?_
  rintro e w2 ⟨rfl, hk2⟩
  have hK := hk1.trans hk2 (by simp)
  clear hk1 hk2
  go_wp2_with fail
  refine (hkn.out _ hK).mono ?_
  rintro e w3 ⟨rfl, hk3⟩
  go_wp2_with fail
  go_ret
  exact ⟨rfl, hK.trans hk3 (by simp)⟩

set_option maxHeartbeats 2000000 in
theorem PenWords_walk (v : Int) (hv : 0 ≤ v ∧ v ≤ 18446744073709551615) (w : World) (ht : WordsAt w) : Calls Tryd.prog 5 #[.int .u64 v] w fun e w' => e = .returned (.bool true) ∧ Kept [] w w' := by
  have hv' : 0 ≤ v ∧ v < 18446744073709551616 := ⟨hv.1, by omega⟩
  have hkn := hide (fun w1 hk => known_any w1 (ht.kept hk (by simp)) : ∀ w1, Kept [] w w1 → _)
  have hR := hide (fun w1 => rUnpack_is v hv' w1)
  by_cases c : packI (unpackI v) = v
  · have hU := hide (fun w1 => unpacks_is v hv' (unpackI v) 0 (by unfold unpackE; rw [if_pos c]) w1)
    have hP := hide (fun w1 => packs_is (unpackI v) (unpack_b v) v 0 (by unfold packE; rw [if_pos (unpack_ok v), c]) w1)
    have hc : (packI (unpackI v) == v) = true := by simpa using c
    rw [hc] at hR
    clear hc c ht hv hv'
    generalize unpackI v = x at *
    go_enter Tryd.func5, Tryd.ntmps5
    go_wp2_with fail
    refine (hR.out _).mono ?_
    rintro e w1 ⟨rfl, hk1⟩
    go_wp2_with fail
    obtain ⟨W2, hW2⟩ : ∃ z : World, z = w1.alloc (.cells #[.int .i64 x.f.k, .int .u8 x.f.i, .int .u8 x.f.r, .int .u8 x.f.g, .int .u8 x.f.b, .int .i64 x.b.k, .int .u8 x.b.i, .int .u8 x.b.r, .int .u8 x.b.g, .int .u8 x.b.b, .int .u8 x.fl] 27) := ⟨_, rfl⟩
    have hk2 : Kept [] w1 W2 := by rw [hW2]; exact (Kept.refl [] w1).alloc _
    have hp2 : PenIn W2 w1.heap.size x := by rw [hW2]; exact PenIn.new w1 x
    rw [← hW2]
    clear hW2
    refine (hU.out _).mono ?_
    rintro e w3 ⟨rfl, hk3⟩
    obtain ⟨q0, q1, q2, q3, q4, q5, q6, q7, q8, q9, q10⟩ := (hp2.kept hk3 (by simp)).at
    have hK3 : Kept [] w w3 := hk1.trans (hk2.trans hk3 (by simp)) (by simp)
    go_wp2_with fail
    clear q0 q1 q2 q3 q4 q5 q6 q7 q8 q9 q10
    refine (hP.out _).mono ?_
    rintro e w4 ⟨rfl, hk4⟩
    have hK4 := hK3.trans hk4 (by simp)
    go_wp2_with fail
    refine (hkn.out _ hK4).mono ?_
    rintro e w5 ⟨rfl, hk5⟩
    go_wp2_with fail
    go_ret
    exact ⟨rfl, hK4.trans hk5 (by simp)⟩
  · have hU := hide (fun w1 => unpacks_is v hv' zeroP 12 (by unfold unpackE; rw [if_neg c]) w1)
    have hc : (packI (unpackI v) == v) = false := by simpa using c
    rw [hc] at hR
    clear hc c ht hv hv'
    generalize unpackI v = x at *
    go_enter Tryd.func5, Tryd.ntmps5
    go_wp2_with fail
    refine (hR.out _).mono ?_
    rintro e w1 ⟨rfl, hk1⟩
    go_wp2_with fail
    have hK2 : Kept [] w (w1.alloc (.cells #[.int .i64 x.f.k, .int .u8 x.f.i, .int .u8 x.f.r, .int .u8 x.f.g, .int .u8 x.f.b, .int .i64 x.b.k, .int .u8 x.b.i, .int .u8 x.b.r, .int .u8 x.b.g, .int .u8 x.b.b, .int .u8 x.fl] 27)) := hk1.alloc _
    refine (hU.out _).mono ?_
    rintro e w3 ⟨rfl, hk3⟩
    have hK3 := hK2.trans hk3 (by simp)
    go_wp2_with fail
    refine (hkn.out _ hK3).mono ?_
    rintro e w5 ⟨rfl, hk5⟩
    go_wp2_with fail
    go_ret
    exact ⟨rfl, hK3.trans hk5 (by simp)⟩

set_option maxHeartbeats 4000000 in
theorem PenValid_walk (p : Pn) (hb : PnB p) (w : World) (ht : WordsAt w) : Calls Tryd.prog 3 #[.agg #[.int .i64 p.f.k, .int .u8 p.f.i, .int .u8 p.f.r, .int .u8 p.f.g, .int .u8 p.f.b, .int .i64 p.b.k, .int .u8 p.b.i, .int .u8 p.b.r, .int .u8 p.b.g, .int .u8 p.b.b, .int .u8 p.fl]] w fun e w' => e = .returned (.bool true) ∧ Kept [] w w' := by
  have hkn := hide (fun w1 hk => known_any w1 (ht.kept hk (by simp)) : ∀ w1, Kept [] w w1 → _)
  obtain ⟨vf, hvf⟩ : ∃ x, decide (colOk p.f) = x := ⟨_, rfl⟩
  have hC := hide (fun w1 => color_is p.f vf hvf w1)
  have hRC := hide (fun w1 => rcolor_is p.f vf hvf w1)
  clear hvf ht
  by_cases c : penOk p
  · have hV := hide (fun w1 => valid_is p true (decide_eq_true c) w1)
    have hRV := hide (fun w1 => rvalid_is p true (decide_eq_true c) w1)
    have hR := hide (fun w1 => rPack_ok p c hb w1)
    have hE := unpack_pack c hb
    have hB := (pack_parts c hb).2.2.2
    have hP := hide (fun w1 => packs_is p hb (packI p) 0 (by unfold packE; rw [if_pos c]) w1)
    have hU := hide (fun w1 => unpacks_is (packI p) ⟨hB.1, by omega⟩ p 0 (by unfold unpackE; rw [hE, if_pos rfl]) w1)
    clear hE hB c hb
    generalize packI p = a at *
    go_enter Tryd.func3, Tryd.ntmps3
    go_wp2_with fail
    obtain ⟨W0, hW0⟩ : ∃ x : World, x = w.alloc (.cells #[.int .i64 p.f.k, .int .u8 p.f.i, .int .u8 p.f.r, .int .u8 p.f.g, .int .u8 p.f.b, .int .i64 p.b.k, .int .u8 p.b.i, .int .u8 p.b.r, .int .u8 p.b.g, .int .u8 p.b.b, .int .u8 p.fl] 27) := ⟨_, rfl⟩
    have hk0 : Kept [] w W0 := by rw [hW0]; exact (Kept.refl [] w).alloc _
    have hp0 : Hid (PenIn W0 w.heap.size p) := hide (by rw [hW0]; exact PenIn.new w p)
    rw [← hW0]
    clear hW0
    obtain ⟨q0, q1, q2, q3, q4, q5, q6, q7, q8, q9, q10⟩ := hp0.out.at
    cases vf
    all_goals
      go_region_held3 (fun w' => w'.cell? ⟨w.heap.size, 0, none⟩ = some (.int .i64 p.f.k) ∧ w'.cell? ⟨w.heap.size, 1, none⟩ = some (.int .u8 p.f.i) ∧ w'.cell? ⟨w.heap.size, 2, none⟩ = some (.int .u8 p.f.r) ∧ w'.cell? ⟨w.heap.size, 3, none⟩ = some (.int .u8 p.f.g) ∧ w'.cell? ⟨w.heap.size, 4, none⟩ = some (.int .u8 p.f.b) ∧ w'.cell? ⟨w.heap.size, 5, none⟩ = some (.int .i64 p.b.k) ∧ w'.cell? ⟨w.heap.size, 6, none⟩ = some (.int .u8 p.b.i) ∧ w'.cell? ⟨w.heap.size, 7, none⟩ = some (.int .u8 p.b.r) ∧ w'.cell? ⟨w.heap.size, 8, none⟩ = some (.int .u8 p.b.g) ∧ w'.cell? ⟨w.heap.size, 9, none⟩ = some (.int .u8 p.b.b) ∧ w'.cell? ⟨w.heap.size, 10, none⟩ = some (.int .u8 p.fl))
        (first
          | exact (hp0.out.kept hk4 (by simp)).at
          | exact (hp0.out.kept hk3 (by simp)).at
          | exact (hp0.out.kept hk2 (by simp)).at
          | exact (hp0.out.kept hk1 (by simp)).at
          | exact (hp0.out.kept ((Kept.refl [] W0).drew) (by simp)).at)
        (first
          | (go_at_call 8; refine (hC.out W0.drew).mono ?_; rintro e w1 ⟨rfl, hj1⟩; have hk1 : Kept [] W0 w1 := (Kept.refl [] W0).drew.trans hj1 (by simp))
          | (go_at_call 9; refine (hRC.out w1).mono ?_; rintro e w2 ⟨rfl, hj2⟩; have hk2 : Kept [] W0 w2 := hk1.trans hj2 (by simp))
          | (go_at_call 10; refine (hV.out w2).mono ?_; rintro e w3 ⟨rfl, hj3⟩; have hk3 : Kept [] W0 w3 := hk2.trans hj3 (by simp))
          | (go_at_call 11; refine (hRV.out w3).mono ?_; rintro e w4 ⟨rfl, hj4⟩; have hk4 : Kept [] W0 w4 := hk3.trans hj4 (by simp)))
    all_goals
      clear q0 q1 q2 q3 q4 q5 q6 q7 q8 q9 q10
      obtain ⟨z0, z1, z2, z3, z4, z5, z6, z7, z8, z9, z10⟩ := (hp0.out.kept hk4 (by simp)).at
      have hK4 : Kept [] W0 w4 := hk4
      clear hk1 hk2 hk3 hk4 hj1 hj2 hj3 hj4
      go_wp2_with fail
      clear z0 z1 z2 z3 z4 z5 z6 z7 z8 z9 z10
      refine (hRV.out _).mono ?_
      rintro e w5 ⟨rfl, hk5⟩
      have hK5 : Kept [] W0 w5 := hK4.trans hk5 (by simp)
      clear hk5 hK4
      have hp5 := hide (hp0.out.kept hK5 (by simp))
      clear hp0
      go_wp2_with fail
      obtain ⟨q0, q1, q2, q3, q4, q5, q6, q7, q8, q9, q10⟩ := hp5.out.at
      go_region_held3 (fun w' => w'.cell? ⟨w.heap.size, 0, none⟩ = some (.int .i64 p.f.k) ∧ w'.cell? ⟨w.heap.size, 1, none⟩ = some (.int .u8 p.f.i) ∧ w'.cell? ⟨w.heap.size, 2, none⟩ = some (.int .u8 p.f.r) ∧ w'.cell? ⟨w.heap.size, 3, none⟩ = some (.int .u8 p.f.g) ∧ w'.cell? ⟨w.heap.size, 4, none⟩ = some (.int .u8 p.f.b) ∧ w'.cell? ⟨w.heap.size, 5, none⟩ = some (.int .i64 p.b.k) ∧ w'.cell? ⟨w.heap.size, 6, none⟩ = some (.int .u8 p.b.i) ∧ w'.cell? ⟨w.heap.size, 7, none⟩ = some (.int .u8 p.b.r) ∧ w'.cell? ⟨w.heap.size, 8, none⟩ = some (.int .u8 p.b.g) ∧ w'.cell? ⟨w.heap.size, 9, none⟩ = some (.int .u8 p.b.b) ∧ w'.cell? ⟨w.heap.size, 10, none⟩ = some (.int .u8 p.fl))
        (first
          | exact (hp5.out.kept hkk (by simp)).at
          | exact (hp5.out.kept hk4 (by simp)).at
          | exact (hp5.out.kept hk3 (by simp)).at
          | exact (hp5.out.kept hk2 (by simp)).at
          | exact (hp5.out.kept hk1 (by simp)).at
          | exact (hp5.out.kept ((Kept.refl [] w5).drew) (by simp)).at)
        (first
          | (go_at_call 13; refine (hkn.out wd (hk0.trans (hK5.trans hk4 (by simp)) (by simp))).mono ?_; rintro e we ⟨rfl, hje⟩; have hkk : Kept [] w5 we := hk4.trans hje (by simp))
          | (go_at_call 15; refine (hU.out wc).mono ?_; rintro e wd ⟨rfl, hjd⟩; have hk4 : Kept [] w5 wd := hk3.trans hjd (by simp))
          | (go_at_call 12; refine (hP.out wa).mono ?_; rintro e wb ⟨rfl, hjb⟩; have hk2 : Kept [] w5 wb := hk1.trans hjb (by simp))
          | (go_at_call 14; refine (hR.out wb).mono ?_; rintro e wc ⟨rfl, hjc⟩; have hk3 : Kept [] w5 wc := hk2.trans hjc (by simp))
          | (go_at_call 14; refine (hR.out w5.drew).mono ?_; rintro e wa ⟨rfl, hja⟩; have hk1 : Kept [] w5 wa := (Kept.refl [] w5).drew.trans hja (by simp)))
      go_wp2_with fail
      go_ret
      exact ⟨rfl, hk0.trans (hK5.trans hkk (by simp)) (by simp)⟩
  · have hV := hide (fun w1 => valid_is p false (decide_eq_false c) w1)
    have hRV := hide (fun w1 => rvalid_is p false (decide_eq_false c) w1)
    have hP := hide (fun w1 => packs_is p hb 0 2 (by unfold packE; rw [if_neg c]) w1)
    clear c hb
    go_enter Tryd.func3, Tryd.ntmps3
    go_wp2_with fail
    obtain ⟨W0, hW0⟩ : ∃ x : World, x = w.alloc (.cells #[.int .i64 p.f.k, .int .u8 p.f.i, .int .u8 p.f.r, .int .u8 p.f.g, .int .u8 p.f.b, .int .i64 p.b.k, .int .u8 p.b.i, .int .u8 p.b.r, .int .u8 p.b.g, .int .u8 p.b.b, .int .u8 p.fl] 27) := ⟨_, rfl⟩
    have hk0 : Kept [] w W0 := by rw [hW0]; exact (Kept.refl [] w).alloc _
    have hp0 : Hid (PenIn W0 w.heap.size p) := hide (by rw [hW0]; exact PenIn.new w p)
    rw [← hW0]
    clear hW0
    obtain ⟨q0, q1, q2, q3, q4, q5, q6, q7, q8, q9, q10⟩ := hp0.out.at
    cases vf
    all_goals
      go_region_held3 (fun w' => w'.cell? ⟨w.heap.size, 0, none⟩ = some (.int .i64 p.f.k) ∧ w'.cell? ⟨w.heap.size, 1, none⟩ = some (.int .u8 p.f.i) ∧ w'.cell? ⟨w.heap.size, 2, none⟩ = some (.int .u8 p.f.r) ∧ w'.cell? ⟨w.heap.size, 3, none⟩ = some (.int .u8 p.f.g) ∧ w'.cell? ⟨w.heap.size, 4, none⟩ = some (.int .u8 p.f.b) ∧ w'.cell? ⟨w.heap.size, 5, none⟩ = some (.int .i64 p.b.k) ∧ w'.cell? ⟨w.heap.size, 6, none⟩ = some (.int .u8 p.b.i) ∧ w'.cell? ⟨w.heap.size, 7, none⟩ = some (.int .u8 p.b.r) ∧ w'.cell? ⟨w.heap.size, 8, none⟩ = some (.int .u8 p.b.g) ∧ w'.cell? ⟨w.heap.size, 9, none⟩ = some (.int .u8 p.b.b) ∧ w'.cell? ⟨w.heap.size, 10, none⟩ = some (.int .u8 p.fl))
        (first
          | exact (hp0.out.kept hk4 (by simp)).at
          | exact (hp0.out.kept hk3 (by simp)).at
          | exact (hp0.out.kept hk2 (by simp)).at
          | exact (hp0.out.kept hk1 (by simp)).at
          | exact (hp0.out.kept ((Kept.refl [] W0).drew) (by simp)).at)
        (first
          | (go_at_call 8; refine (hC.out W0.drew).mono ?_; rintro e w1 ⟨rfl, hj1⟩; have hk1 : Kept [] W0 w1 := (Kept.refl [] W0).drew.trans hj1 (by simp))
          | (go_at_call 9; refine (hRC.out w1).mono ?_; rintro e w2 ⟨rfl, hj2⟩; have hk2 : Kept [] W0 w2 := hk1.trans hj2 (by simp))
          | (go_at_call 10; refine (hV.out w2).mono ?_; rintro e w3 ⟨rfl, hj3⟩; have hk3 : Kept [] W0 w3 := hk2.trans hj3 (by simp))
          | (go_at_call 11; refine (hRV.out w3).mono ?_; rintro e w4 ⟨rfl, hj4⟩; have hk4 : Kept [] W0 w4 := hk3.trans hj4 (by simp)))
    all_goals
      clear q0 q1 q2 q3 q4 q5 q6 q7 q8 q9 q10
      obtain ⟨z0, z1, z2, z3, z4, z5, z6, z7, z8, z9, z10⟩ := (hp0.out.kept hk4 (by simp)).at
      have hK4 : Kept [] W0 w4 := hk4
      clear hk1 hk2 hk3 hk4 hj1 hj2 hj3 hj4
      go_wp2_with fail
      clear z0 z1 z2 z3 z4 z5 z6 z7 z8 z9 z10
      refine (hRV.out _).mono ?_
      rintro e w5 ⟨rfl, hk5⟩
      have hK5 : Kept [] W0 w5 := hK4.trans hk5 (by simp)
      clear hk5 hK4
      obtain ⟨z0, z1, z2, z3, z4, z5, z6, z7, z8, z9, z10⟩ := (hp0.out.kept hK5 (by simp)).at
      go_wp2_with fail
      clear z0 z1 z2 z3 z4 z5 z6 z7 z8 z9 z10
      refine (hP.out _).mono ?_
      rintro e w6 ⟨rfl, hk6⟩
      have hK6 : Kept [] w w6 := hk0.trans (hK5.trans hk6 (by simp)) (by simp)
      go_wp2_with fail
      refine (hkn.out _ hK6).mono ?_
      rintro e w7 ⟨rfl, hk7⟩
      go_wp2_with fail
      go_ret
      exact ⟨rfl, hK6.trans hk7 (by simp)⟩
end Go.Proofs.YtjhekofnecojkaaDoor
