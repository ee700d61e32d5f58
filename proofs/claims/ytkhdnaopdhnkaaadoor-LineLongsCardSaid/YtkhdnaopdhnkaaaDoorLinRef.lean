/- The reference's functions of layer 6: Columns, Valid, Used, Same, Copy, Trim, Text. -/
import Derived.Test.YtkhdnaopdhnkaaaDoorLinMem
import Derived.Test.YtkhdnaopdhnkaaaDoorCelRr
namespace Go.Proofs.YtkhdnaopdhnkaaaDoor
open Go.RowKit
set_option linter.unusedVariables false
set_option maxRecDepth 100000

theorem rColumns_any (n : Int) (w : World) : Calls Tryd.prog 10 #[.int .i64 n] w fun e w' => e = .returned (.bool (decide (0 ≤ n ∧ n ≤ 1000))) ∧ w' = w := by
  by_cases h0 : 0 ≤ n
  · go_enter Tryd.func10, Tryd.ntmps10
    go_wp2_with fail
    go_ret
    exact ⟨ret_bool (by simp [h0]), rfl⟩
  · have h1 : n < 0 := by omega
    go_enter Tryd.func10, Tryd.ntmps10
    go_wp2_with fail
    go_ret
    exact ⟨ret_bool (by simp; omega), rfl⟩

set_option maxHeartbeats 1000000 in
theorem rValid6_any (a : Option Addr) (n c : Nat) (s : Bool) (l : List Cl) (w : World) (hr : Rd w a n 16 (cellsV l)) :
    Calls Tryd.prog 14 #[.agg #[.slice a n c, .bool s]] w fun e w' => e = .returned (.bool (validL l)) ∧ Kept [] w w' := by
  have hl := hr.clen
  have hk0 : Kept [] w (w.alloc (.cells #[.slice a n c, .bool s] 27)) := (Kept.refl [] w).alloc _
  have hC := hide (fun w1 => rColumns_any (n : Int) w1)
  by_cases hn : n ≤ 1000
  · have hR := hide (rRow_any a n c l _ (hr.kept hk0 (by simp)) hn)
    have hV : validL l = rowI l := by unfold validL; rw [decide_eq_true (by omega), Bool.true_and]
    rw [hV]
    rw [decide_eq_true (by omega)] at hC
    clear hr
    go_enter Tryd.func14, Tryd.ntmps14
    go_wp2_with fail
    refine (hC.out _).mono ?_
    rintro e w1 ⟨rfl, rfl⟩
    go_wp2_with fail
    refine hR.out.mono ?_
    rintro e w1 ⟨rfl, hk1⟩
    go_wp2_with fail
    go_ret
    exact ⟨rfl, hk0.trans hk1 (by simp)⟩
  · have hV : validL l = false := by unfold validL; rw [decide_eq_false (by omega), Bool.false_and]
    rw [hV]
    rw [decide_eq_false (by omega)] at hC
    clear hr
    go_enter Tryd.func14, Tryd.ntmps14
    go_wp2_with fail
    refine (hC.out _).mono ?_
    rintro e w1 ⟨rfl, rfl⟩
    go_wp2_with fail
    go_ret
    exact ⟨rfl, hk0⟩

set_option maxHeartbeats 2000000 in
theorem rUsed_any (a : Option Addr) (n c : Nat) (s : Bool) (l : List Cl) (w : World) (hr : Rd w a n 16 (cellsV l)) (hn : n ≤ 1000000) :
    Calls Tryd.prog 21 #[.agg #[.slice a n c, .bool s]] w fun e w' => e = .returned (.int .i64 (usedI l : Nat)) ∧ Kept [] w w' := by
  have hl := hide hr.clen
  obtain ⟨W0, hW0⟩ : ∃ z : World, z = w.alloc (.cells #[.slice a n c, .bool s] 27) := ⟨_, rfl⟩
  have hk0 : Kept [] w W0 := by rw [hW0]; exact (Kept.refl [] w).alloc _
  have hb0 : Hid (LinIn W0 w.heap.size a n c s) := hide (by rw [hW0]; exact LinIn.new w a n c s)
  have hH := hide (hr.kept hk0 (by simp))
  have hU : Hid (usedI l = usedI (l.take l.length)) := hide (used_all l)
  generalize usedI l = U at *
  clear hr
  go_enter Tryd.func21, Tryd.ntmps21
  go_upto_region 1 with fail
  rw [← hW0]
  clear hW0
  go_wp2_with fail
  go_loopg [3, 4, 5, 6, 7, 8, 9, 10, 11, 12, 13, 14, 15, 16, 17, 18, 19, 20] n (fun kx s3 s4 s5 s6 s7 s8 s9 s10 s11 s12 s13 s14 s15 s16 s17 s18 s19 s20 wr => ∃ (i u : Nat), s3 = .int .i64 u ∧ s4 = .int .i64 i ∧ i ≤ n ∧ n - i ≤ kx ∧ Hid (u = usedI (l.take i)) ∧ Kept [] W0 wr)
  case atStart => exact ⟨0, 0, rfl, rfl, Nat.zero_le _, by omega, hide rfl, Kept.refl _ _⟩
  case round =>
    obtain ⟨i, u, rfl, rfl, hi, hg, hu, hkr⟩ := hrel
    obtain ⟨q0, q1⟩ := (hb0.out.kept hkr (by simp)).at
    by_cases hlt : i < n
    · have hil : i < l.length := by rw [hl.out]; exact hlt
      have hin : (i : Int) < (n : Int) := by omega
      obtain ⟨b, o, rfl⟩ := hH.out.addr (fun h => by rw [h] at hil; cases hil)
      have r1 := (hH.out.cel i hil).kept hkr (by simp)
      have hnx := hide (used_take (l := l) hil)
      generalize l[i] = x at *
      by_cases hx0 : x = eC
      · have hq : ∀ w, (binOp .neq 60 (.agg #[.int .i32 x.r, .int .i32 x.m0, .int .i32 x.m1, .int .i32 x.m2, .int .i64 x.w, .int .i64 x.p.f.k, .int .u8 x.p.f.i, .int .u8 x.p.f.r, .int .u8 x.p.f.g, .int .u8 x.p.f.b, .int .i64 x.p.b.k, .int .u8 x.p.b.i, .int .u8 x.p.b.r, .int .u8 x.p.b.g, .int .u8 x.p.b.b, .int .u8 x.p.fl]) (.agg #[.int .i32 0, .int .i32 0, .int .i32 0, .int .i32 0, .int .i64 1, .int .i64 0, .int .u8 0, .int .u8 0, .int .u8 0, .int .u8 0, .int .i64 0, .int .u8 0, .int .u8 0, .int .u8 0, .int .u8 0, .int .u8 0])).run Tryd.prog w = .ok (.bool false) w := fun w => (neq_E x w).trans (by rw [decide_eq_true hx0]; rfl)
        have hx := hide hx0
        clear hx0
        go_wp2_with (refine wpList_load_cel rfl rfl b (o + i * 16) rfl r1 ?_)
        go_roundg (n - (i + 1))
        case measure => omega
        case rel => exact ⟨i + 1, u, rfl, by push_cast; rfl, by omega, Nat.le_refl _, hide (by rw [hnx.out, if_pos hx.out]; exact hu.out), hkr⟩
      · have hq : ∀ w, (binOp .neq 60 (.agg #[.int .i32 x.r, .int .i32 x.m0, .int .i32 x.m1, .int .i32 x.m2, .int .i64 x.w, .int .i64 x.p.f.k, .int .u8 x.p.f.i, .int .u8 x.p.f.r, .int .u8 x.p.f.g, .int .u8 x.p.f.b, .int .i64 x.p.b.k, .int .u8 x.p.b.i, .int .u8 x.p.b.r, .int .u8 x.p.b.g, .int .u8 x.p.b.b, .int .u8 x.p.fl]) (.agg #[.int .i32 0, .int .i32 0, .int .i32 0, .int .i32 0, .int .i64 1, .int .i64 0, .int .u8 0, .int .u8 0, .int .u8 0, .int .u8 0, .int .i64 0, .int .u8 0, .int .u8 0, .int .u8 0, .int .u8 0, .int .u8 0])).run Tryd.prog w = .ok (.bool true) w := fun w => (neq_E x w).trans (by rw [decide_eq_false hx0]; rfl)
        have hx := hide hx0
        clear hx0
        go_wp2_with (refine wpList_load_cel rfl rfl b (o + i * 16) rfl r1 ?_)
        go_roundg (n - (i + 1))
        case measure => omega
        case rel => exact ⟨i + 1, i + 1, by push_cast; rfl, by push_cast; rfl, by omega, Nat.le_refl _, hide (by rw [hnx.out, if_neg hx.out]), hkr⟩
    · obtain rfl : i = n := by omega
      go_wp2_with fail
      go_ret
      refine ⟨?_, hk0.trans hkr (by simp)⟩
      rw [hU.out, hl.out, ← hu.out]
      rfl

set_option maxHeartbeats 1000000 in
theorem rSame6_any (a : Option Addr) (n c : Nat) (s : Bool) (l : List Cl) (a2 : Option Addr) (n2 c2 : Nat) (s2 : Bool) (m : List Cl) (w : World) (hr : Rd w a n 16 (cellsV l)) (hr2 : Rd w a2 n2 16 (cellsV m)) (hn : n ≤ 1000000) :
    Calls Tryd.prog 25 #[.agg #[.slice a n c, .bool s], .agg #[.slice a2 n2 c2, .bool s2]] w fun e w' => e = .returned (.bool (decide (s = s2 ∧ l = m))) ∧ Kept [] w w' := by
  have hk0 : Kept [] w ((w.alloc (.cells #[.slice a n c, .bool s] 27)).alloc (.cells #[.slice a2 n2 c2, .bool s2] 27)) := ((Kept.refl [] w).alloc _).alloc _
  have hS := hide (Same_big a n c l a2 n2 c2 m _ (hr.kept hk0 (by simp)) (hr2.kept hk0 (by simp)) hn)
  clear hr hr2
  by_cases hs : s = s2
  · subst hs
    have e : decide (s = s ∧ l = m) = decide (l = m) := by simp
    rw [e]
    have hb : (s == s) = true := by simp
    go_enter Tryd.func25, Tryd.ntmps25
    go_wp2_with fail
    refine hS.out.mono ?_
    rintro e w1 ⟨rfl, hk1⟩
    go_wp2_with fail
    go_ret
    exact ⟨rfl, hk0.trans hk1 (by simp)⟩
  · have e : decide (s = s2 ∧ l = m) = false := by simp [hs]
    rw [e]
    have hb : (s == s2) = false := by simpa using hs
    clear hs
    go_enter Tryd.func25, Tryd.ntmps25
    go_wp2_with fail
    go_ret
    exact ⟨rfl, hk0⟩
end Go.Proofs.YtkhdnaopdhnkaaaDoor
