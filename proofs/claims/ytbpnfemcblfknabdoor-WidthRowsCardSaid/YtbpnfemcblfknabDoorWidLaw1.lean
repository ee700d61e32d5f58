/- The walks of WidthOf and WidthRows. -/
import Derived.Test.YtbpnfemcblfknabDoorWidROf
import Derived.Test.YtbpnfemcblfknabDoorWidKnown
namespace Go.Proofs.YtbpnfemcblfknabDoor
open Go.RowKit
set_option linter.unusedVariables false

theorem of_two (r : Int) (w : World) (ht : Tabs w) : ∃ v : Int, (∀ w1, Kept [] w w1 → Calls Tryd.prog 7 #[.int .i32 r] w1 fun e w' => e = .returned (.int .i64 v) ∧ Kept [] w1 w') ∧ ∀ w1, Calls Tryd.prog 8 #[.int .i32 r] w1 fun e w' => e = .returned (.int .i64 v) ∧ Kept [] w1 w' :=
  ⟨ofI r, fun w1 hk => of_any r w1 (ht.kept hk), fun w1 => rof_any r w1⟩

set_option maxHeartbeats 2000000 in
theorem WidthOf_walk (r : Int) (w : World) (ht : Tabs w) : Calls Tryd.prog 3 #[.int .i32 r] w fun e w' => e = .returned (.bool true) ∧ Kept [] w w' := by
  obtain ⟨v1, a1, b1⟩ := of_two r w ht
  have ha1 := hide a1
  have hb1 := hide b1
  obtain ⟨v2, a2, b2⟩ := of_two (wrap32 (r - 1)) w ht
  have ha2 := hide a2
  have hb2 := hide b2
  obtain ⟨v3, a3, b3⟩ := of_two (wrap32 (r + 1)) w ht
  have ha3 := hide a3
  have hb3 := hide b3
  have hkn := hide (fun w1 hk => known_any w1 (ht.kept hk) : ∀ w1, Kept [] w w1 → _)
  clear a1 b1 a2 b2 a3 b3 ht
  go_enter Tryd.func3, Tryd.ntmps3
  go_wp2_with fail
  refine (ha1.out _ (Kept.refl _ _)).mono ?_
  rintro e w1 ⟨rfl, hk1⟩
  go_wp2_with fail
  refine (hb1.out _).mono ?_
  rintro e w2 ⟨rfl, hk2⟩
  have hK2 : Kept [] w w2 := hk1.trans hk2 (by simp)
  clear hk1 hk2
  go_wp2_with fail
  refine (ha2.out _ hK2).mono ?_
  rintro e w3 ⟨rfl, hk3⟩
  go_wp2_with fail
  refine (hb2.out _).mono ?_
  rintro e w4 ⟨rfl, hk4⟩
  have hK4 : Kept [] w w4 := hK2.trans (hk3.trans hk4 (by simp)) (by simp)
  clear hk3 hk4 hK2
  go_wp2_with fail
  refine (ha3.out _ hK4).mono ?_
  rintro e w5 ⟨rfl, hk5⟩
  go_wp2_with fail
  refine (hb3.out _).mono ?_
  rintro e w6 ⟨rfl, hk6⟩
  have hK6 : Kept [] w w6 := hK4.trans (hk5.trans hk6 (by simp)) (by simp)
  clear hk5 hk6 hK4
  go_wp2_with fail
  refine (hkn.out _ hK6).mono ?_
  rintro e w7 ⟨rfl, hk7⟩
  go_wp2_with fail
  go_ret
  exact ⟨rfl, hK6.trans hk7 (by simp)⟩

set_option maxHeartbeats 2000000 in
theorem WidthRows_walk (row : Int) (w : World) (h0 : 0 ≤ row ∧ row ≤ 65535) (ht : Tabs w) : Calls Tryd.prog 4 #[.int .u16 row] w fun e w' => e = .returned (.bool true) ∧ Kept [] w w' := by
  have hof := hide (fun r w1 hk => of_two r w1 (ht.kept hk) : ∀ r w1, Kept [] w w1 → _)
  have hkn := hide (fun w1 hk => known_any w1 (ht.kept hk) : ∀ w1, Kept [] w w1 → _)
  have h1 := h0.1
  have h2 := h0.2
  clear ht h0
  by_cases hb : 4352 < row
  · go_enter Tryd.func4, Tryd.ntmps4
    go_wp2_with fail
    refine (hkn.out _ (Kept.refl _ _)).mono ?_
    rintro e w1 ⟨rfl, hk1⟩
    go_wp2_with fail
    go_ret
    exact ⟨rfl, hk1⟩
  · go_enter Tryd.func4, Tryd.ntmps4
    go_wp2_with fail
    go_loopg [3] 256 (fun kx s3 wr => ∃ k : Nat, s3 = .int .i64 k ∧ k ≤ 256 ∧ 256 - k ≤ kx ∧ Kept [] w wr)
    case atStart => exact ⟨0, rfl, Nat.zero_le _, by omega, Kept.refl _ _⟩
    case round =>
      obtain ⟨k, rfl, hk, hg, hkr⟩ := hrel
      by_cases hlt : k < 256
      · have hkn2 : (k : Int) < 256 := by omega
        go_wp2_with fail
        obtain ⟨v, a1, b1⟩ := hof.out (row * 256 + (k : Int)) wr hkr
        generalize row * 256 + (k : Int) = r at *
        have hb1 := hide b1
        refine (a1 _ (Kept.refl _ _)).mono ?_
        rintro e w1 ⟨rfl, hk1⟩
        clear a1 b1
        go_wp2_with fail
        refine (hb1.out _).mono ?_
        rintro e w2 ⟨rfl, hk2⟩
        go_wp2_with fail
        go_roundg (256 - (k + 1))
        case measure => omega
        case rel => exact ⟨k + 1, by push_cast; rfl, by omega, Nat.le_refl _, hkr.trans (hk1.trans hk2 (by simp)) (by simp)⟩
      · obtain rfl : k = 256 := by omega
        go_wp2_with fail
        refine (hkn.out _ hkr).mono ?_
        rintro e w1 ⟨rfl, hk1⟩
        go_wp2_with fail
        go_ret
        exact ⟨rfl, hkr.trans hk1 (by simp)⟩
end Go.Proofs.YtbpnfemcblfknabDoor
