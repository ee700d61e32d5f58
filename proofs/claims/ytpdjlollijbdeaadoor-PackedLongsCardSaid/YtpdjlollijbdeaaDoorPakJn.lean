/- Joining runs. -/
import Derived.Test.YtpdjlollijbdeaaDoorPakPk
namespace Go.Proofs.YtpdjlollijbdeaaDoor
open Go.RowKit
set_option linter.unusedVariables false
set_option maxRecDepth 10000

set_option maxHeartbeats 4000000 in
theorem Join5_any (a1 : Option Addr) (n1 c1 : Nat) (x : List Ru) (a2 : Option Addr) (n2 c2 : Nat) (y : List Ru) (hBx : ∀ r ∈ x, RuB r) (hBy : ∀ r ∈ y, RuB r) (w : World) (ht : Tabs w) (hr1 : Rd w a1 n1 4 (runsV x)) (hr2 : Rd w a2 n2 4 (runsV y)) (hn1 : n1 ≤ 100000) (hn2 : n2 ≤ 100000) :
    Calls Tryd.prog 37 #[.slice a1 n1 c1, .slice a2 n2 c2] w (RunsRet w (joinR x y)) := by
  have hl1 := hide hr1.runs
  have hl := hide hr2.runs
  have hH1 := hide hr1
  have hH := hide hr2
  have hT1 := hide (total_any a1 n1 c1 x hBx w ht hr1 (by omega))
  have hT2 := hide (fun w1 (hk : Kept [] w w1) => total_any a2 n2 c2 y hBy w1 (ht.kept hk) (hr2.kept hk (by simp)) (by omega))
  have hP : Hid (joinR x y = if (totI x).2 = false ∨ (totI y).2 = false then ([], 12) else if 100000 < (totI x).1 + (totI y).1 then ([], 5) else (y.foldl addRun x, 0)) := hide rfl
  have hBB := hide hBy
  generalize joinR x y = R at *
  clear hr1 hr2 ht hBx hBy
  cases hok1 : (totI x).2
  · obtain rfl : R = ([], 12) := by rw [hP.out, if_pos (.inl hok1)]
    rw [totI_false hok1] at hT1
    generalize totI y = Y at *
    simp only at hT1
    go_enter Tryd.func37, Tryd.ntmps37
    go_wp2_with fail
    refine hT1.out.mono ?_
    rintro e w1 ⟨rfl, hk1⟩
    go_wp2_with fail
    refine (hT2.out w1 hk1).mono ?_
    rintro e w2 ⟨rfl, hk2⟩
    go_wp2_with fail
    go_ret2
    exact ⟨none, 0, 0, rfl, Own.nil _ _ _ _, hk1.trans hk2 (by simp)⟩
  · obtain ⟨p1, hp1⟩ := totI_true hok1
    have hi1 : totI x = ((totI x).1, true) := by rw [← hok1]
    rw [hi1] at hT1
    cases hok2 : (totI y).2
    · obtain rfl : R = ([], 12) := by rw [hP.out, if_pos (.inr hok2)]
      rw [totI_false hok2] at hT2
      generalize (totI x).1 = X1 at *
      simp only at hT1 hT2
      go_enter Tryd.func37, Tryd.ntmps37
      go_wp2_with fail
      refine hT1.out.mono ?_
      rintro e w1 ⟨rfl, hk1⟩
      go_wp2_with fail
      refine (hT2.out w1 hk1).mono ?_
      rintro e w2 ⟨rfl, hk2⟩
      go_wp2_with fail
      go_ret2
      exact ⟨none, 0, 0, rfl, Own.nil _ _ _ _, hk1.trans hk2 (by simp)⟩
    · obtain ⟨p2, hp2⟩ := totI_true hok2
      have hi2 : totI y = ((totI y).1, true) := by rw [← hok2]
      rw [hi2] at hT2
      have g1 := (tot_right hp1).ge
      have e1 := (tot_right hp1).le
      have g2 := (tot_right hp2).ge
      have e2 := (tot_right hp2).le
      have hP2 : Hid (R = if 100000 < (totI x).1 + (totI y).1 then ([], 5) else (y.foldl addRun x, 0)) := hide (by rw [hP.out, if_neg (by rw [hok1, hok2]; simp)])
      have hmem := hide (fun k hk => join_mem hp1 hp2 k hk)
      have hfy := hide ((tot_right hp2).fine)
      clear hi1 hi2 hP hok1 hok2
      generalize (totI x).1 = X1 at *
      generalize (totI y).1 = X2 at *
      simp only at hT1 hT2
      by_cases hb : 100000 < X1 + X2
      · obtain rfl : R = ([], 5) := by rw [hP2.out, if_pos hb]
        go_enter Tryd.func37, Tryd.ntmps37
        go_wp2_with fail
        refine hT1.out.mono ?_
        rintro e w1 ⟨rfl, hk1⟩
        go_wp2_with fail
        refine (hT2.out w1 hk1).mono ?_
        rintro e w2 ⟨rfl, hk2⟩
        go_wp2_with fail
        go_ret2
        exact ⟨none, 0, 0, rfl, Own.nil _ _ _ _, hk1.trans hk2 (by simp)⟩
      · obtain rfl : R = (y.foldl addRun x, 0) := by rw [hP2.out, if_neg hb]
        have hb' : X1 + X2 ≤ 100000 := by omega
        clear hP2 hb
        go_enter Tryd.func37, Tryd.ntmps37
        go_wp2_with fail
        refine hT1.out.mono ?_
        rintro e w1 ⟨rfl, hk1⟩
        go_wp2_with fail
        refine (hT2.out w1 hk1).mono ?_
        rintro e w2 ⟨rfl, hj2⟩
        have hk2 := hk1.trans hj2 (by simp)
        have hC := hide (RClone_any a1 n1 c1 x w2 (hH1.out.kept hk2 (by simp)) (by omega))
        clear hj2 hk1 hT1 hT2
        go_wp2_with fail
        refine hC.out.mono ?_
        rintro e w3 ⟨a3, c3, rfl, ho3, hj3⟩
        have hk3 := hk2.trans hj3 (by simp)
        have ho3 := hide (ho3.base hk2.size)
        clear hj3 hC
        go_wp2_with fail
        go_loopg [10, 12, 39, 40, 41, 42, 43, 44, 45, 46] n2 (fun kx s10 s12 s39 s40 s41 s42 s43 s44 s45 s46 wr => ∃ (k : Nat) (a' : Option Addr) (n' c' : Nat), s10 = .slice a' n' c' ∧ s39 = .int .i64 k ∧ k ≤ n2 ∧ n2 - k ≤ kx ∧ Hid (Own wr w.heap.size 67 a' n' c' 4 (runsV ((y.take k).foldl addRun x))) ∧ Kept [] w wr)
        case atStart => exact ⟨0, a3, n1, c3, rfl, rfl, Nat.zero_le _, by omega, hide (by simpa using ho3.out), hk3⟩
        case round =>
          obtain ⟨k, a', n', c', rfl, rfl, hk, hg, ho, hkr⟩ := hrel
          by_cases hlt : k < n2
          · have hkl : k < y.length := by rw [hl.out]; exact hlt
            obtain ⟨b, o, rfl⟩ := hH.out.runAddr (by omega)
            obtain ⟨q0, q1, q2, q3⟩ := (hH.out.run k hkl).kept hkr (by simp)
            have hkn : (k : Int) < (n2 : Int) := by omega
            have hxB := hBB.out y[k] (List.getElem_mem hkl)
            have hnext := hide (join_take (x := x) hkl)
            have hm1 := hmem.out k (by omega)
            have hz := hfy.out.mem y[k] (List.getElem_mem hkl)
            have hlen := join_len (x := x) (y := y) k (by omega)
            have hrl := ho.out.rd.runs
            have hx1 := hl1.out
            have hyb : ∀ q ∈ (y.take k).foldl addRun x, I64 (q.n + y[k].n) := fun q hq => by have := hm1 q hq; exact ⟨by omega, by omega⟩
            generalize y[k] = z at *
            have ho1 := ho.out.kept ((Kept.refl [] wr).alloc (.cells #[.int .i64 z.n, .int .u64 z.w.a, .int .u64 z.w.b, .int .u64 z.w.c] 67)) (by simp)
            have hkr1 : Kept [] w (wr.alloc (.cells #[.int .i64 z.n, .int .u64 z.w.a, .int .u64 z.w.b, .int .u64 z.w.c] 67)) := hkr.alloc _
            have hA := hide (appendRun_any a' n' c' w.heap.size _ z _ ho1 (fun q hq => hyb q hq) (by omega) hkr1.size)
            have hge := hide (fun g hg => (ho.out.ge g hg).1 : ∀ g ∈ blk a', w.heap.size ≤ g)
            clear ho1 ho hm1 hz hlen hrl hx1 hyb
            go_wp2_with fail
            refine hA.out.mono ?_
            rintro e w5 ⟨a5, n5, c5, rfl, ho5, hk5, hat5⟩
            go_wp2_with fail
            go_roundg (n2 - (k + 1))
            case measure => omega
            case rel => exact ⟨k + 1, a5, n5, c5, rfl, by push_cast; rfl, by omega, Nat.le_refl _, hide (by rw [hnext.out]; exact ho5), hkr1.own hk5 (fun g hg => hge.out g hg)⟩
          · obtain rfl : k = n2 := by omega
            go_wp2_with fail
            go_ret2
            have e : y.take k = y := List.take_of_length_le (Nat.le_of_eq hl.out)
            rw [e] at ho
            exact ⟨a', n', c', rfl, ho.out, hkr⟩
end Go.Proofs.YtpdjlollijbdeaaDoor
