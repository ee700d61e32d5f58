/- How many cells runs are, and whether they are right. -/
import Derived.Test.YtpdjlollijbdeaaDoorPakCell
import Derived.Test.YtpdjlollijbdeaaDoorPakSame
namespace Go.Proofs.YtpdjlollijbdeaaDoor
open Go.RowKit
set_option linter.unusedVariables false
set_option maxRecDepth 10000

theorem RunIn.at' {S : List Nat} {w w' : World} {b : Nat} {r : Ru} (h : RunIn w b r) (hk : Kept S w w') (hb : b ∉ S) : RunAt w' b r := (h.kept hk hb).at

set_option maxHeartbeats 4000000 in
theorem total_any (a : Option Addr) (n c : Nat) (l : List Ru) (hB : ∀ r ∈ l, RuB r) (w : World) (ht : Tabs w) (hr : Rd w a n 4 (runsV l)) (hn : n ≤ 1000000) :
    Calls Tryd.prog 35 #[.slice a n c] w fun e w' => e = .returned (.tuple #[.int .i64 (totI l).1, .bool (totI l).2]) ∧ Kept [] w w' := by
  have hl := hr.runs
  have hH := hide hr
  have hC := hide (fun (x : W3) hb w1 (hk : Kept [] w w1) => Cell_any x hb w1 (ht.kept hk))
  have hBB := hide hB
  have hfail := hide (fun k h => totI_fail (totT_fail (l := l) (k := k) h))
  have hsome := hide (fun nn p h => totI_some (l := l) (n := nn) (p := p) h)
  clear hr ht hB
  generalize totI l = R at *
  go_enter Tryd.func35, Tryd.ntmps35
  go_wp2_with fail
  have hl := hide hl
  go_loopg [4, 5, 6, 7, 8, 11, 12, 13, 14, 15, 16, 17, 18, 19, 20, 21, 22, 23, 24, 25, 26, 27, 28, 29, 30, 31, 32, 33, 34, 35, 36, 37, 38, 39, 40, 41, 42, 43, 44, 45, 46, 47, 48, 49, 50, 51, 52, 53, 54, 55] n (fun kx s4 s5 s6 s7 s8 s11 s12 s13 s14 s15 s16 s17 s18 s19 s20 s21 s22 s23 s24 s25 s26 s27 s28 s29 s30 s31 s32 s33 s34 s35 s36 s37 s38 s39 s40 s41 s42 s43 s44 s45 s46 s47 s48 s49 s50 s51 s52 s53 s54 s55 wr => ∃ (k : Nat) (nn : Int), s4 = .int .i64 nn ∧ s11 = .int .i64 k ∧ k ≤ n ∧ n - k ≤ kx ∧ 0 ≤ nn ∧ nn ≤ 100000 ∧ Hid (totT (l.take k) = some (nn, prevW l k)) ∧ Kept [] w wr)
  case atStart => exact ⟨0, 0, rfl, rfl, Nat.zero_le _, by omega, by omega, by omega, hide rfl, Kept.refl _ _⟩
  case round =>
    obtain ⟨k, nn, rfl, rfl, hk, hg, hn0, hn1, hT, hkr⟩ := hrel
    by_cases hlt : k < n
    · have hkl : k < l.length := by rw [hl.out]; exact hlt
      obtain ⟨b, o, rfl⟩ := hH.out.runAddr (by omega)
      obtain ⟨q0, q1, q2, q3⟩ := (hH.out.run k hkl).kept hkr (by simp)
      have hkn : (k : Int) < (n : Int) := by omega
      have hstep := hide (totT_take (l := l) hkl)
      rw [hT.out] at hstep
      have hxB := hBB.out l[k] (List.getElem_mem hkl)
      have hprev : prevW l (k + 1) = some l[k].w := by simp [prevW, List.getElem?_eq_getElem hkl]
      generalize hx : l[k] = x at *
      have hx' := hide hx
      clear hx
      have hCx := hide (fun w1 hk => hC.out x.w hxB.w w1 hk)
      have hok := hide (show cellE x.w = if okW x.w = true then (cellU x.w, 0) else (zeroK, 12) from rfl)
      generalize cellE x.w = E at *
      obtain ⟨E1, E2⟩ := E
      simp only at hCx
      have hkr0 : Kept [] w (wr.alloc (.cells #[.int .i64 x.n, .int .u64 x.w.a, .int .u64 x.w.b, .int .u64 x.w.c] 67)) := hkr.alloc _
      have hbx : Hid (RunIn (wr.alloc (.cells #[.int .i64 x.n, .int .u64 x.w.a, .int .u64 x.w.b, .int .u64 x.w.c] 67)) wr.heap.size x) := hide (RunIn.new wr x)
      go_upto_region 5 with fail
      obtain ⟨y0, y1, y2, y3⟩ := hbx.out.at
      go_wp2_with fail
      refine (hCx.out _ hkr0).mono ?_
      rintro e w2 ⟨rfl, hj2⟩
      have hk2 := hkr0.trans hj2 (by simp)
      have hk2r : Kept [] wr w2 := ((Kept.refl [] wr).alloc _).trans hj2 (by simp)
      clear y0 y1 y2 y3
      have hz2 := CelIn.new w2 zeroK
      go_upto_region 6 with (refine wpList_store_cel rfl rfl rfl w2.heap.size rfl hz2 E1 rfl ?_; intro w3 hc3 hj3)
      have hk23 : Kept [] w2 w3 := ((Kept.refl [] w2).alloc _).trans hj3 (by intro z hz; simp at hz; omega)
      have hk3 := hk2.trans hk23 (by simp)
      have hk3r := hk2r.trans hk23 (by simp)
      obtain ⟨y0, y1, y2, y3⟩ := (hbx.out.kept hj2 (by simp)).at' hk23 (by simp)
      clear hz2 hc3 hj3 hj2 hkr0 hk2 hk2r hk23 q0 q1 q2 q3
      by_cases h1 : x.n < 1
      · have hbad := hide (hfail.out (k + 1) (by rw [hstep.out]; exact step_bad (.inl h1)))
        go_wp2_with fail
        go_ret2
        exact ⟨by rw [hbad.out]; rfl, hk3⟩
      · have h1' : 1 ≤ x.n := by omega
        have hi := hxB.n.2
        by_cases h2 : 100000 - nn < x.n
        · have hbad := hide (hfail.out (k + 1) (by rw [hstep.out]; exact step_bad (.inr (.inl h2))))
          go_wp2_with fail
          go_ret2
          exact ⟨by rw [hbad.out]; rfl, hk3⟩
        · have h2' : x.n ≤ 100000 - nn := by omega
          go_upto_region 8 with fail
          cases ho : okW x.w
          · have e2 : E2 = 12 := by
              have := hok.out
              rw [ho] at this
              simp at this
              exact this.2
            subst e2
            have hbad := hide (hfail.out (k + 1) (by rw [hstep.out]; exact step_bad (.inr (.inr (.inl ho)))))
            go_quiet (fail)
            go_wp2_with fail
            go_ret2
            exact ⟨by rw [hbad.out]; rfl, hk3.drewN _⟩
          · have e2 : E2 = 0 := by
              have := hok.out
              rw [ho] at this
              simp at this
              exact this.2
            subst e2
            rcases k with _ | j
            · go_quiet (fail)
              have hnext := hide (hstep.out.trans (step_ok h1' (by omega) ho (by simp [prevW])))
              go_wp2_with fail
              go_roundg (n - (0 + 1))
              case measure => omega
              case rel => exact ⟨1, nn + x.n, rfl, rfl, by omega, by omega, by omega, by omega, hide (by rw [hnext.out, hprev]), hk3.drewN _⟩
            · have hjl : j < l.length := by omega
              obtain ⟨p0, p1, p2, p3⟩ := ((hH.out.run j hjl).kept hkr (by simp)).kept hk3r (by simp)
              have hp : prevW l (j + 1) = some l[j].w := by simp [prevW, List.getElem?_eq_getElem hjl]
              generalize l[j] = z at *
              have hjn : (j : Int) < (n : Int) := by omega
              have hj1 : decide ((0 : Int) < (j : Int) + 1) = true := decide_eq_true (by omega)
              by_cases hw0 : x.w = z.w
              · have hq : ∀ w, (binOp .eql 34 (.agg #[.int .u64 x.w.a, .int .u64 x.w.b, .int .u64 x.w.c]) (.agg #[.int .u64 z.w.a, .int .u64 z.w.b, .int .u64 z.w.c])).run Tryd.prog w = .ok (.bool true) w := fun w => (eql_W _ _ w).trans (by rw [decide_eq_true hw0])
                have hbad := hide (hfail.out (j + 1 + 1) (by rw [hstep.out]; exact step_bad (.inr (.inr (.inr (by rw [hp, hw0]))))))
                clear hw0
                go_quiet (fail)
                go_wp2_with fail
                go_ret2
                exact ⟨by rw [hbad.out]; rfl, hk3.drewN _⟩
              · have hq : ∀ w, (binOp .eql 34 (.agg #[.int .u64 x.w.a, .int .u64 x.w.b, .int .u64 x.w.c]) (.agg #[.int .u64 z.w.a, .int .u64 z.w.b, .int .u64 z.w.c])).run Tryd.prog w = .ok (.bool false) w := fun w => (eql_W _ _ w).trans (by rw [decide_eq_false hw0])
                have hnext := hide (hstep.out.trans (step_ok h1' (by omega) ho (by rw [hp]; intro h; injection h with h; exact hw0 h.symm)))
                clear hw0
                go_quiet (fail)
                go_wp2_with fail
                go_roundg (n - (j + 1 + 1))
                case measure => omega
                case rel => exact ⟨j + 1 + 1, nn + x.n, rfl, by push_cast; rfl, by omega, by omega, by omega, by omega, hide (by rw [hnext.out, hprev]), hk3.drewN _⟩
    · obtain rfl : k = n := by omega
      go_wp2_with fail
      go_ret2
      have e := hsome.out nn _ (by rw [← hT.out, List.take_of_length_le (Nat.le_of_eq hl.out)])
      exact ⟨by rw [e]; rfl, hkr⟩
end Go.Proofs.YtpdjlollijbdeaaDoor
