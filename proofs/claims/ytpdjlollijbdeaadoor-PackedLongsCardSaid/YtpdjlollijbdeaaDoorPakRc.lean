/- The reference's cells of runs. -/
import Derived.Test.YtpdjlollijbdeaaDoorPakRef
import Derived.Test.YtpdjlollijbdeaaDoorPakUn
namespace Go.Proofs.YtpdjlollijbdeaaDoor
open Go.RowKit
set_option linter.unusedVariables false
set_option maxRecDepth 10000

def CellsOk (w : World) (l : List Ru) (e : Ending) (w' : World) : Prop :=
  ∃ a' n' c', e = .returned (.tuple #[.slice a' n' c', .bool (totI l).2]) ∧ Own w' w.heap.size 30 a' n' c' 16 (cellsV (unpackR l).1) ∧ Kept [] w w'
theorem unpack_fail {l : List Ru} (h : totT l = none) : (totI l).2 = false ∧ (unpackR l).1 = [] := by
  have := totI_fail h
  unfold unpackR
  rw [this]
  exact ⟨rfl, rfl⟩
theorem unpack_good5 {l : List Ru} {n : Int} {p : Option W3} (h : totT l = some (n, p)) : (totI l).2 = true ∧ (unpackR l).1 = expand l := by
  have := totI_some h
  unfold unpackR
  rw [this]
  exact ⟨rfl, rfl⟩

set_option maxHeartbeats 4000000 in
theorem rCells5_any (a : Option Addr) (n c : Nat) (l : List Ru) (hB : ∀ r ∈ l, RuB r) (w : World) (hr : Rd w a n 4 (runsV l)) (hn : n ≤ 1000000) :
    Calls Tryd.prog 19 #[.slice a n c] w (CellsOk w l) := by
  have hl := hr.runs
  have hH := hide hr
  have hC := hide (fun (x : W3) hb w1 => rCell_any x hb w1)
  have hBB := hide hB
  have hfail := hide (fun k h => unpack_fail (totT_fail (l := l) (k := k) h))
  have hsome := hide (fun nn p h => unpack_good5 (l := l) (n := nn) (p := p) h)
  have hQ : CellsOk w l = fun e w' => ∃ a' n' c', e = .returned (.tuple #[.slice a' n' c', .bool (totI l).2]) ∧ Own w' w.heap.size 30 a' n' c' 16 (cellsV (unpackR l).1) ∧ Kept [] w w' := rfl
  rw [hQ]
  clear hr hB hQ
  generalize (totI l).2 = R at *
  generalize (unpackR l).1 = U at *
  go_enter Tryd.func19, Tryd.ntmps19
  go_wp2_with fail
  have hl := hide hl
  go_loopg [4, 5, 6, 7, 8, 9, 10, 11, 12, 13, 14, 15, 16, 17, 18, 19, 20, 21, 22, 23, 24, 25, 26, 27, 28, 29, 30, 31, 32, 33, 34, 35, 36, 37, 38, 39, 40, 41, 42, 43, 44, 45, 46, 47, 48, 49, 50, 51, 52, 53, 54, 55, 56, 57, 58, 59, 60, 61, 62, 63, 64, 65, 66, 67, 68, 69, 70, 71, 72, 73] n (fun kx s4 s5 s6 s7 s8 s9 s10 s11 s12 s13 s14 s15 s16 s17 s18 s19 s20 s21 s22 s23 s24 s25 s26 s27 s28 s29 s30 s31 s32 s33 s34 s35 s36 s37 s38 s39 s40 s41 s42 s43 s44 s45 s46 s47 s48 s49 s50 s51 s52 s53 s54 s55 s56 s57 s58 s59 s60 s61 s62 s63 s64 s65 s66 s67 s68 s69 s70 s71 s72 s73 wr => ∃ (k : Nat) (a' : Option Addr) (n' c' : Nat), s4 = .slice a' n' c' ∧ s5 = .int .i64 k ∧ k ≤ n ∧ n - k ≤ kx ∧ n' ≤ 100000 ∧ Hid (totT (l.take k) = some ((n' : Int), prevW l k)) ∧ Hid (Own wr w.heap.size 30 a' n' c' 16 (cellsV (expand (l.take k)))) ∧ Kept [] w wr)
  case atStart => exact ⟨0, none, 0, 0, rfl, rfl, Nat.zero_le _, by omega, by omega, hide rfl, hide (Own.nil _ _ _ _), Kept.refl _ _⟩
  case round =>
    obtain ⟨k, a', n', c', rfl, rfl, hk, hg, hn1, hT, ho, hkr⟩ := hrel
    by_cases hlt : k < n
    · have hkl : k < l.length := by rw [hl.out]; exact hlt
      obtain ⟨b, o, rfl⟩ := hH.out.runAddr (by omega)
      obtain ⟨q0, q1, q2, q3⟩ := (hH.out.run k hkl).kept hkr (by simp)
      have hkn : (k : Int) < (n : Int) := by omega
      have hstep := hide (totT_take (l := l) hkl)
      rw [hT.out] at hstep
      have hxB := hBB.out l[k] (List.getElem_mem hkl)
      have hprev : prevW l (k + 1) = some l[k].w := by simp [prevW, List.getElem?_eq_getElem hkl]
      have hnext := hide (expand_take (l := l) hkl)
      have hrun := hide (hH.out.run k hkl)
      generalize l[k] = x at *
      have hCx := hide (fun w1 => hC.out x.w hxB.w w1)
      go_wp2_with fail
      refine (hCx.out wr).mono ?_
      rintro e w2 ⟨E1, rfl, hE1, hj2⟩
      have hk2 := hkr.trans hj2 (by simp)
      have ho2 := hide (ho.out.kept hj2 (by simp))
      clear q0 q1 q2 q3 hCx
      have hz2 := CelIn.new w2 zeroK
      go_upto_region 6 with (refine wpList_store_cel rfl rfl rfl w2.heap.size rfl hz2 E1 rfl ?_; intro w3 hc3 hj3)
      have hk23 : Kept [] w2 w3 := ((Kept.refl [] w2).alloc _).trans hj3 (by intro z hz; simp at hz; omega)
      have hk3 := hk2.trans hk23 (by simp)
      have ho3 := hide (ho2.out.kept hk23 (by simp))
      have hne := hide (fun g (hg : g ∈ blk a') => (by have := (ho2.out.ge g hg).2; omega : g ≠ w2.heap.size))
      obtain ⟨q0, q1, q2, q3⟩ := hrun.out.kept hk3 (by simp)
      have hc3 := hide hc3
      clear hz2 hj3 hj2 hk2 hk23 ho2 ho hkr
      cases hok : okW x.w
      · have hbad := hide (hfail.out (k + 1) (by rw [hstep.out]; exact step_bad (.inr (.inr (.inl hok)))))
        go_wp2_with fail
        go_ret2
        exact ⟨none, 0, 0, by rw [hbad.out.1]; rfl, by rw [hbad.out.2]; exact Own.nil _ _ _ _, hk3⟩
      · have e1 := hide (hE1 hok)
        clear hE1
        have hi := hxB.n.2
        by_cases h1 : x.n < 1
        · have hbad := hide (hfail.out (k + 1) (by rw [hstep.out]; exact step_bad (.inl h1)))
          go_wp2_with fail
          go_ret2
          exact ⟨none, 0, 0, by rw [hbad.out.1]; rfl, by rw [hbad.out.2]; exact Own.nil _ _ _ _, hk3⟩
        · have h1' : 1 ≤ x.n := by omega
          by_cases h2 : 100000 - (n' : Int) < x.n
          · have hbad := hide (hfail.out (k + 1) (by rw [hstep.out]; exact step_bad (.inr (.inl h2))))
            go_wp2_with fail
            go_ret2
            exact ⟨none, 0, 0, by rw [hbad.out.1]; rfl, by rw [hbad.out.2]; exact Own.nil _ _ _ _, hk3⟩
          · have h2' : x.n ≤ 100000 - (n' : Int) := by omega
            obtain ⟨M, hM⟩ : ∃ M : Nat, x.n = (M : Int) := ⟨x.n.toNat, by omega⟩
            rw [← e1.out, hM, Int.toNat_natCast] at hnext
            have hMb : M ≤ 100000 := by omega
            replace hM := hide hM
            have hle := ho3.out.rd.clen
            go_upto_region 8 with fail
            rcases k with _ | i
            · go_quiet (fail)
              replace hrun : Hid (RunAtO w b o x) := hide (by simpa using hrun.out)
              have hst := hide (hstep.out.trans (step_ok h1' (by omega) hok (by simp [prevW])))
              go_wp2_with fail
              clear q0 q1 q2 q3
              go_loopg [4, 8, 61, 62, 63, 64, 65, 66, 67, 68, 69, 70, 71, 72, 73] M (fun jx s4 s8 s61 s62 s63 s64 s65 s66 s67 s68 s69 s70 s71 s72 s73 wr => ∃ (j : Nat) (a2 : Option Addr) (n2 c2 : Nat), s4 = .slice a2 n2 c2 ∧ s8 = .int .i64 j ∧ j ≤ M ∧ M - j ≤ jx ∧ Hid (Own wr w.heap.size 30 a2 n2 c2 16 (cellsV (expand (l.take (0)) ++ List.replicate j E1))) ∧ Hid (∀ g ∈ blk a2, g ≠ w2.heap.size) ∧ Hid (CelIn wr w2.heap.size E1) ∧ Kept [] w wr)
              case atStart => exact ⟨0, a', n', c', rfl, rfl, Nat.zero_le _, by omega, hide (by simpa using ho3.out.kept ((Kept.refl [] w3).drewN nq) (by simp)), hne, hide (hc3.out.kept ((Kept.refl [] w3).drewN nq) (by simp)), hk3.drewN nq⟩
              case round =>
                obtain ⟨j, a2, n2, c2, rfl, rfl, hj, hgj, hoj, hnj, hcj, hkj⟩ := hrel
                obtain ⟨q0, q1, q2, q3⟩ := hrun.out.kept hkj (by simp)
                rw [hM.out] at q0
                by_cases hjt : j < M
                · have hjm : (j : Int) < (M : Int) := by omega
                  have rj := hcj.out.range
                  have hon := hide (hoj.out.kept ((Kept.refl [] wr).alloc (.cells #[.int .i32 E1.r, .int .i32 E1.m0, .int .i32 E1.m1, .int .i32 E1.m2, .int .i64 E1.w, .int .i64 E1.p.f.k, .int .u8 E1.p.f.i, .int .u8 E1.p.f.r, .int .u8 E1.p.f.g, .int .u8 E1.p.f.b, .int .i64 E1.p.b.k, .int .u8 E1.p.b.i, .int .u8 E1.p.b.r, .int .u8 E1.p.b.g, .int .u8 E1.p.b.b, .int .u8 E1.p.fl] 30)) (by simp))
                  have hrn := hide (CelIn.new wr E1).rd
                  have hsz := hkj.size
                  have hn2 := hoj.out.rd.clen
                  rw [List.length_append, List.length_replicate] at hn2
                  go_wp2_with (first | refine wpList_load_cel rfl rfl w2.heap.size 0 rfl rj ?_ | (at_builtin; refine wpList_app ?_ rfl elCell rfl rfl hon.out rfl hrn.out (cellsV_one _) ?o2 ?o3; intro a3 c3 w6 ho6 hk6 hat6))
                  case o2 => omega
                  case o3 => simp; omega
                  go_roundg (M - (j + 1))
                  case measure => omega
                  case rel =>
                    refine ⟨j + 1, a3, n2 + 1, c3, rfl, by push_cast; rfl, by omega, Nat.le_refl _, hide ?_, hide ?_, hide ?_, ?_⟩
                    · rw [List.replicate_succ', ← List.append_assoc, cellsV_app _ [E1]]
                      exact ho6
                    · intro g hg
                      have hlt4 := hcj.out.lt
                      rcases hat6 g hg with h1 | h1
                      · exact hnj.out g h1
                      · have h2 : wr.heap.size + 1 ≤ g := by simpa using h1
                        omega
                    · exact (hcj.out.kept ((Kept.refl [] wr).alloc _) (by simp)).kept hk6 (fun hm => hnj.out _ hm rfl)
                    · exact (hkj.alloc _).own hk6 (fun g hg => (hoj.out.ge g hg).1)
                · obtain rfl : j = M := by omega
                  have hn2 := hoj.out.rd.clen
                  rw [List.length_append, List.length_replicate] at hn2
                  have hn3 : (n2 : Int) = (n' : Int) + x.n := by rw [hM.out]; omega
                  go_wp2_with fail
                  go_roundg (n - (0 + 1))
                  case measure => omega
                  case rel => exact ⟨0 + 1, a2, n2, c2, rfl, by push_cast; rfl, by omega, Nat.le_refl _, by omega, hide (by rw [hst.out, hprev, hn3]), hide (by rw [hnext.out]; exact hoj.out), hkj⟩
            · have hil : i < l.length := by omega
              obtain ⟨p0, p1, p2, p3⟩ := (hH.out.run i hil).kept hk3 (by simp)
              have hp : prevW l (i + 1) = some l[i].w := by simp [prevW, List.getElem?_eq_getElem hil]
              generalize l[i] = z at *
              have hin : (i : Int) < (n : Int) := by omega
              have hi1 : decide ((0 : Int) < (i : Int) + 1) = true := decide_eq_true (by omega)
              by_cases hw0 : x.w = z.w
              · have hq : ∀ w, (binOp .eql 34 (.agg #[.int .u64 x.w.a, .int .u64 x.w.b, .int .u64 x.w.c]) (.agg #[.int .u64 z.w.a, .int .u64 z.w.b, .int .u64 z.w.c])).run Tryd.prog w = .ok (.bool true) w := fun w => (eql_W _ _ w).trans (by rw [decide_eq_true hw0])
                have hbad := hide (hfail.out (i + 1 + 1) (by rw [hstep.out]; exact step_bad (.inr (.inr (.inr (by rw [hp, hw0]))))))
                clear hw0
                go_quiet (fail)
                go_wp2_with fail
                go_ret2
                exact ⟨none, 0, 0, by rw [hbad.out.1]; rfl, by rw [hbad.out.2]; exact Own.nil _ _ _ _, hk3.drewN _⟩
              · have hq : ∀ w, (binOp .eql 34 (.agg #[.int .u64 x.w.a, .int .u64 x.w.b, .int .u64 x.w.c]) (.agg #[.int .u64 z.w.a, .int .u64 z.w.b, .int .u64 z.w.c])).run Tryd.prog w = .ok (.bool false) w := fun w => (eql_W _ _ w).trans (by rw [decide_eq_false hw0])
                have hst := hide (hstep.out.trans (step_ok h1' (by omega) hok (by rw [hp]; intro h; injection h with h; exact hw0 h.symm)))
                clear hw0
                go_quiet (fail)
                clear p0 p1 p2 p3 hq
                go_wp2_with fail
                clear q0 q1 q2 q3
                go_loopg [4, 8, 61, 62, 63, 64, 65, 66, 67, 68, 69, 70, 71, 72, 73] M (fun jx s4 s8 s61 s62 s63 s64 s65 s66 s67 s68 s69 s70 s71 s72 s73 wr => ∃ (j : Nat) (a2 : Option Addr) (n2 c2 : Nat), s4 = .slice a2 n2 c2 ∧ s8 = .int .i64 j ∧ j ≤ M ∧ M - j ≤ jx ∧ Hid (Own wr w.heap.size 30 a2 n2 c2 16 (cellsV (expand (l.take (i + 1)) ++ List.replicate j E1))) ∧ Hid (∀ g ∈ blk a2, g ≠ w2.heap.size) ∧ Hid (CelIn wr w2.heap.size E1) ∧ Kept [] w wr)
                case atStart => exact ⟨0, a', n', c', rfl, rfl, Nat.zero_le _, by omega, hide (by simpa using ho3.out.kept ((Kept.refl [] w3).drewN nq) (by simp)), hne, hide (hc3.out.kept ((Kept.refl [] w3).drewN nq) (by simp)), hk3.drewN nq⟩
                case round =>
                  obtain ⟨j, a2, n2, c2, rfl, rfl, hj, hgj, hoj, hnj, hcj, hkj⟩ := hrel
                  obtain ⟨q0, q1, q2, q3⟩ := hrun.out.kept hkj (by simp)
                  rw [hM.out] at q0
                  by_cases hjt : j < M
                  · have hjm : (j : Int) < (M : Int) := by omega
                    have rj := hcj.out.range
                    have hon := hide (hoj.out.kept ((Kept.refl [] wr).alloc (.cells #[.int .i32 E1.r, .int .i32 E1.m0, .int .i32 E1.m1, .int .i32 E1.m2, .int .i64 E1.w, .int .i64 E1.p.f.k, .int .u8 E1.p.f.i, .int .u8 E1.p.f.r, .int .u8 E1.p.f.g, .int .u8 E1.p.f.b, .int .i64 E1.p.b.k, .int .u8 E1.p.b.i, .int .u8 E1.p.b.r, .int .u8 E1.p.b.g, .int .u8 E1.p.b.b, .int .u8 E1.p.fl] 30)) (by simp))
                    have hrn := hide (CelIn.new wr E1).rd
                    have hsz := hkj.size
                    have hn2 := hoj.out.rd.clen
                    rw [List.length_append, List.length_replicate] at hn2
                    go_wp2_with (first | refine wpList_load_cel rfl rfl w2.heap.size 0 rfl rj ?_ | (at_builtin; refine wpList_app ?_ rfl elCell rfl rfl hon.out rfl hrn.out (cellsV_one _) ?o2 ?o3; intro a3 c3 w6 ho6 hk6 hat6))
                    case o2 => omega
                    case o3 => simp; omega
                    go_roundg (M - (j + 1))
                    case measure => omega
                    case rel =>
                      refine ⟨j + 1, a3, n2 + 1, c3, rfl, by push_cast; rfl, by omega, Nat.le_refl _, hide ?_, hide ?_, hide ?_, ?_⟩
                      · rw [List.replicate_succ', ← List.append_assoc, cellsV_app _ [E1]]
                        exact ho6
                      · intro g hg
                        have hlt4 := hcj.out.lt
                        rcases hat6 g hg with h1 | h1
                        · exact hnj.out g h1
                        · have h2 : wr.heap.size + 1 ≤ g := by simpa using h1
                          omega
                      · exact (hcj.out.kept ((Kept.refl [] wr).alloc _) (by simp)).kept hk6 (fun hm => hnj.out _ hm rfl)
                      · exact (hkj.alloc _).own hk6 (fun g hg => (hoj.out.ge g hg).1)
                  · obtain rfl : j = M := by omega
                    have hn2 := hoj.out.rd.clen
                    rw [List.length_append, List.length_replicate] at hn2
                    have hn3 : (n2 : Int) = (n' : Int) + x.n := by rw [hM.out]; omega
                    go_wp2_with fail
                    go_roundg (n - (i + 1 + 1))
                    case measure => omega
                    case rel => exact ⟨i + 1 + 1, a2, n2, c2, rfl, by push_cast; rfl, by omega, Nat.le_refl _, by omega, hide (by rw [hst.out, hprev, hn3]), hide (by rw [hnext.out]; exact hoj.out), hkj⟩
    · obtain rfl : k = n := by omega
      go_wp2_with fail
      go_ret2
      have e : l.take k = l := List.take_of_length_le (Nat.le_of_eq hl.out)
      rw [e] at ho
      have hs := hsome.out _ _ (by rw [← hT.out, e])
      exact ⟨a', n', c', by rw [hs.1]; rfl, by rw [hs.2]; exact ho.out, hkr⟩
end Go.Proofs.YtpdjlollijbdeaaDoor
