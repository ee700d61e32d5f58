/- The walk of CellMarks. -/
import Derived.Test.YtigaijigdellpaaDoorCelLaw1
import Derived.Test.YtigaijigdellpaaDoorCelRv
namespace Go.Proofs.YtigaijigdellpaaDoor
open Go.RowKit
set_option linter.unusedVariables false
set_option linter.unusedSimpArgs false

theorem CellMarks_long (KN : KnownIs) (c : Cl) (a : Option Addr) (n cp : Nat) (hn : 8 < n) (w : World) (ht : Tabs w) : Calls Tryd.prog 5 #[.agg #[.int .i32 c.r, .int .i32 c.m0, .int .i32 c.m1, .int .i32 c.m2, .int .i64 c.w, .int .i64 c.p.f.k, .int .u8 c.p.f.i, .int .u8 c.p.f.r, .int .u8 c.p.f.g, .int .u8 c.p.f.b, .int .i64 c.p.b.k, .int .u8 c.p.b.i, .int .u8 c.p.b.r, .int .u8 c.p.b.g, .int .u8 c.p.b.b, .int .u8 c.p.fl], .slice a n cp] w fun e w' => e = .returned (.bool true) ∧ Kept [] w w' := by
  have hk0 : Kept [] w (w.alloc (.cells #[.int .i32 c.r, .int .i32 c.m0, .int .i32 c.m1, .int .i32 c.m2, .int .i64 c.w, .int .i64 c.p.f.k, .int .u8 c.p.f.i, .int .u8 c.p.f.r, .int .u8 c.p.f.g, .int .u8 c.p.f.b, .int .i64 c.p.b.k, .int .u8 c.p.b.i, .int .u8 c.p.b.r, .int .u8 c.p.b.g, .int .u8 c.p.b.b, .int .u8 c.p.fl] 30)) := (Kept.refl [] w).alloc _
  have hKN := hide (KN _ (ht.kept hk0))
  have hnz : (8 : Int) < (n : Int) := by omega
  go_enter Tryd.func5, Tryd.ntmps5
  go_wp2_with fail
  refine hKN.out.mono ?_
  rintro e w1 ⟨rfl, hk1⟩
  go_wp2_with fail
  go_ret
  exact ⟨rfl, hk0.trans hk1 (by simp)⟩

set_option maxHeartbeats 2000000 in
theorem CellMarks_walk (KN : KnownIs) (c : Cl) (a : Option Addr) (n cp : Nat) (l : List Int) (hn : n ≤ 8) (w : World) (ht : Tabs w) (hr : Rd w a n 1 (ints .i32 l)) : Calls Tryd.prog 5 #[.agg #[.int .i32 c.r, .int .i32 c.m0, .int .i32 c.m1, .int .i32 c.m2, .int .i64 c.w, .int .i64 c.p.f.k, .int .u8 c.p.f.i, .int .u8 c.p.f.r, .int .u8 c.p.f.g, .int .u8 c.p.f.b, .int .i64 c.p.b.k, .int .u8 c.p.b.i, .int .u8 c.p.b.r, .int .u8 c.p.b.g, .int .u8 c.p.b.b, .int .u8 c.p.fl], .slice a n cp] w fun e w' => e = .returned (.bool true) ∧ Kept [] w w' := by
  have hl : l.length = n := by have := hr.1; rw [ints_len] at this; omega
  obtain ⟨W0, hW0⟩ : ∃ z : World, z = w.alloc (.cells #[.int .i32 c.r, .int .i32 c.m0, .int .i32 c.m1, .int .i32 c.m2, .int .i64 c.w, .int .i64 c.p.f.k, .int .u8 c.p.f.i, .int .u8 c.p.f.r, .int .u8 c.p.f.g, .int .u8 c.p.f.b, .int .i64 c.p.b.k, .int .u8 c.p.b.i, .int .u8 c.p.b.r, .int .u8 c.p.b.g, .int .u8 c.p.b.b, .int .u8 c.p.fl] 30) := ⟨_, rfl⟩
  have hk0 : Kept [] w W0 := by rw [hW0]; exact (Kept.refl [] w).alloc _
  have hc0 : CelIn W0 w.heap.size c := by rw [hW0]; exact CelIn.new w c
  have hT := hide (fun w1 (hk : Kept [] w w1) => ht.kept hk)
  have hKN := hide KN
  have hH := hide hr
  have hl := hide hl
  have hnz : (n : Int) ≤ 8 := by omega
  clear ht KN hr
  go_enter Tryd.func5, Tryd.ntmps5
  go_upto_region 4 with fail
  rw [← hW0]
  clear hW0
  go_loopg [6, 7, 8, 15, 16, 17, 18, 19, 20, 21, 22, 23, 24, 25, 26, 27, 28, 29, 30, 31, 32, 33, 34] n (fun kx s6 s7 s8 s15 s16 s17 s18 s19 s20 s21 s22 s23 s24 s25 s26 s27 s28 s29 s30 s31 s32 s33 s34 wr => ∃ (k : Nat) (x : Cl), s15 = .int .i64 k ∧ k ≤ n ∧ n - k ≤ kx ∧ CelIn wr w.heap.size x ∧ Kept [] w wr)
  case atStart => exact ⟨0, c, rfl, Nat.zero_le _, by omega, hc0, hk0⟩
  case round =>
    obtain ⟨k, x, rfl, hk, hg, hx, hkr⟩ := hrel
    by_cases hlt : k < n
    · have hkl : k < l.length := by rw [hl.out]; exact hlt
      obtain ⟨b, o, rfl, hcell⟩ : ∃ b o, a = some ⟨b, o, none⟩ ∧ w.cell? ⟨b, o + k, none⟩ = some (.int .i32 l[k]) := by
        rcases hH.out.2 with h0 | ⟨b, o, ha, hc⟩
        · exact absurd h0 (ints_ne (fun h => by rw [h] at hkl; cases hkl))
        · exact ⟨b, o, ha, Rd.at hc k hkl⟩
      have q := hkr.cell hcell (by simp)
      have hkn : (k : Int) < (n : Int) := by omega
      generalize l[k] = r at *
      clear hcell
      have hM := hide (fun w1 => rMark_any x r w1)
      have hA := hide (fun (w1 : World) hk => mark_ask x r (markE x r).1 (markE x r).2 true (by simp) w1 (hT.out w1 hk))
      generalize markE x r = E at *
      obtain ⟨y, no⟩ := E
      simp only at hA
      have rx := hx.range
      go_upto_region 6 with fail
      clear q
      go_wp2_with (refine wpList_load_cel rfl rfl w.heap.size 0 rfl rx ?_)
      refine (hM.out _).mono ?_
      rintro e w1 ⟨rfl, hk1⟩
      have hz1 : CelIn (w1.alloc (.cells #[.int .i32 0, .int .i32 0, .int .i32 0, .int .i32 0, .int .i64 0, .int .i64 0, .int .u8 0, .int .u8 0, .int .u8 0, .int .u8 0, .int .i64 0, .int .u8 0, .int .u8 0, .int .u8 0, .int .u8 0, .int .u8 0] 30)) w1.heap.size zeroK := heap_alloc_new w1 _
      go_upto_region 7 with (refine wpList_store_cel rfl rfl rfl w1.heap.size rfl hz1 y rfl ?_; intro w2 hy2 hj2)
      have hk2 : Kept [] w1 w2 := ((Kept.refl [] w1).alloc _).trans hj2 (by intro z hz; simp at hz; omega)
      have hx2 := hide ((hx.kept hk1 (by simp)).kept hk2 (by simp))
      have hy2' := hide hy2
      have hK2 := hide ((hkr.trans hk1 (by simp)).trans hk2 (by simp))
      have rx2 := hx2.out.range
      have ry2 := hy2.range
      clear hz1 hj2 hk2 hk1 rx hx hkr hy2
      go_wp2_with (first | refine wpList_load_cel rfl rfl w.heap.size 0 rfl rx2 ?_ | refine wpList_load_cel rfl rfl w1.heap.size 0 rfl ry2 ?_)
      refine (hA.out w2 hK2.out).mono ?_
      rintro e w3 ⟨rfl, hk3⟩
      have ry3 := (hy2'.out.kept hk3 (by simp)).range
      have hx3 := hx2.out.kept hk3 (by simp)
      have hK3 := hide (hK2.out.trans hk3 (by simp))
      clear rx2 ry2
      by_cases hno0 : no = 0
      · have eno : (no == 0) = true := by simpa using hno0
        have hno := hide hno0
        clear hno0
        go_wp2_with (first | refine wpList_load_cel rfl rfl w1.heap.size 0 rfl ry3 ?_ | (refine wpList_store_cel rfl rfl rfl w.heap.size rfl hx3 y rfl ?_; intro w4 hy4 hj4))
        go_roundg (n - (k + 1))
        case measure => omega
        case rel => exact ⟨k + 1, y, by push_cast; rfl, by omega, Nat.le_refl _, hy4, hK3.out.trans hj4 (by intro z hz; simp at hz; exact .inr (by omega))⟩
      · have eno : (no == 0) = false := by simpa using hno0
        have hno := hide hno0
        clear hno0
        go_wp2_with fail
        go_roundg (n - (k + 1))
        case measure => omega
        case rel => exact ⟨k + 1, x, by push_cast; rfl, by omega, Nat.le_refl _, hx3, hK3.out⟩
    · obtain rfl : k = n := by omega
      go_wp2_with fail
      refine (hKN.out _ (hT.out _ hkr)).mono ?_
      rintro e w1 ⟨rfl, hk1⟩
      go_wp2_with fail
      go_ret
      exact ⟨rfl, hkr.trans hk1 (by simp)⟩
end Go.Proofs.YtigaijigdellpaaDoor
