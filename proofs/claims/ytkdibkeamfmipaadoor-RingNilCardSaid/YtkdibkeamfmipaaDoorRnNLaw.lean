/- Layer 8: the law's helpers at nil and zero rings; the law RingNil. -/
import Derived.Test.YtkdibkeamfmipaaDoorRnAsk
namespace Go.Proofs.YtkdibkeamfmipaaDoor
open Go.RowKit
set_option linter.unusedVariables false
set_option maxRecDepth 100000

set_option maxHeartbeats 4000000 in
theorem zpushes8 (p : Option Addr) (a : Option Addr) (n c : Nat) (s : Bool) (w : World) (hp : Zr w p) :
    Calls Tryd.prog 8 #[.pointer p, .agg #[.slice a n c, .bool s], .int .i64 0, .int .i64 1] w fun e w' => e = .returned (.bool true) ∧ Kept [] w w' := by
  obtain ⟨W0, hW0⟩ : ∃ z : World, z = w.alloc (.cells #[.slice a n c, .bool s] 31) := ⟨_, rfl⟩
  have hk0 : Kept [] w W0 := by rw [hW0]; exact (Kept.refl [] w).alloc _
  have hbw : Hid (LinIn W0 w.heap.size a n c s) := hide (by rw [hW0]; exact LinIn.new w a n c s)
  have hC := hide (zPush8 p a n c s W0 (hp.kept hk0))
  clear hp
  obtain ⟨q0, q1⟩ := hbw.out.at
  go_enter Tryd.func8, Tryd.ntmps8
  go_upto_region 1 with fail
  rw [← hW0]
  clear hW0
  go_wp2_with fail
  refine hC.out.mono ?_
  rintro e w1 ⟨rfl, hk1⟩
  go_wp2_with fail
  go_ret
  exact ⟨rfl, hk0.trans hk1 (by simp)⟩
set_option maxHeartbeats 4000000 in
theorem zgets8 (p : Option Addr) (k : Int) (w : World) (hp : Zr w p) :
    Calls Tryd.prog 15 #[.pointer p, .int .i64 k, .agg #[.slice none 0 0, .bool false], .int .i64 1] w fun e w' => e = .returned (.bool true) ∧ Kept [] w w' := by
  obtain ⟨W0, hW0⟩ : ∃ z : World, z = w.alloc (.cells #[.slice none 0 0, .bool false] 31) := ⟨_, rfl⟩
  have hk0 : Kept [] w W0 := by rw [hW0]; exact (Kept.refl [] w).alloc _
  have hbw : Hid (LinIn W0 w.heap.size none 0 0 false) := hide (by rw [hW0]; exact LinIn.new w none 0 0 false)
  have hC := hide (zGet8 p k W0 (hp.kept hk0))
  clear hp
  go_enter Tryd.func15, Tryd.ntmps15
  go_upto_region 1 with fail
  rw [← hW0]
  clear hW0
  go_wp2_with fail
  refine hC.out.mono ?_
  rintro e w1 ⟨rfl, hk1⟩
  go_wp2_with (refine wpList_store_lin rfl rfl rfl w1.heap.size rfl (LinIn.new w1 none 0 0 false) none 0 0 false rfl ?_; intro w2 hb2 hj2; have hh2 : Kept [] w1 w2 := ((Kept.refl [] w1).alloc (.cells #[.slice none 0 0, .bool false] 31)).trans hj2 (by simp); obtain ⟨p0, p1⟩ := hb2.at; obtain ⟨q0, q1⟩ := (hbw.out.kept (hk1.trans hh2 (by simp)) (by simp)).at)
  refine (rSame6_any none 0 0 false [] none 0 0 false [] w2 (Rd.nil _ _ _) (Rd.nil _ _ _) (by decide)).mono ?_
  rintro e w3 ⟨rfl, hj3⟩
  go_wp2_with fail
  go_ret
  exact ⟨rfl, (hk0.trans (hk1.trans hh2 (by simp)) (by simp)).trans hj3 (by simp)⟩
set_option maxHeartbeats 4000000 in
theorem zpops8 (p : Option Addr) (w : World) (hp : Zr w p) :
    Calls Tryd.prog 17 #[.pointer p, .agg #[.slice none 0 0, .bool false], .int .i64 1] w fun e w' => e = .returned (.bool true) ∧ Kept [] w w' := by
  obtain ⟨W0, hW0⟩ : ∃ z : World, z = w.alloc (.cells #[.slice none 0 0, .bool false] 31) := ⟨_, rfl⟩
  have hk0 : Kept [] w W0 := by rw [hW0]; exact (Kept.refl [] w).alloc _
  have hbw : Hid (LinIn W0 w.heap.size none 0 0 false) := hide (by rw [hW0]; exact LinIn.new w none 0 0 false)
  have hC := hide (zPop8 p W0 (hp.kept hk0))
  clear hp
  go_enter Tryd.func17, Tryd.ntmps17
  go_upto_region 1 with fail
  rw [← hW0]
  clear hW0
  go_wp2_with fail
  refine hC.out.mono ?_
  rintro e w1 ⟨rfl, hk1⟩
  go_wp2_with (refine wpList_store_lin rfl rfl rfl w1.heap.size rfl (LinIn.new w1 none 0 0 false) none 0 0 false rfl ?_; intro w2 hb2 hj2; have hh2 : Kept [] w1 w2 := ((Kept.refl [] w1).alloc (.cells #[.slice none 0 0, .bool false] 31)).trans hj2 (by simp); obtain ⟨p0, p1⟩ := hb2.at; obtain ⟨q0, q1⟩ := (hbw.out.kept (hk1.trans hh2 (by simp)) (by simp)).at)
  refine (rSame6_any none 0 0 false [] none 0 0 false [] w2 (Rd.nil _ _ _) (Rd.nil _ _ _) (by decide)).mono ?_
  rintro e w3 ⟨rfl, hj3⟩
  go_wp2_with fail
  go_ret
  exact ⟨rfl, (hk0.trans (hk1.trans hh2 (by simp)) (by simp)).trans hj3 (by simp)⟩
theorem LnsR.none (w : World) : LnsR w none 0 [] [] := ⟨Rd.nil _ _ _, .nil⟩
set_option maxHeartbeats 4000000 in
theorem zranges8 (p : Option Addr) (f t : Int) (w : World) (hp : Zr w p) :
    Calls Tryd.prog 19 #[.pointer p, .int .i64 f, .int .i64 t, .int .i64 1, .slice none 0 0] w fun e w' => e = .returned (.bool true) ∧ Kept [] w w' := by
  have hC := hide (zRange8 p f t w hp)
  clear hp
  go_enter Tryd.func19, Tryd.ntmps19
  go_wp2_with fail
  refine hC.out.mono ?_
  rintro e w1 ⟨rfl, hk1⟩
  go_wp2_with fail
  refine (rAll6_any none 0 0 [] [] none 0 0 [] [] w1 (LnsR.none w1) (LnsR.none w1) (fun x hx => by cases hx) (by decide)).mono ?_
  rintro e w3 ⟨rfl, hj3⟩
  go_wp2_with fail
  go_ret
  exact ⟨rfl, hk1.trans hj3 (by simp)⟩
/-- What the examples are. -/
def Known8 : Prop := ∀ w, Tabs w → 2 ≤ w.heap.size → Calls Tryd.prog 6 #[] w fun e w' => e = .returned (.bool true) ∧ Kept [] w w'
theorem tabs_lt8 {w : World} (h : Tabs w) : 2 ≤ w.heap.size := by
  have := World.block_lt_of_cell? w _ (h.2 0 (by decide)).1
  exact this
theorem Known8.at (h : Known8) {w : World} (ht : Tabs w) : Calls Tryd.prog 6 #[] w fun e w' => e = .returned (.bool true) ∧ Kept [] w w' := h w ht (tabs_lt8 ht)
set_option maxHeartbeats 20000000 in
theorem ringNil_any (hkn : Known8) (k t : Int) (a : Option Addr) (n c : Nat) (s : Bool) (w : World) (ht : Tabs w) :
    Calls Tryd.prog 4 #[.int .i64 k, .int .i64 t, .agg #[.slice a n c, .bool s]] w fun e w' => e = .returned (.bool true) ∧ Kept [] w w' := by
  obtain ⟨W0, hW0⟩ : ∃ z : World, z = w.alloc (.cells #[.slice a n c, .bool s] 31) := ⟨_, rfl⟩
  have hk0 : Kept [] w W0 := by rw [hW0]; exact (Kept.refl [] w).alloc _
  have hl0 : Hid (LinIn W0 w.heap.size a n c s) := hide (by rw [hW0]; exact LinIn.new w a n c s)
  have hkn0 := hide (fun w1 (hk : Kept [] W0 w1) => hkn.at (ht.kept (hk0.trans hk (by simp))))
  clear ht
  by_cases hn : (n : Int) > 20
  · obtain ⟨q0, q1⟩ := hl0.out.at
    go_enter Tryd.func4, Tryd.ntmps4
    go_upto_region 1 with fail
    rw [← hW0]
    clear hW0
    go_wp2_with fail
    refine (hkn0.out W0 (Kept.refl [] W0)).mono ?_
    rintro e w1 ⟨rfl, hk1⟩
    go_wp2_with fail
    go_ret
    exact ⟨rfl, hk0.trans hk1 (by simp)⟩
  · obtain ⟨q0, q1⟩ := hl0.out.at
    have hnn : ∀ w1, (binOp .neq 24 (.pointer none) (.pointer none)).run Tryd.prog w1 = .ok (.bool false) w1 := fun w1 => by kernel_rfl
    obtain ⟨W1, hW1⟩ : ∃ z : World, z = (W0.alloc (.cells #[.int .i64 0, .int .i64 0, .int .i64 0, .int .i64 0, .slice none 0 0] 42)).alloc (.cells #[.pointer none, .pointer (some ⟨W0.heap.size, 0, none⟩)] 24) := ⟨_, rfl⟩
    have hk1 : Kept [] W0 W1 := by rw [hW1]; exact ((Kept.refl [] W0).alloc _).alloc _
    have hz1 : Hid (RbIn W1 W0.heap.size 0 0 0 0 none 0 0) := hide (by rw [hW1]; exact (RbIn.new W0 0 0 0 0 none 0 0).kept ((Kept.refl [] _).alloc _) (by simp))
    have hrow : Hid (W1.heap[W0.heap.size + 1]? = some (.cells #[.pointer none, .pointer (some ⟨W0.heap.size, 0, none⟩)] 24 (0, 0))) := hide (by rw [hW1]; exact heap_new_at (by simp))
    obtain ⟨P, hP⟩ : ∃ P : Nat → Option Addr, P = fun k => if k = 0 then none else some ⟨W0.heap.size, 0, none⟩ := ⟨_, rfl⟩
    have hZ : Hid (∀ k wr, Kept [] W1 wr → Zr wr (P k)) := hide (fun k wr hk => by
      rw [hP]
      by_cases h0 : k = 0
      · exact .inl ⟨by simp [h0], rfl, rfl, rfl, rfl, rfl, rfl, rfl⟩
      · exact .inr ⟨_, by simp [h0], hz1.out.kept hk (by simp)⟩)
    have hC : Hid (∀ k wr, k < 2 → Kept [] W1 wr → wr.cell? ⟨W0.heap.size + 1, k, none⟩ = some (.pointer (P k))) := hide (fun k wr h2 hk => by
      refine hk.cell ?_ (by simp)
      rw [cell_of_row _ _ _ _ _ _ hrow.out, hP]
      rcases (show k = 0 ∨ k = 1 by omega) with rfl | rfl <;> rfl)
    have hL := hide (fun wr (hk : Kept [] W1 wr) => (hl0.out.kept (hk1.trans hk (by simp)) (by simp)).at)
    clear hz1 hrow hP
    go_enter Tryd.func4, Tryd.ntmps4
    go_upto_region 1 with fail
    rw [← hW0]
    clear hW0
    go_wp2_with fail
    rw [← hW1]
    clear hW1
    go_loopg [9, 20, 21, 22, 23, 24, 25, 26, 27, 28, 29, 30, 31, 32, 33, 34, 35, 36, 37, 38, 39, 40, 41, 42, 43, 44, 45, 46, 47, 48, 49, 50, 51, 52, 53, 54, 55, 56, 57, 58, 59, 60, 61, 62, 63, 64, 65, 66, 67, 68, 69, 70, 71, 72, 73, 74, 75, 76, 77, 78, 79, 80, 81, 82, 83, 84, 85, 86, 87, 88, 89, 90, 91, 92, 93] 2 (fun kx s9 s20 s21 s22 s23 s24 s25 s26 s27 s28 s29 s30 s31 s32 s33 s34 s35 s36 s37 s38 s39 s40 s41 s42 s43 s44 s45 s46 s47 s48 s49 s50 s51 s52 s53 s54 s55 s56 s57 s58 s59 s60 s61 s62 s63 s64 s65 s66 s67 s68 s69 s70 s71 s72 s73 s74 s75 s76 s77 s78 s79 s80 s81 s82 s83 s84 s85 s86 s87 s88 s89 s90 s91 s92 s93 wr => ∃ k : Nat, s20 = .int .i64 k ∧ k ≤ 2 ∧ 2 - k ≤ kx ∧ Kept [] W1 wr)
    case atStart => exact ⟨0, rfl, by decide, by omega, Kept.refl _ _⟩
    case round =>
      obtain ⟨k', rfl, hk, hg, hkr⟩ := hrel
      by_cases hlt : k' < 2
      · have hkn2 : (k' : Int) < 2 := by omega
        have r := hC.out k' wr hlt hkr
        have hZp := hide (fun w1 hk => hZ.out k' w1 hk)
        generalize P k' = p at *
        go_wp2_with fail
        refine (zClear8 p wr (hZp.out wr hkr)).mono ?_
        rintro e x1 ⟨rfl, j1⟩
        have i1 := hkr.trans j1 (by simp)
        obtain ⟨q0, q1⟩ := hL.out x1 i1
        go_wp2_with fail
        refine (zpushes8 p a n c s x1 (hZp.out x1 i1)).mono ?_
        rintro e x2 ⟨rfl, j2⟩
        have i2 := i1.trans j2 (by simp)
        go_wp2_with fail
        refine (zpops8 p x2 (hZp.out x2 i2)).mono ?_
        rintro e x3 ⟨rfl, j3⟩
        have i3 := i2.trans j3 (by simp)
        go_wp2_with fail
        refine (zgets8 p k x3 (hZp.out x3 i3)).mono ?_
        rintro e x4 ⟨rfl, j4⟩
        have i4 := i3.trans j4 (by simp)
        clear q0 q1
        obtain ⟨q0, q1⟩ := hL.out x4 i4
        go_wp2_with fail
        refine (zSet8 p k a n c s x4 (hZp.out x4 i4)).mono ?_
        rintro e x5 ⟨rfl, j5⟩
        have i5 := i4.trans j5 (by simp)
        go_wp2_with fail
        refine (zranges8 p k t x5 (hZp.out x5 i5)).mono ?_
        rintro e x6 ⟨rfl, j6⟩
        have i6 := i5.trans j6 (by simp)
        go_wp2_with fail
        refine (zLimit8 p k x6 (hZp.out x6 i6)).mono ?_
        rintro e x7 ⟨rfl, j7⟩
        have i7 := i6.trans j7 (by simp)
        go_wp2_with fail
        refine (Zr.first (hZp.out x7 i7)).mono ?_
        rintro e x8 ⟨rfl, j8⟩
        have i8 := i7.trans j8 (by simp)
        go_wp2_with fail
        refine (Zr.next (hZp.out x8 i8)).mono ?_
        rintro e x9 ⟨rfl, j9⟩
        have i9 := i8.trans j9 (by simp)
        go_wp2_with fail
        refine (Zr.len (hZp.out x9 i9)).mono ?_
        rintro e x10 ⟨rfl, j10⟩
        have i10 := i9.trans j10 (by simp)
        go_wp2_with fail
        refine (Zr.most (hZp.out x10 i10)).mono ?_
        rintro e x11 ⟨rfl, j11⟩
        have i11 := i10.trans j11 (by simp)
        go_wp2_with fail
        refine (Zr.pages (hZp.out x11 i11)).mono ?_
        rintro e x12 ⟨rfl, j12⟩
        have i12 := i11.trans j12 (by simp)
        go_wp2_with fail
        refine (zCopy8 p x12 (hZp.out x12 i12)).mono ?_
        rintro e x13 ⟨rfl, j13⟩
        have i13 := i12.trans j13 (by simp)
        go_wp2_with fail
        go_roundg (2 - (k' + 1))
        case measure => omega
        case rel => exact ⟨k' + 1, by push_cast; rfl, by omega, Nat.le_refl _, i13⟩
      · obtain rfl : k' = 2 := by omega
        go_wp2_with fail
        refine (hkn0.out wr (hk1.trans hkr (by simp))).mono ?_
        rintro e w9 ⟨rfl, hj9⟩
        go_wp2_with fail
        go_ret
        exact ⟨rfl, ((hk0.trans hk1 (by simp)).trans hkr (by simp)).trans hj9 (by simp)⟩
end Go.Proofs.YtkdibkeamfmipaaDoor
