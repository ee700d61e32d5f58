/- The reference's Fix. -/
import Derived.Test.YtkhdnaopdhnkaaaDoorCelOp
namespace Go.Proofs.YtkhdnaopdhnkaaaDoor
open Go.RowKit
set_option linter.unusedVariables false
set_option maxRecDepth 100000
set_option linter.unusedSimpArgs false

theorem take_next (l : List Cl) (k : Nat) {y : Cl} (hy : (fixI l)[k]? = some y) : (fixI l).take (k + 1) = (fixI l).take k ++ [y] := by
  obtain ⟨h1, h2⟩ := List.getElem?_eq_some_iff.1 hy
  rw [List.take_succ_eq_append_getElem h1, h2]
theorem rprev_zero (l : List Cl) : ¬ (prevC zeroK l 0).w = 2 := by simp [prevC, zeroK, spacerC]
theorem prev_wide (l : List Cl) (k : Nat) (h : k < l.length) (hw : (prevC zeroK l k).w = 2) : l[k].w = 0 := by
  cases k with
  | zero => exact absurd hw (rprev_zero l)
  | succ k =>
    have e := fix_at l k (by omega)
    have e2 : prevC zeroK l (k + 1) = (fixI l).getD k zeroK := rfl
    rw [e2, List.getD_eq_getElem?_getD, e] at hw
    have hs := fixOne_wide (show (fixOne _ _ _).w = 2 from hw)
    rw [List.drop_eq_getElem_cons h] at hs
    simpa [headS] using hs

set_option maxHeartbeats 20000000 in
theorem rFix_any (a : Option Addr) (n c : Nat) (l : List Cl) (w : World) (hr : Rd w a n 16 (cellsV l)) (hn : n ≤ 1000) :
    Calls Tryd.prog 51 #[.slice a n c] w fun e w' => ∃ a' c', e = .returned (.slice a' n c') ∧ Own w' w.heap.size 60 a' n c' 16 (cellsV (fixI l)) ∧ Kept [] w w' := by
  have hl := hide hr.clen
  have hH := hide hr
  clear hr
  go_enter Tryd.func51, Tryd.ntmps51
  go_wp2_with fail
  go_loopg [3, 4, 5, 6, 7, 8, 9, 10, 11, 12, 13, 14, 15, 16, 17, 18, 19, 20, 21, 22, 23, 24, 25, 26, 27, 28, 29, 30, 31, 32, 33, 34, 35, 36, 37, 38, 39, 40, 41, 42, 43, 44, 45, 46, 47, 48, 49, 50, 51, 52, 53, 54, 55, 56, 57, 58, 59, 60, 61, 62, 63, 64, 65, 66, 67, 68, 69, 70, 71, 72, 73, 74, 75, 76] n (fun kx s3 s4 s5 s6 s7 s8 s9 s10 s11 s12 s13 s14 s15 s16 s17 s18 s19 s20 s21 s22 s23 s24 s25 s26 s27 s28 s29 s30 s31 s32 s33 s34 s35 s36 s37 s38 s39 s40 s41 s42 s43 s44 s45 s46 s47 s48 s49 s50 s51 s52 s53 s54 s55 s56 s57 s58 s59 s60 s61 s62 s63 s64 s65 s66 s67 s68 s69 s70 s71 s72 s73 s74 s75 s76 wr => ∃ (k : Nat) (a' : Option Addr) (c' : Nat), s3 = .slice a' k c' ∧ s4 = .int .i64 k ∧ k ≤ n ∧ n - k ≤ kx ∧ Own wr w.heap.size 60 a' k c' 16 (cellsV ((fixI l).take k)) ∧ Kept [] w wr)
  case atStart => exact ⟨0, none, 0, rfl, rfl, Nat.zero_le _, by omega, Own.nil _ _ _ _, Kept.refl _ _⟩
  case round =>
    obtain ⟨k, a', c', rfl, rfl, hk, hg, ho, hkr⟩ := hrel
    by_cases hlt : k < n
    · have hkl : k < l.length := by rw [hl.out]; exact hlt
      obtain ⟨b, o, rfl⟩ := hH.out.addr (fun h => by rw [h] at hkl; cases hkl)
      have r1 := (hH.out.cel k hkl).kept hkr (by simp)
      have hkn : (k : Int) < (n : Int) := by omega
      have hfx := fix_at l k hkl
      have hNx : Hid (k + 1 < n → ∃ z, CelR w b (o + (k + 1) * 16) z ∧ headS (l.drop (k + 1)) = decide (z.w = 0)) := hide fun h => ⟨l[k + 1]'(by rw [hl.out]; exact h), hH.out.cel (k + 1) (by rw [hl.out]; exact h), by rw [List.drop_eq_getElem_cons (by rw [hl.out]; exact h)]; rfl⟩
      have hNo : Hid (¬ k + 1 < n → headS (l.drop (k + 1)) = false) := hide fun h => by rw [List.drop_of_length_le (by rw [hl.out]; omega)]; rfl
      have hTk := hide (fun y (hy : (fixI l)[k]? = some y) => take_next l k hy)
      have hpx := hide (prev_wide l k hkl)
      generalize hxx : l[k] = x at *
      generalize headS (l.drop (k + 1)) = sx at *
      obtain ⟨Y, hYY⟩ : ∃ Y, Y = fixOne (prevC zeroK l k) x sx := ⟨_, rfl⟩
      rw [← hYY] at hfx
      have hY := hide hYY
      have hNext : Hid ((fixI l).take (k + 1) = (fixI l).take k ++ [Y]) := hide (hTk.out Y hfx)
      clear hYY hTk hxx
      have hfx := hide hfx
      have hcz : CelIn (wr.alloc (.cells #[.int .i32 0, .int .i32 0, .int .i32 0, .int .i32 0, .int .i64 0, .int .i64 0, .int .u8 0, .int .u8 0, .int .u8 0, .int .u8 0, .int .i64 0, .int .u8 0, .int .u8 0, .int .u8 0, .int .u8 0, .int .u8 0] 60)) wr.heap.size zeroK := heap_alloc_new wr _
      go_upto_region 6 with (first | refine wpList_load_cel rfl rfl b (o + k * 16) rfl r1 ?_ | (refine wpList_store_cel rfl rfl rfl wr.heap.size rfl hcz x rfl ?_; intro W2 hx2i hk2))
      have hx2 := hide hx2i
      have hkr2 : Kept [] wr W2 := ((Kept.refl [] wr).alloc _).trans hk2 (by intro z hz; simp at hz; omega)
      have ho2 := hide (ho.kept hkr2 (by simp))
      have x4 := hx2i.at.2.2.2.2.1
      clear hx2i hk2 hcz r1
      by_cases hk0 : k = 0
      · subst hk0
        have hpw : Hid (¬ (prevC zeroK l 0).w = 2) := hide (rprev_zero l)
        generalize prevC zeroK l 0 = pv at *
        by_cases hk1 : 0 + 1 < n
        · have hkn1 : (0 : Int) + 1 < (n : Int) := by omega
          have hlt1 : decide ((0 : Int) + 1 < (n : Int)) = true := decide_eq_true hkn1
          have hk01 : (0 : Int) ≤ (0 : Int) + 1 := by omega
          obtain ⟨z, hz, hzs⟩ := hNx.out hk1
          have z4 := ((hz.kept hkr (by simp)).kept hkr2 (by simp)).at.2.2.2.2.1
          by_cases hz00 : z.w = 0
          · have ez : (z.w == 0) = true := by simpa using hz00
            have hs : Hid (sx = true) := hide (by rw [hzs]; simpa using hz00)
            clear hz00 hz hzs
            by_cases hx00 : x.w = 0
            · have ex0 : (x.w == 0) = true := by simpa using hx00
              have hx0 := hide hx00
              clear hx00
              have hy : Hid (Y = blankC x.p) := hide (by rw [hY.out]; unfold fixOne; rw [if_neg hpw.out, if_pos hx0.out])
              have rp := hx2.out.range.pen
              go_upto_region 11 with fail
              go_upto_region 12 with (first | refine wpList_load_pen rfl rfl wr.heap.size 5 rfl rp ?_ | (refine wpList_store_cel rfl rfl rfl wr.heap.size rfl hx2.out (blankC x.p) rfl ?_; intro W3 hx3 hj3))
              have hk3 : Kept [] wr W3 := hkr2.trans hj3 (by intro z hz; simp at hz; omega)
              obtain ⟨y, hyy⟩ : ∃ y, y = blankC x.p := ⟨_, rfl⟩
              rw [← hyy] at hx3 hy
              clear hyy
              have ry := hx3.range
              have hoW := ho.kept hk3 (by simp)
              have hsz := hk3.size
              have hsz3 := hkr.size
              go_wp2_with (first | refine wpList_load_cel rfl rfl wr.heap.size 0 rfl ry ?_ | (at_builtin; refine wpList_app ?_ rfl elCell rfl rfl (hoW.alloc _) rfl (CelIn.rd (c := y) (heap_alloc_new W3 _)) (cellsV_one _) (by omega) (by simp; omega); intro a2 c2 w9 ho9 hk9 hat9))
              rw [← cellsV_app] at ho9
              go_roundg (n - (0 + 1))
              case measure => omega
              case rel => exact ⟨0 + 1, a2, _, rfl, by push_cast; rfl, by omega, by omega, by rw [hNext.out, hy.out]; exact ho9, ((hkr.trans hk3 (by simp)).alloc _).trans hk9 (fun z hz => .inr (ho.ge z hz).1)⟩
            · have ex0 : (x.w == 0) = false := by simpa using hx00
              have hx0 := hide hx00
              clear hx00
              by_cases hx20 : x.w = 2
              · have ex2 : (x.w == 2) = true := by simpa using hx20
                have hxt := hide hx20
                clear hx20
                have hy : Hid (Y = x) := hide (by rw [hY.out]; unfold fixOne; rw [if_neg hpw.out, if_neg hx0.out, if_neg (by rw [hs.out]; simp)])
                go_upto_region 12 with fail
                have ry := (hx2.out).range
                have hoW := ho2.out.kept (Kept.refl [] W2) (by simp)
                have hsz := ((Kept.refl [] W2)).size
                have hsz2 := hkr2.size
                have hsz3 := hkr.size
                go_wp2_with (first | refine wpList_load_cel rfl rfl wr.heap.size 0 rfl ry ?_ | (at_builtin; refine wpList_app ?_ rfl elCell rfl rfl (hoW.alloc _) rfl (CelIn.rd (c := x) (heap_alloc_new W2 _)) (cellsV_one _) (by omega) (by simp; omega); intro a2 c2 w9 ho9 hk9 hat9))
                rw [← cellsV_app] at ho9
                go_roundg (n - (0 + 1))
                case measure => omega
                case rel => exact ⟨0 + 1, a2, _, rfl, by push_cast; rfl, by omega, by omega, by rw [hNext.out, hy.out]; exact ho9, (((hkr.trans hkr2 (by simp)).trans (Kept.refl [] W2) (by simp)).alloc _).trans hk9 (fun z hz => .inr (ho.ge z hz).1)⟩
              · have ex2 : (x.w == 2) = false := by simpa using hx20
                have hxt := hide hx20
                clear hx20
                have hy : Hid (Y = x) := hide (by rw [hY.out]; unfold fixOne; rw [if_neg hpw.out, if_neg hx0.out, if_neg (fun h => hxt.out h.1)])
                go_upto_region 12 with fail
                have ry := (hx2.out).range
                have hoW := ho2.out.kept (Kept.refl [] W2) (by simp)
                have hsz := ((Kept.refl [] W2)).size
                have hsz2 := hkr2.size
                have hsz3 := hkr.size
                go_wp2_with (first | refine wpList_load_cel rfl rfl wr.heap.size 0 rfl ry ?_ | (at_builtin; refine wpList_app ?_ rfl elCell rfl rfl (hoW.alloc _) rfl (CelIn.rd (c := x) (heap_alloc_new W2 _)) (cellsV_one _) (by omega) (by simp; omega); intro a2 c2 w9 ho9 hk9 hat9))
                rw [← cellsV_app] at ho9
                go_roundg (n - (0 + 1))
                case measure => omega
                case rel => exact ⟨0 + 1, a2, _, rfl, by push_cast; rfl, by omega, by omega, by rw [hNext.out, hy.out]; exact ho9, (((hkr.trans hkr2 (by simp)).trans (Kept.refl [] W2) (by simp)).alloc _).trans hk9 (fun z hz => .inr (ho.ge z hz).1)⟩
          · have ez : (z.w == 0) = false := by simpa using hz00
            have hs : Hid (sx = false) := hide (by rw [hzs]; simpa using hz00)
            clear hz00 hz hzs
            by_cases hx00 : x.w = 0
            · have ex0 : (x.w == 0) = true := by simpa using hx00
              have hx0 := hide hx00
              clear hx00
              have hy : Hid (Y = blankC x.p) := hide (by rw [hY.out]; unfold fixOne; rw [if_neg hpw.out, if_pos hx0.out])
              have rp := hx2.out.range.pen
              go_upto_region 11 with fail
              go_upto_region 12 with (first | refine wpList_load_pen rfl rfl wr.heap.size 5 rfl rp ?_ | (refine wpList_store_cel rfl rfl rfl wr.heap.size rfl hx2.out (blankC x.p) rfl ?_; intro W3 hx3 hj3))
              have hk3 : Kept [] wr W3 := hkr2.trans hj3 (by intro z hz; simp at hz; omega)
              obtain ⟨y, hyy⟩ : ∃ y, y = blankC x.p := ⟨_, rfl⟩
              rw [← hyy] at hx3 hy
              clear hyy
              have ry := hx3.range
              have hoW := ho.kept hk3 (by simp)
              have hsz := hk3.size
              have hsz3 := hkr.size
              go_wp2_with (first | refine wpList_load_cel rfl rfl wr.heap.size 0 rfl ry ?_ | (at_builtin; refine wpList_app ?_ rfl elCell rfl rfl (hoW.alloc _) rfl (CelIn.rd (c := y) (heap_alloc_new W3 _)) (cellsV_one _) (by omega) (by simp; omega); intro a2 c2 w9 ho9 hk9 hat9))
              rw [← cellsV_app] at ho9
              go_roundg (n - (0 + 1))
              case measure => omega
              case rel => exact ⟨0 + 1, a2, _, rfl, by push_cast; rfl, by omega, by omega, by rw [hNext.out, hy.out]; exact ho9, ((hkr.trans hk3 (by simp)).alloc _).trans hk9 (fun z hz => .inr (ho.ge z hz).1)⟩
            · have ex0 : (x.w == 0) = false := by simpa using hx00
              have hx0 := hide hx00
              clear hx00
              by_cases hx20 : x.w = 2
              · have ex2 : (x.w == 2) = true := by simpa using hx20
                have hxt := hide hx20
                clear hx20
                have hy : Hid (Y = blankC x.p) := hide (by rw [hY.out]; unfold fixOne; rw [if_neg hpw.out, if_neg hx0.out, if_pos ⟨hxt.out, hs.out⟩])
                have rp := hx2.out.range.pen
                go_upto_region 11 with fail
                go_upto_region 12 with (first | refine wpList_load_pen rfl rfl wr.heap.size 5 rfl rp ?_ | (refine wpList_store_cel rfl rfl rfl wr.heap.size rfl hx2.out (blankC x.p) rfl ?_; intro W3 hx3 hj3))
                have hk3 : Kept [] wr W3 := hkr2.trans hj3 (by intro z hz; simp at hz; omega)
                obtain ⟨y, hyy⟩ : ∃ y, y = blankC x.p := ⟨_, rfl⟩
                rw [← hyy] at hx3 hy
                clear hyy
                have ry := hx3.range
                have hoW := ho.kept hk3 (by simp)
                have hsz := hk3.size
                have hsz3 := hkr.size
                go_wp2_with (first | refine wpList_load_cel rfl rfl wr.heap.size 0 rfl ry ?_ | (at_builtin; refine wpList_app ?_ rfl elCell rfl rfl (hoW.alloc _) rfl (CelIn.rd (c := y) (heap_alloc_new W3 _)) (cellsV_one _) (by omega) (by simp; omega); intro a2 c2 w9 ho9 hk9 hat9))
                rw [← cellsV_app] at ho9
                go_roundg (n - (0 + 1))
                case measure => omega
                case rel => exact ⟨0 + 1, a2, _, rfl, by push_cast; rfl, by omega, by omega, by rw [hNext.out, hy.out]; exact ho9, ((hkr.trans hk3 (by simp)).alloc _).trans hk9 (fun z hz => .inr (ho.ge z hz).1)⟩
              · have ex2 : (x.w == 2) = false := by simpa using hx20
                have hxt := hide hx20
                clear hx20
                have hy : Hid (Y = x) := hide (by rw [hY.out]; unfold fixOne; rw [if_neg hpw.out, if_neg hx0.out, if_neg (fun h => hxt.out h.1)])
                go_upto_region 12 with fail
                have ry := (hx2.out).range
                have hoW := ho2.out.kept (Kept.refl [] W2) (by simp)
                have hsz := ((Kept.refl [] W2)).size
                have hsz2 := hkr2.size
                have hsz3 := hkr.size
                go_wp2_with (first | refine wpList_load_cel rfl rfl wr.heap.size 0 rfl ry ?_ | (at_builtin; refine wpList_app ?_ rfl elCell rfl rfl (hoW.alloc _) rfl (CelIn.rd (c := x) (heap_alloc_new W2 _)) (cellsV_one _) (by omega) (by simp; omega); intro a2 c2 w9 ho9 hk9 hat9))
                rw [← cellsV_app] at ho9
                go_roundg (n - (0 + 1))
                case measure => omega
                case rel => exact ⟨0 + 1, a2, _, rfl, by push_cast; rfl, by omega, by omega, by rw [hNext.out, hy.out]; exact ho9, (((hkr.trans hkr2 (by simp)).trans (Kept.refl [] W2) (by simp)).alloc _).trans hk9 (fun z hz => .inr (ho.ge z hz).1)⟩
        · have hkn1 : ¬ (0 : Int) + 1 < (n : Int) := by omega
          have hlt1 : decide ((0 : Int) + 1 < (n : Int)) = false := decide_eq_false hkn1
          have hs : Hid (sx = false) := hide (hNo.out hk1)
          by_cases hx00 : x.w = 0
          · have ex0 : (x.w == 0) = true := by simpa using hx00
            have hx0 := hide hx00
            clear hx00
            have hy : Hid (Y = blankC x.p) := hide (by rw [hY.out]; unfold fixOne; rw [if_neg hpw.out, if_pos hx0.out])
            have rp := hx2.out.range.pen
            go_upto_region 11 with fail
            go_upto_region 12 with (first | refine wpList_load_pen rfl rfl wr.heap.size 5 rfl rp ?_ | (refine wpList_store_cel rfl rfl rfl wr.heap.size rfl hx2.out (blankC x.p) rfl ?_; intro W3 hx3 hj3))
            have hk3 : Kept [] wr W3 := hkr2.trans hj3 (by intro z hz; simp at hz; omega)
            obtain ⟨y, hyy⟩ : ∃ y, y = blankC x.p := ⟨_, rfl⟩
            rw [← hyy] at hx3 hy
            clear hyy
            have ry := hx3.range
            have hoW := ho.kept hk3 (by simp)
            have hsz := hk3.size
            have hsz3 := hkr.size
            go_wp2_with (first | refine wpList_load_cel rfl rfl wr.heap.size 0 rfl ry ?_ | (at_builtin; refine wpList_app ?_ rfl elCell rfl rfl (hoW.alloc _) rfl (CelIn.rd (c := y) (heap_alloc_new W3 _)) (cellsV_one _) (by omega) (by simp; omega); intro a2 c2 w9 ho9 hk9 hat9))
            rw [← cellsV_app] at ho9
            go_roundg (n - (0 + 1))
            case measure => omega
            case rel => exact ⟨0 + 1, a2, _, rfl, by push_cast; rfl, by omega, by omega, by rw [hNext.out, hy.out]; exact ho9, ((hkr.trans hk3 (by simp)).alloc _).trans hk9 (fun z hz => .inr (ho.ge z hz).1)⟩
          · have ex0 : (x.w == 0) = false := by simpa using hx00
            have hx0 := hide hx00
            clear hx00
            by_cases hx20 : x.w = 2
            · have ex2 : (x.w == 2) = true := by simpa using hx20
              have hxt := hide hx20
              clear hx20
              have hy : Hid (Y = blankC x.p) := hide (by rw [hY.out]; unfold fixOne; rw [if_neg hpw.out, if_neg hx0.out, if_pos ⟨hxt.out, hs.out⟩])
              have rp := hx2.out.range.pen
              go_upto_region 11 with fail
              go_upto_region 12 with (first | refine wpList_load_pen rfl rfl wr.heap.size 5 rfl rp ?_ | (refine wpList_store_cel rfl rfl rfl wr.heap.size rfl hx2.out (blankC x.p) rfl ?_; intro W3 hx3 hj3))
              have hk3 : Kept [] wr W3 := hkr2.trans hj3 (by intro z hz; simp at hz; omega)
              obtain ⟨y, hyy⟩ : ∃ y, y = blankC x.p := ⟨_, rfl⟩
              rw [← hyy] at hx3 hy
              clear hyy
              have ry := hx3.range
              have hoW := ho.kept hk3 (by simp)
              have hsz := hk3.size
              have hsz3 := hkr.size
              go_wp2_with (first | refine wpList_load_cel rfl rfl wr.heap.size 0 rfl ry ?_ | (at_builtin; refine wpList_app ?_ rfl elCell rfl rfl (hoW.alloc _) rfl (CelIn.rd (c := y) (heap_alloc_new W3 _)) (cellsV_one _) (by omega) (by simp; omega); intro a2 c2 w9 ho9 hk9 hat9))
              rw [← cellsV_app] at ho9
              go_roundg (n - (0 + 1))
              case measure => omega
              case rel => exact ⟨0 + 1, a2, _, rfl, by push_cast; rfl, by omega, by omega, by rw [hNext.out, hy.out]; exact ho9, ((hkr.trans hk3 (by simp)).alloc _).trans hk9 (fun z hz => .inr (ho.ge z hz).1)⟩
            · have ex2 : (x.w == 2) = false := by simpa using hx20
              have hxt := hide hx20
              clear hx20
              have hy : Hid (Y = x) := hide (by rw [hY.out]; unfold fixOne; rw [if_neg hpw.out, if_neg hx0.out, if_neg (fun h => hxt.out h.1)])
              go_upto_region 12 with fail
              have ry := (hx2.out).range
              have hoW := ho2.out.kept (Kept.refl [] W2) (by simp)
              have hsz := ((Kept.refl [] W2)).size
              have hsz2 := hkr2.size
              have hsz3 := hkr.size
              go_wp2_with (first | refine wpList_load_cel rfl rfl wr.heap.size 0 rfl ry ?_ | (at_builtin; refine wpList_app ?_ rfl elCell rfl rfl (hoW.alloc _) rfl (CelIn.rd (c := x) (heap_alloc_new W2 _)) (cellsV_one _) (by omega) (by simp; omega); intro a2 c2 w9 ho9 hk9 hat9))
              rw [← cellsV_app] at ho9
              go_roundg (n - (0 + 1))
              case measure => omega
              case rel => exact ⟨0 + 1, a2, _, rfl, by push_cast; rfl, by omega, by omega, by rw [hNext.out, hy.out]; exact ho9, (((hkr.trans hkr2 (by simp)).trans (Kept.refl [] W2) (by simp)).alloc _).trans hk9 (fun z hz => .inr (ho.ge z hz).1)⟩
      · obtain ⟨j, rfl⟩ : ∃ j, k = j + 1 := ⟨k - 1, by omega⟩
        have hj0 : (0 : Int) < ((j + 1 : Nat) : Int) := by omega
        have hg0 : decide ((0 : Int) < ((j + 1 : Nat) : Int)) = true := decide_eq_true hj0
        obtain ⟨g, rfl, _⟩ := ho.form (by omega)
        have rp0 := (ho2.out.rd.celAt (i := j) (x := prevC zeroK l (j + 1)) (by
          have e2 : prevC zeroK l (j + 1) = (fixI l).getD j zeroK := rfl
          have hj : j < (fixI l).length := by rw [fixI_len]; omega
          rw [e2, List.getElem?_take, if_pos (by omega), List.getD_eq_getElem?_getD, List.getElem?_eq_getElem hj]
          rfl))
        rw [Nat.zero_add] at rp0
        generalize prevC zeroK l (j + 1) = pv at *
        have hjn : (j : Int) < (j : Int) + 1 := by omega
        have p4 := rp0.at.2.2.2.2.1
        have rq := rp0.pen
        by_cases hp20 : pv.w = 2
        · have ep : (pv.w == 2) = true := by simpa using hp20
          have hpw := hide hp20
          clear hp20 rp0
          by_cases hk1 : (j + 1) + 1 < n
          · have hkn1 : ((j + 1) : Int) + 1 < (n : Int) := by omega
            have hlt1 : decide (((j + 1) : Int) + 1 < (n : Int)) = true := decide_eq_true hkn1
            have hk01 : (0 : Int) ≤ ((j + 1) : Int) + 1 := by omega
            obtain ⟨z, hz, hzs⟩ := hNx.out hk1
            have z4 := ((hz.kept hkr (by simp)).kept hkr2 (by simp)).at.2.2.2.2.1
            by_cases hz00 : z.w = 0
            · have ez : (z.w == 0) = true := by simpa using hz00
              have hs : Hid (sx = true) := hide (by rw [hzs]; simpa using hz00)
              clear hz00 hz hzs
              have ex0 : (x.w == 0) = true := by have := hpx.out hpw.out; simpa using this
              have hy : Hid (Y = spacerC pv.p) := hide (by rw [hY.out]; unfold fixOne; rw [if_pos hpw.out])
              go_upto_region 9 with fail
              go_upto_region 12 with (first | refine wpList_load_pen rfl rfl g (j * 16 + 5) rfl rq ?_ | (refine wpList_store_cel rfl rfl rfl wr.heap.size rfl hx2.out (spacerC pv.p) rfl ?_; intro W3 hx3 hj3))
              have hk3 : Kept [] wr W3 := hkr2.trans hj3 (by intro z hz; simp at hz; omega)
              obtain ⟨y, hyy⟩ : ∃ y, y = spacerC pv.p := ⟨_, rfl⟩
              rw [← hyy] at hx3 hy
              clear hyy
              have ry := hx3.range
              have hoW := ho.kept hk3 (by simp)
              have hsz := hk3.size
              have hsz3 := hkr.size
              go_wp2_with (first | refine wpList_load_cel rfl rfl wr.heap.size 0 rfl ry ?_ | (at_builtin; refine wpList_app ?_ rfl elCell rfl rfl (hoW.alloc _) rfl (CelIn.rd (c := y) (heap_alloc_new W3 _)) (cellsV_one _) (by omega) (by simp; omega); intro a2 c2 w9 ho9 hk9 hat9))
              rw [← cellsV_app] at ho9
              go_roundg (n - ((j + 1) + 1))
              case measure => omega
              case rel => exact ⟨(j + 1) + 1, a2, _, rfl, by push_cast; rfl, by omega, by omega, by rw [hNext.out, hy.out]; exact ho9, ((hkr.trans hk3 (by simp)).alloc _).trans hk9 (fun z hz => .inr (ho.ge z hz).1)⟩
            · have ez : (z.w == 0) = false := by simpa using hz00
              have hs : Hid (sx = false) := hide (by rw [hzs]; simpa using hz00)
              clear hz00 hz hzs
              have ex0 : (x.w == 0) = true := by have := hpx.out hpw.out; simpa using this
              have hy : Hid (Y = spacerC pv.p) := hide (by rw [hY.out]; unfold fixOne; rw [if_pos hpw.out])
              go_upto_region 9 with fail
              go_upto_region 12 with (first | refine wpList_load_pen rfl rfl g (j * 16 + 5) rfl rq ?_ | (refine wpList_store_cel rfl rfl rfl wr.heap.size rfl hx2.out (spacerC pv.p) rfl ?_; intro W3 hx3 hj3))
              have hk3 : Kept [] wr W3 := hkr2.trans hj3 (by intro z hz; simp at hz; omega)
              obtain ⟨y, hyy⟩ : ∃ y, y = spacerC pv.p := ⟨_, rfl⟩
              rw [← hyy] at hx3 hy
              clear hyy
              have ry := hx3.range
              have hoW := ho.kept hk3 (by simp)
              have hsz := hk3.size
              have hsz3 := hkr.size
              go_wp2_with (first | refine wpList_load_cel rfl rfl wr.heap.size 0 rfl ry ?_ | (at_builtin; refine wpList_app ?_ rfl elCell rfl rfl (hoW.alloc _) rfl (CelIn.rd (c := y) (heap_alloc_new W3 _)) (cellsV_one _) (by omega) (by simp; omega); intro a2 c2 w9 ho9 hk9 hat9))
              rw [← cellsV_app] at ho9
              go_roundg (n - ((j + 1) + 1))
              case measure => omega
              case rel => exact ⟨(j + 1) + 1, a2, _, rfl, by push_cast; rfl, by omega, by omega, by rw [hNext.out, hy.out]; exact ho9, ((hkr.trans hk3 (by simp)).alloc _).trans hk9 (fun z hz => .inr (ho.ge z hz).1)⟩
          · have hkn1 : ¬ ((j + 1) : Int) + 1 < (n : Int) := by omega
            have hlt1 : decide (((j + 1) : Int) + 1 < (n : Int)) = false := decide_eq_false hkn1
            have hs : Hid (sx = false) := hide (hNo.out hk1)
            have ex0 : (x.w == 0) = true := by have := hpx.out hpw.out; simpa using this
            have hy : Hid (Y = spacerC pv.p) := hide (by rw [hY.out]; unfold fixOne; rw [if_pos hpw.out])
            go_upto_region 9 with fail
            go_upto_region 12 with (first | refine wpList_load_pen rfl rfl g (j * 16 + 5) rfl rq ?_ | (refine wpList_store_cel rfl rfl rfl wr.heap.size rfl hx2.out (spacerC pv.p) rfl ?_; intro W3 hx3 hj3))
            have hk3 : Kept [] wr W3 := hkr2.trans hj3 (by intro z hz; simp at hz; omega)
            obtain ⟨y, hyy⟩ : ∃ y, y = spacerC pv.p := ⟨_, rfl⟩
            rw [← hyy] at hx3 hy
            clear hyy
            have ry := hx3.range
            have hoW := ho.kept hk3 (by simp)
            have hsz := hk3.size
            have hsz3 := hkr.size
            go_wp2_with (first | refine wpList_load_cel rfl rfl wr.heap.size 0 rfl ry ?_ | (at_builtin; refine wpList_app ?_ rfl elCell rfl rfl (hoW.alloc _) rfl (CelIn.rd (c := y) (heap_alloc_new W3 _)) (cellsV_one _) (by omega) (by simp; omega); intro a2 c2 w9 ho9 hk9 hat9))
            rw [← cellsV_app] at ho9
            go_roundg (n - ((j + 1) + 1))
            case measure => omega
            case rel => exact ⟨(j + 1) + 1, a2, _, rfl, by push_cast; rfl, by omega, by omega, by rw [hNext.out, hy.out]; exact ho9, ((hkr.trans hk3 (by simp)).alloc _).trans hk9 (fun z hz => .inr (ho.ge z hz).1)⟩
        · have ep : (pv.w == 2) = false := by simpa using hp20
          have hpw := hide hp20
          clear hp20 rp0 rq
          by_cases hk1 : (j + 1) + 1 < n
          · have hkn1 : ((j + 1) : Int) + 1 < (n : Int) := by omega
            have hlt1 : decide (((j + 1) : Int) + 1 < (n : Int)) = true := decide_eq_true hkn1
            have hk01 : (0 : Int) ≤ ((j + 1) : Int) + 1 := by omega
            obtain ⟨z, hz, hzs⟩ := hNx.out hk1
            have z4 := ((hz.kept hkr (by simp)).kept hkr2 (by simp)).at.2.2.2.2.1
            by_cases hz00 : z.w = 0
            · have ez : (z.w == 0) = true := by simpa using hz00
              have hs : Hid (sx = true) := hide (by rw [hzs]; simpa using hz00)
              clear hz00 hz hzs
              by_cases hx00 : x.w = 0
              · have ex0 : (x.w == 0) = true := by simpa using hx00
                have hx0 := hide hx00
                clear hx00
                have hy : Hid (Y = blankC x.p) := hide (by rw [hY.out]; unfold fixOne; rw [if_neg hpw.out, if_pos hx0.out])
                have rp := hx2.out.range.pen
                go_upto_region 11 with fail
                go_upto_region 12 with (first | refine wpList_load_pen rfl rfl wr.heap.size 5 rfl rp ?_ | (refine wpList_store_cel rfl rfl rfl wr.heap.size rfl hx2.out (blankC x.p) rfl ?_; intro W3 hx3 hj3))
                have hk3 : Kept [] wr W3 := hkr2.trans hj3 (by intro z hz; simp at hz; omega)
                obtain ⟨y, hyy⟩ : ∃ y, y = blankC x.p := ⟨_, rfl⟩
                rw [← hyy] at hx3 hy
                clear hyy
                have ry := hx3.range
                have hoW := ho.kept hk3 (by simp)
                have hsz := hk3.size
                have hsz3 := hkr.size
                go_wp2_with (first | refine wpList_load_cel rfl rfl wr.heap.size 0 rfl ry ?_ | (at_builtin; refine wpList_app ?_ rfl elCell rfl rfl (hoW.alloc _) rfl (CelIn.rd (c := y) (heap_alloc_new W3 _)) (cellsV_one _) (by omega) (by simp; omega); intro a2 c2 w9 ho9 hk9 hat9))
                rw [← cellsV_app] at ho9
                go_roundg (n - ((j + 1) + 1))
                case measure => omega
                case rel => exact ⟨(j + 1) + 1, a2, _, rfl, by push_cast; rfl, by omega, by omega, by rw [hNext.out, hy.out]; exact ho9, ((hkr.trans hk3 (by simp)).alloc _).trans hk9 (fun z hz => .inr (ho.ge z hz).1)⟩
              · have ex0 : (x.w == 0) = false := by simpa using hx00
                have hx0 := hide hx00
                clear hx00
                by_cases hx20 : x.w = 2
                · have ex2 : (x.w == 2) = true := by simpa using hx20
                  have hxt := hide hx20
                  clear hx20
                  have hy : Hid (Y = x) := hide (by rw [hY.out]; unfold fixOne; rw [if_neg hpw.out, if_neg hx0.out, if_neg (by rw [hs.out]; simp)])
                  go_upto_region 12 with fail
                  have ry := (hx2.out).range
                  have hoW := ho2.out.kept (Kept.refl [] W2) (by simp)
                  have hsz := ((Kept.refl [] W2)).size
                  have hsz2 := hkr2.size
                  have hsz3 := hkr.size
                  go_wp2_with (first | refine wpList_load_cel rfl rfl wr.heap.size 0 rfl ry ?_ | (at_builtin; refine wpList_app ?_ rfl elCell rfl rfl (hoW.alloc _) rfl (CelIn.rd (c := x) (heap_alloc_new W2 _)) (cellsV_one _) (by omega) (by simp; omega); intro a2 c2 w9 ho9 hk9 hat9))
                  rw [← cellsV_app] at ho9
                  go_roundg (n - ((j + 1) + 1))
                  case measure => omega
                  case rel => exact ⟨(j + 1) + 1, a2, _, rfl, by push_cast; rfl, by omega, by omega, by rw [hNext.out, hy.out]; exact ho9, (((hkr.trans hkr2 (by simp)).trans (Kept.refl [] W2) (by simp)).alloc _).trans hk9 (fun z hz => .inr (ho.ge z hz).1)⟩
                · have ex2 : (x.w == 2) = false := by simpa using hx20
                  have hxt := hide hx20
                  clear hx20
                  have hy : Hid (Y = x) := hide (by rw [hY.out]; unfold fixOne; rw [if_neg hpw.out, if_neg hx0.out, if_neg (fun h => hxt.out h.1)])
                  go_upto_region 12 with fail
                  have ry := (hx2.out).range
                  have hoW := ho2.out.kept (Kept.refl [] W2) (by simp)
                  have hsz := ((Kept.refl [] W2)).size
                  have hsz2 := hkr2.size
                  have hsz3 := hkr.size
                  go_wp2_with (first | refine wpList_load_cel rfl rfl wr.heap.size 0 rfl ry ?_ | (at_builtin; refine wpList_app ?_ rfl elCell rfl rfl (hoW.alloc _) rfl (CelIn.rd (c := x) (heap_alloc_new W2 _)) (cellsV_one _) (by omega) (by simp; omega); intro a2 c2 w9 ho9 hk9 hat9))
                  rw [← cellsV_app] at ho9
                  go_roundg (n - ((j + 1) + 1))
                  case measure => omega
                  case rel => exact ⟨(j + 1) + 1, a2, _, rfl, by push_cast; rfl, by omega, by omega, by rw [hNext.out, hy.out]; exact ho9, (((hkr.trans hkr2 (by simp)).trans (Kept.refl [] W2) (by simp)).alloc _).trans hk9 (fun z hz => .inr (ho.ge z hz).1)⟩
            · have ez : (z.w == 0) = false := by simpa using hz00
              have hs : Hid (sx = false) := hide (by rw [hzs]; simpa using hz00)
              clear hz00 hz hzs
              by_cases hx00 : x.w = 0
              · have ex0 : (x.w == 0) = true := by simpa using hx00
                have hx0 := hide hx00
                clear hx00
                have hy : Hid (Y = blankC x.p) := hide (by rw [hY.out]; unfold fixOne; rw [if_neg hpw.out, if_pos hx0.out])
                have rp := hx2.out.range.pen
                go_upto_region 11 with fail
                go_upto_region 12 with (first | refine wpList_load_pen rfl rfl wr.heap.size 5 rfl rp ?_ | (refine wpList_store_cel rfl rfl rfl wr.heap.size rfl hx2.out (blankC x.p) rfl ?_; intro W3 hx3 hj3))
                have hk3 : Kept [] wr W3 := hkr2.trans hj3 (by intro z hz; simp at hz; omega)
                obtain ⟨y, hyy⟩ : ∃ y, y = blankC x.p := ⟨_, rfl⟩
                rw [← hyy] at hx3 hy
                clear hyy
                have ry := hx3.range
                have hoW := ho.kept hk3 (by simp)
                have hsz := hk3.size
                have hsz3 := hkr.size
                go_wp2_with (first | refine wpList_load_cel rfl rfl wr.heap.size 0 rfl ry ?_ | (at_builtin; refine wpList_app ?_ rfl elCell rfl rfl (hoW.alloc _) rfl (CelIn.rd (c := y) (heap_alloc_new W3 _)) (cellsV_one _) (by omega) (by simp; omega); intro a2 c2 w9 ho9 hk9 hat9))
                rw [← cellsV_app] at ho9
                go_roundg (n - ((j + 1) + 1))
                case measure => omega
                case rel => exact ⟨(j + 1) + 1, a2, _, rfl, by push_cast; rfl, by omega, by omega, by rw [hNext.out, hy.out]; exact ho9, ((hkr.trans hk3 (by simp)).alloc _).trans hk9 (fun z hz => .inr (ho.ge z hz).1)⟩
              · have ex0 : (x.w == 0) = false := by simpa using hx00
                have hx0 := hide hx00
                clear hx00
                by_cases hx20 : x.w = 2
                · have ex2 : (x.w == 2) = true := by simpa using hx20
                  have hxt := hide hx20
                  clear hx20
                  have hy : Hid (Y = blankC x.p) := hide (by rw [hY.out]; unfold fixOne; rw [if_neg hpw.out, if_neg hx0.out, if_pos ⟨hxt.out, hs.out⟩])
                  have rp := hx2.out.range.pen
                  go_upto_region 11 with fail
                  go_upto_region 12 with (first | refine wpList_load_pen rfl rfl wr.heap.size 5 rfl rp ?_ | (refine wpList_store_cel rfl rfl rfl wr.heap.size rfl hx2.out (blankC x.p) rfl ?_; intro W3 hx3 hj3))
                  have hk3 : Kept [] wr W3 := hkr2.trans hj3 (by intro z hz; simp at hz; omega)
                  obtain ⟨y, hyy⟩ : ∃ y, y = blankC x.p := ⟨_, rfl⟩
                  rw [← hyy] at hx3 hy
                  clear hyy
                  have ry := hx3.range
                  have hoW := ho.kept hk3 (by simp)
                  have hsz := hk3.size
                  have hsz3 := hkr.size
                  go_wp2_with (first | refine wpList_load_cel rfl rfl wr.heap.size 0 rfl ry ?_ | (at_builtin; refine wpList_app ?_ rfl elCell rfl rfl (hoW.alloc _) rfl (CelIn.rd (c := y) (heap_alloc_new W3 _)) (cellsV_one _) (by omega) (by simp; omega); intro a2 c2 w9 ho9 hk9 hat9))
                  rw [← cellsV_app] at ho9
                  go_roundg (n - ((j + 1) + 1))
                  case measure => omega
                  case rel => exact ⟨(j + 1) + 1, a2, _, rfl, by push_cast; rfl, by omega, by omega, by rw [hNext.out, hy.out]; exact ho9, ((hkr.trans hk3 (by simp)).alloc _).trans hk9 (fun z hz => .inr (ho.ge z hz).1)⟩
                · have ex2 : (x.w == 2) = false := by simpa using hx20
                  have hxt := hide hx20
                  clear hx20
                  have hy : Hid (Y = x) := hide (by rw [hY.out]; unfold fixOne; rw [if_neg hpw.out, if_neg hx0.out, if_neg (fun h => hxt.out h.1)])
                  go_upto_region 12 with fail
                  have ry := (hx2.out).range
                  have hoW := ho2.out.kept (Kept.refl [] W2) (by simp)
                  have hsz := ((Kept.refl [] W2)).size
                  have hsz2 := hkr2.size
                  have hsz3 := hkr.size
                  go_wp2_with (first | refine wpList_load_cel rfl rfl wr.heap.size 0 rfl ry ?_ | (at_builtin; refine wpList_app ?_ rfl elCell rfl rfl (hoW.alloc _) rfl (CelIn.rd (c := x) (heap_alloc_new W2 _)) (cellsV_one _) (by omega) (by simp; omega); intro a2 c2 w9 ho9 hk9 hat9))
                  rw [← cellsV_app] at ho9
                  go_roundg (n - ((j + 1) + 1))
                  case measure => omega
                  case rel => exact ⟨(j + 1) + 1, a2, _, rfl, by push_cast; rfl, by omega, by omega, by rw [hNext.out, hy.out]; exact ho9, (((hkr.trans hkr2 (by simp)).trans (Kept.refl [] W2) (by simp)).alloc _).trans hk9 (fun z hz => .inr (ho.ge z hz).1)⟩
          · have hkn1 : ¬ ((j + 1) : Int) + 1 < (n : Int) := by omega
            have hlt1 : decide (((j + 1) : Int) + 1 < (n : Int)) = false := decide_eq_false hkn1
            have hs : Hid (sx = false) := hide (hNo.out hk1)
            by_cases hx00 : x.w = 0
            · have ex0 : (x.w == 0) = true := by simpa using hx00
              have hx0 := hide hx00
              clear hx00
              have hy : Hid (Y = blankC x.p) := hide (by rw [hY.out]; unfold fixOne; rw [if_neg hpw.out, if_pos hx0.out])
              have rp := hx2.out.range.pen
              go_upto_region 11 with fail
              go_upto_region 12 with (first | refine wpList_load_pen rfl rfl wr.heap.size 5 rfl rp ?_ | (refine wpList_store_cel rfl rfl rfl wr.heap.size rfl hx2.out (blankC x.p) rfl ?_; intro W3 hx3 hj3))
              have hk3 : Kept [] wr W3 := hkr2.trans hj3 (by intro z hz; simp at hz; omega)
              obtain ⟨y, hyy⟩ : ∃ y, y = blankC x.p := ⟨_, rfl⟩
              rw [← hyy] at hx3 hy
              clear hyy
              have ry := hx3.range
              have hoW := ho.kept hk3 (by simp)
              have hsz := hk3.size
              have hsz3 := hkr.size
              go_wp2_with (first | refine wpList_load_cel rfl rfl wr.heap.size 0 rfl ry ?_ | (at_builtin; refine wpList_app ?_ rfl elCell rfl rfl (hoW.alloc _) rfl (CelIn.rd (c := y) (heap_alloc_new W3 _)) (cellsV_one _) (by omega) (by simp; omega); intro a2 c2 w9 ho9 hk9 hat9))
              rw [← cellsV_app] at ho9
              go_roundg (n - ((j + 1) + 1))
              case measure => omega
              case rel => exact ⟨(j + 1) + 1, a2, _, rfl, by push_cast; rfl, by omega, by omega, by rw [hNext.out, hy.out]; exact ho9, ((hkr.trans hk3 (by simp)).alloc _).trans hk9 (fun z hz => .inr (ho.ge z hz).1)⟩
            · have ex0 : (x.w == 0) = false := by simpa using hx00
              have hx0 := hide hx00
              clear hx00
              by_cases hx20 : x.w = 2
              · have ex2 : (x.w == 2) = true := by simpa using hx20
                have hxt := hide hx20
                clear hx20
                have hy : Hid (Y = blankC x.p) := hide (by rw [hY.out]; unfold fixOne; rw [if_neg hpw.out, if_neg hx0.out, if_pos ⟨hxt.out, hs.out⟩])
                have rp := hx2.out.range.pen
                go_upto_region 11 with fail
                go_upto_region 12 with (first | refine wpList_load_pen rfl rfl wr.heap.size 5 rfl rp ?_ | (refine wpList_store_cel rfl rfl rfl wr.heap.size rfl hx2.out (blankC x.p) rfl ?_; intro W3 hx3 hj3))
                have hk3 : Kept [] wr W3 := hkr2.trans hj3 (by intro z hz; simp at hz; omega)
                obtain ⟨y, hyy⟩ : ∃ y, y = blankC x.p := ⟨_, rfl⟩
                rw [← hyy] at hx3 hy
                clear hyy
                have ry := hx3.range
                have hoW := ho.kept hk3 (by simp)
                have hsz := hk3.size
                have hsz3 := hkr.size
                go_wp2_with (first | refine wpList_load_cel rfl rfl wr.heap.size 0 rfl ry ?_ | (at_builtin; refine wpList_app ?_ rfl elCell rfl rfl (hoW.alloc _) rfl (CelIn.rd (c := y) (heap_alloc_new W3 _)) (cellsV_one _) (by omega) (by simp; omega); intro a2 c2 w9 ho9 hk9 hat9))
                rw [← cellsV_app] at ho9
                go_roundg (n - ((j + 1) + 1))
                case measure => omega
                case rel => exact ⟨(j + 1) + 1, a2, _, rfl, by push_cast; rfl, by omega, by omega, by rw [hNext.out, hy.out]; exact ho9, ((hkr.trans hk3 (by simp)).alloc _).trans hk9 (fun z hz => .inr (ho.ge z hz).1)⟩
              · have ex2 : (x.w == 2) = false := by simpa using hx20
                have hxt := hide hx20
                clear hx20
                have hy : Hid (Y = x) := hide (by rw [hY.out]; unfold fixOne; rw [if_neg hpw.out, if_neg hx0.out, if_neg (fun h => hxt.out h.1)])
                go_upto_region 12 with fail
                have ry := (hx2.out).range
                have hoW := ho2.out.kept (Kept.refl [] W2) (by simp)
                have hsz := ((Kept.refl [] W2)).size
                have hsz2 := hkr2.size
                have hsz3 := hkr.size
                go_wp2_with (first | refine wpList_load_cel rfl rfl wr.heap.size 0 rfl ry ?_ | (at_builtin; refine wpList_app ?_ rfl elCell rfl rfl (hoW.alloc _) rfl (CelIn.rd (c := x) (heap_alloc_new W2 _)) (cellsV_one _) (by omega) (by simp; omega); intro a2 c2 w9 ho9 hk9 hat9))
                rw [← cellsV_app] at ho9
                go_roundg (n - ((j + 1) + 1))
                case measure => omega
                case rel => exact ⟨(j + 1) + 1, a2, _, rfl, by push_cast; rfl, by omega, by omega, by rw [hNext.out, hy.out]; exact ho9, (((hkr.trans hkr2 (by simp)).trans (Kept.refl [] W2) (by simp)).alloc _).trans hk9 (fun z hz => .inr (ho.ge z hz).1)⟩
    · obtain rfl : k = n := by omega
      go_wp2_with fail
      go_ret
      have e : (fixI l).take k = fixI l := List.take_of_length_le (by rw [fixI_len]; exact Nat.le_of_eq hl.out)
      exact ⟨a', c', rfl, by rw [← e]; exact ho, hkr⟩
end Go.Proofs.YtkhdnaopdhnkaaaDoor
