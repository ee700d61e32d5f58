/- cell.Fix. -/
import Derived.Test.YtkhdnaopdhnkaaaDoorCelOp
import Derived.Test.YtkhdnaopdhnkaaaDoorCelLeaf
namespace Go.Proofs.YtkhdnaopdhnkaaaDoor
open Go.RowKit
set_option linter.unusedVariables false
set_option maxRecDepth 100000
set_option linter.unusedSimpArgs false

theorem prevC_zero (l : List Cl) : ¬ (prevC zeroK l 0).w = 2 := by simp [prevC, zeroK, spacerC]

set_option maxHeartbeats 2000000 in
theorem Fix_any (a : Option Addr) (n c : Nat) (l : List Cl) (w : World) (hr : Rd w a n 16 (cellsV l)) (hn : n ≤ 1000) :
    Calls Tryd.prog 49 #[.slice a n c] w fun e w' => ∃ a' c', e = .returned (.slice a' n c') ∧ Own w' w.heap.size 60 a' n c' 16 (cellsV (fixI l)) ∧ Kept [] w w' := by
  have hl := hide hr.clen
  have hH := hide hr
  have hCl := hide (Clone_any a n c l w hr hn)
  clear hr
  go_enter Tryd.func49, Tryd.ntmps49
  go_wp2_with fail
  refine hCl.out.mono ?_
  rintro e w1 ⟨a', c', rfl, ho1, hk1⟩
  have hb1 := hide ho1.ge
  go_wp2_with fail
  go_loopg [4, 5, 10, 11, 12, 13, 14, 15, 16, 17, 18, 19, 20, 21, 22, 23, 24, 25, 26, 27, 28, 29, 30, 31, 32, 33, 34, 35, 36, 37, 38, 39, 40, 41, 42, 43, 44, 45, 46, 47, 48, 49, 50, 51, 52, 53, 54, 55, 56, 57, 58, 59, 60, 61, 62, 63] n (fun kx s4 s5 s10 s11 s12 s13 s14 s15 s16 s17 s18 s19 s20 s21 s22 s23 s24 s25 s26 s27 s28 s29 s30 s31 s32 s33 s34 s35 s36 s37 s38 s39 s40 s41 s42 s43 s44 s45 s46 s47 s48 s49 s50 s51 s52 s53 s54 s55 s56 s57 s58 s59 s60 s61 s62 s63 wr => ∃ (k : Nat), s10 = .int .i64 k ∧ k ≤ n ∧ n - k ≤ kx ∧ Own wr w.heap.size 60 a' n c' 16 (cellsV (flk l k)) ∧ Kept [] w wr)
  case atStart => exact ⟨0, rfl, Nat.zero_le _, by omega, ho1, hk1⟩
  case round =>
    obtain ⟨k, rfl, hk, hg, ho, hkr⟩ := hrel
    by_cases hlt : k < n
    · have hkl : k < l.length := by rw [hl.out]; exact hlt
      obtain ⟨b, o, rfl⟩ := hH.out.addr (fun h => by rw [h] at hkl; cases hkl)
      obtain ⟨g, rfl, _⟩ := ho.form (by omega)
      have hgb := hb1.out g (by simp [blk])
      have r1 := (hH.out.cel k hkl).kept hkr (by simp)
      have hkn : (k : Int) < (n : Int) := by omega
      have hkf : k < (flk l k).length := by rw [flk_len]; exact hkl
      have hfx := fix_at l k hkl
      have hNx : Hid (k + 1 < n → ∃ z, CelR w b (o + (k + 1) * 16) z ∧ headS (l.drop (k + 1)) = decide (z.w = 0)) := hide fun h => ⟨l[k + 1]'(by rw [hl.out]; exact h), hH.out.cel (k + 1) (by rw [hl.out]; exact h), by rw [List.drop_eq_getElem_cons (by rw [hl.out]; exact h)]; rfl⟩
      have hNo : Hid (¬ k + 1 < n → headS (l.drop (k + 1)) = false) := hide fun h => by rw [List.drop_of_length_le (by rw [hl.out]; omega)]; rfl
      have hSet := hide (fun y (hy : (fixI l)[k]? = some y) => flk_set l k hkl hy)
      have hSame := hide (flk_same l k hkl)
      have hPr := hide (fun j (hj : j + 1 = k) => flk_prev l j (by omega))
      generalize hxx : l[k] = x at *
      generalize headS (l.drop (k + 1)) = sx at *
      obtain ⟨Y, hYY⟩ : ∃ Y, Y = fixOne (prevC zeroK l k) x sx := ⟨_, rfl⟩
      rw [← hYY] at hfx
      have hY := hide hYY
      have hStep : Hid ((flk l k).set k Y = flk l (k + 1)) := hide (hSet.out Y hfx)
      have hKeep : Hid (Y = x → flk l k = flk l (k + 1)) := hide (fun h => hSame.out (by rw [hfx, h]))
      clear hYY hfx hSet hSame hxx
      have hcz : CelIn (wr.alloc (.cells #[.int .i32 0, .int .i32 0, .int .i32 0, .int .i32 0, .int .i64 0, .int .i64 0, .int .u8 0, .int .u8 0, .int .u8 0, .int .u8 0, .int .i64 0, .int .u8 0, .int .u8 0, .int .u8 0, .int .u8 0, .int .u8 0] 60)) wr.heap.size zeroK := heap_alloc_new wr _
      go_upto_region 5 with (first | refine wpList_load_cel rfl rfl b (o + k * 16) rfl r1 ?_ | (refine wpList_store_cel rfl rfl rfl wr.heap.size rfl hcz x rfl ?_; intro W2 hx2i hk2))
      have hx2 := hide hx2i
      have hkr2 : Kept [] wr W2 := ((Kept.refl [] wr).alloc _).trans hk2 (by intro z hz; simp at hz; omega)
      have ho2 := hide (ho.kept hkr2 (by simp))
      clear hx2i hk2 hcz r1
      have hSp := hide (fun w1 => spacer_any x w1)
      have hWd := hide (fun w1 => wide_any x w1)
      have hSpz := hide (fun z w1 => spacer_any z w1)
      have hBl := hide (fun w1 => Blank_any x.p w1)
      by_cases hk0 : k = 0
      · subst hk0
        have hpw : Hid (¬ (prevC zeroK l 0).w = 2) := hide (prevC_zero l)
        generalize prevC zeroK l 0 = pv at *
        have hk5 : Kept [] W2 W2 := Kept.refl [] W2
        have r5 := (hx2.out.kept hk5 (by simp)).range
        go_wp2_with (refine wpList_load_cel rfl rfl wr.heap.size 0 rfl r5 ?_)
        refine (hSp.out _).mono ?_
        rintro e w6 ⟨rfl, j6⟩
        have hk6 := hk5.trans j6 (by simp)
        clear r5 j6 hk5
        by_cases hx00 : x.w = 0
        · have dx0 : decide (x.w = 0) = true := decide_eq_true hx00
          have hx0 := hide hx00
          clear hx00
          have hy : Hid (Y = blankC x.p) := hide (by rw [hY.out]; unfold fixOne; rw [if_neg hpw.out, if_pos hx0.out])
          have rp := (hx2.out.kept hk6 (by simp)).range.pen
          have ho8 := ho2.out.kept hk6 (by simp)
          go_wp2_with (refine wpList_load_pen rfl rfl wr.heap.size 5 rfl rp ?_)
          refine (hBl.out _).mono ?_
          rintro e w9 ⟨rfl, j9⟩
          have ho9 := ho8.kept j9 (by simp)
          have hk9 := hk6.trans j9 (by simp)
          clear rp ho8 j9
          go_wp2_with (refine wpList_store_celO rfl rfl rfl g 0 rfl ho9 hkf (blankC x.p) rfl ?_; intro w10 ho10 hk10)
          go_roundg (n - (0 + 1))
          case measure => omega
          case rel => exact ⟨0 + 1, by push_cast; rfl, by omega, by omega, by rw [← hStep.out, hy.out]; exact ho10, ((hkr.trans hkr2 (by simp)).trans hk9 (by simp)).trans hk10 (by intro z hz; simp at hz; exact .inr (by omega))⟩
        · have dx0 : decide (x.w = 0) = false := decide_eq_false hx00
          have hx0 := hide hx00
          clear hx00
          have r6 := (hx2.out.kept hk6 (by simp)).range
          go_wp2_with (refine wpList_load_cel rfl rfl wr.heap.size 0 rfl r6 ?_)
          refine (hWd.out _).mono ?_
          rintro e w7 ⟨rfl, j7⟩
          have hk7 := hk6.trans j7 (by simp)
          clear r6 j7 hk6
          by_cases hx20 : x.w = 2
          · have dx2 : decide (x.w = 2) = true := decide_eq_true hx20
            have hx2' := hide hx20
            clear hx20
            by_cases hk1 : 0 + 1 < n
            · have hkn1 : (0 : Int) + 1 < (n : Int) := by omega
              have hlt1 : decide ((0 : Int) + 1 < (n : Int)) = true := decide_eq_true hkn1
              have hk01 : (0 : Int) ≤ (0 : Int) + 1 := by omega
              obtain ⟨z, hz, hzs⟩ := hNx.out hk1
              have rz := (hz.kept hkr (by simp)).kept hkr2 (by simp)
              have rz7 := rz.kept hk7 (by simp)
              go_wp2_with (refine wpList_load_celW rfl (by rfl) b (o + (0 + 1) * 16) rfl rz7 ?_)
              refine (hSpz.out z _).mono ?_
              rintro e w8 ⟨rfl, j8⟩
              have hk8 := hk7.trans j8 (by simp)
              clear j8 hk7 rz rz7
              by_cases hz00 : z.w = 0
              · have dz : decide (z.w = 0) = true := decide_eq_true hz00
                have hs : Hid (sx = true) := hide (by rw [hzs, dz])
                clear hz00 hz
                have hy : Hid (Y = x) := hide (by rw [hY.out]; unfold fixOne; rw [if_neg hpw.out, if_neg hx0.out, if_neg (by rw [hs.out]; simp)])
                go_wp2_with fail
                go_roundg (n - (0 + 1))
                case measure => omega
                case rel => exact ⟨0 + 1, by push_cast; rfl, by omega, by omega, by rw [← hKeep.out hy.out]; exact ho2.out.kept hk8 (by simp), (hkr.trans hkr2 (by simp)).trans hk8 (by simp)⟩
              · have dz : decide (z.w = 0) = false := decide_eq_false hz00
                have hs : Hid (sx = false) := hide (by rw [hzs, dz])
                clear hz00 hz
                have hy : Hid (Y = blankC x.p) := hide (by rw [hY.out]; unfold fixOne; rw [if_neg hpw.out, if_neg hx0.out, if_pos ⟨hx2'.out, hs.out⟩])
                have rp := (hx2.out.kept hk8 (by simp)).range.pen
                have ho8 := ho2.out.kept hk8 (by simp)
                go_wp2_with (refine wpList_load_pen rfl rfl wr.heap.size 5 rfl rp ?_)
                refine (hBl.out _).mono ?_
                rintro e w9 ⟨rfl, j9⟩
                have ho9 := ho8.kept j9 (by simp)
                have hk9 := hk8.trans j9 (by simp)
                clear rp ho8 j9
                go_wp2_with (refine wpList_store_celO rfl rfl rfl g 0 rfl ho9 hkf (blankC x.p) rfl ?_; intro w10 ho10 hk10)
                go_roundg (n - (0 + 1))
                case measure => omega
                case rel => exact ⟨0 + 1, by push_cast; rfl, by omega, by omega, by rw [← hStep.out, hy.out]; exact ho10, ((hkr.trans hkr2 (by simp)).trans hk9 (by simp)).trans hk10 (by intro z hz; simp at hz; exact .inr (by omega))⟩
            · have hkn1 : ¬ (0 : Int) + 1 < (n : Int) := by omega
              have hlt1 : decide ((0 : Int) + 1 < (n : Int)) = false := decide_eq_false hkn1
              have hs : Hid (sx = false) := hide (hNo.out hk1)
              have hy : Hid (Y = blankC x.p) := hide (by rw [hY.out]; unfold fixOne; rw [if_neg hpw.out, if_neg hx0.out, if_pos ⟨hx2'.out, hs.out⟩])
              have rp := (hx2.out.kept hk7 (by simp)).range.pen
              have ho8 := ho2.out.kept hk7 (by simp)
              go_wp2_with (refine wpList_load_pen rfl rfl wr.heap.size 5 rfl rp ?_)
              refine (hBl.out _).mono ?_
              rintro e w9 ⟨rfl, j9⟩
              have ho9 := ho8.kept j9 (by simp)
              have hk9 := hk7.trans j9 (by simp)
              clear rp ho8 j9
              go_wp2_with (refine wpList_store_celO rfl rfl rfl g 0 rfl ho9 hkf (blankC x.p) rfl ?_; intro w10 ho10 hk10)
              go_roundg (n - (0 + 1))
              case measure => omega
              case rel => exact ⟨0 + 1, by push_cast; rfl, by omega, by omega, by rw [← hStep.out, hy.out]; exact ho10, ((hkr.trans hkr2 (by simp)).trans hk9 (by simp)).trans hk10 (by intro z hz; simp at hz; exact .inr (by omega))⟩
          · have dx2 : decide (x.w = 2) = false := decide_eq_false hx20
            have hy : Hid (Y = x) := hide (by rw [hY.out]; unfold fixOne; rw [if_neg hpw.out, if_neg hx0.out, if_neg (fun h => hx20 h.1)])
            clear hx20
            go_wp2_with fail
            go_roundg (n - (0 + 1))
            case measure => omega
            case rel => exact ⟨0 + 1, by push_cast; rfl, by omega, by omega, by rw [← hKeep.out hy.out]; exact ho2.out.kept hk7 (by simp), (hkr.trans hkr2 (by simp)).trans hk7 (by simp)⟩
      · obtain ⟨j, rfl⟩ : ∃ j, k = j + 1 := ⟨k - 1, by omega⟩
        have hj0 : (0 : Int) < ((j + 1 : Nat) : Int) := by omega
        have hg0 : decide ((0 : Int) < ((j + 1 : Nat) : Int)) = true := decide_eq_true hj0
        have rp := (ho2.out.rd.celAt (hPr.out j rfl))
        rw [Nat.zero_add] at rp
        generalize prevC zeroK l (j + 1) = pv at *
        have hWp := hide (fun w1 => wide_any pv w1)
        have hSpp := hide (fun w1 => Spacer_any pv.p w1)
        have hjn : (j : Int) < (n : Int) := by omega
        go_wp2_with (refine wpList_load_celW rfl (by rfl) g (j * 16) rfl rp ?_)
        refine (hWp.out _).mono ?_
        rintro e w5 ⟨rfl, hk5⟩
        by_cases hp20 : pv.w = 2
        · have dp : decide (pv.w = 2) = true := decide_eq_true hp20
          have hy : Hid (Y = spacerC pv.p) := hide (by rw [hY.out]; unfold fixOne; rw [if_pos hp20])
          clear hp20
          have rq := (rp.kept hk5 (by simp)).pen
          have ho5 := ho2.out.kept hk5 (by simp)
          clear rp
          go_wp2_with (refine wpList_load_pen rfl rfl g (j * 16 + 5) rfl rq ?_)
          refine (hSpp.out _).mono ?_
          rintro e w6 ⟨rfl, j6⟩
          have ho6 := ho5.kept j6 (by simp)
          have hk6 := hk5.trans j6 (by simp)
          clear rq ho5
          go_wp2_with (refine wpList_store_celO rfl rfl rfl g (j + 1) rfl ho6 hkf (spacerC pv.p) rfl ?_; intro w10 ho10 hk10)
          go_roundg (n - (j + 1 + 1))
          case measure => omega
          case rel => exact ⟨j + 1 + 1, by push_cast; rfl, by omega, by omega, by rw [← hStep.out, hy.out]; exact ho10, ((hkr.trans hkr2 (by simp)).trans hk6 (by simp)).trans hk10 (by intro z hz; simp at hz; exact .inr (by omega))⟩
        · have dp : decide (pv.w = 2) = false := decide_eq_false hp20
          have hpw := hide hp20
          clear hp20 rp
          have r5 := (hx2.out.kept hk5 (by simp)).range
          go_wp2_with (refine wpList_load_cel rfl rfl wr.heap.size 0 rfl r5 ?_)
          refine (hSp.out _).mono ?_
          rintro e w6 ⟨rfl, j6⟩
          have hk6 := hk5.trans j6 (by simp)
          clear r5 j6 hk5
          by_cases hx00 : x.w = 0
          · have dx0 : decide (x.w = 0) = true := decide_eq_true hx00
            have hx0 := hide hx00
            clear hx00
            have hy : Hid (Y = blankC x.p) := hide (by rw [hY.out]; unfold fixOne; rw [if_neg hpw.out, if_pos hx0.out])
            have rp := (hx2.out.kept hk6 (by simp)).range.pen
            have ho8 := ho2.out.kept hk6 (by simp)
            go_wp2_with (refine wpList_load_pen rfl rfl wr.heap.size 5 rfl rp ?_)
            refine (hBl.out _).mono ?_
            rintro e w9 ⟨rfl, j9⟩
            have ho9 := ho8.kept j9 (by simp)
            have hk9 := hk6.trans j9 (by simp)
            clear rp ho8 j9
            go_wp2_with (refine wpList_store_celO rfl rfl rfl g (j + 1) rfl ho9 hkf (blankC x.p) rfl ?_; intro w10 ho10 hk10)
            go_roundg (n - ((j + 1) + 1))
            case measure => omega
            case rel => exact ⟨(j + 1) + 1, by push_cast; rfl, by omega, by omega, by rw [← hStep.out, hy.out]; exact ho10, ((hkr.trans hkr2 (by simp)).trans hk9 (by simp)).trans hk10 (by intro z hz; simp at hz; exact .inr (by omega))⟩
          · have dx0 : decide (x.w = 0) = false := decide_eq_false hx00
            have hx0 := hide hx00
            clear hx00
            have r6 := (hx2.out.kept hk6 (by simp)).range
            go_wp2_with (refine wpList_load_cel rfl rfl wr.heap.size 0 rfl r6 ?_)
            refine (hWd.out _).mono ?_
            rintro e w7 ⟨rfl, j7⟩
            have hk7 := hk6.trans j7 (by simp)
            clear r6 j7 hk6
            by_cases hx20 : x.w = 2
            · have dx2 : decide (x.w = 2) = true := decide_eq_true hx20
              have hx2' := hide hx20
              clear hx20
              by_cases hk1 : (j + 1) + 1 < n
              · have hkn1 : ((j + 1) : Int) + 1 < (n : Int) := by omega
                have hlt1 : decide (((j + 1) : Int) + 1 < (n : Int)) = true := decide_eq_true hkn1
                have hk01 : (0 : Int) ≤ ((j + 1) : Int) + 1 := by omega
                obtain ⟨z, hz, hzs⟩ := hNx.out hk1
                have rz := (hz.kept hkr (by simp)).kept hkr2 (by simp)
                have rz7 := rz.kept hk7 (by simp)
                go_wp2_with (refine wpList_load_celW rfl (by rfl) b (o + ((j + 1) + 1) * 16) rfl rz7 ?_)
                refine (hSpz.out z _).mono ?_
                rintro e w8 ⟨rfl, j8⟩
                have hk8 := hk7.trans j8 (by simp)
                clear j8 hk7 rz rz7
                by_cases hz00 : z.w = 0
                · have dz : decide (z.w = 0) = true := decide_eq_true hz00
                  have hs : Hid (sx = true) := hide (by rw [hzs, dz])
                  clear hz00 hz
                  have hy : Hid (Y = x) := hide (by rw [hY.out]; unfold fixOne; rw [if_neg hpw.out, if_neg hx0.out, if_neg (by rw [hs.out]; simp)])
                  go_wp2_with fail
                  go_roundg (n - ((j + 1) + 1))
                  case measure => omega
                  case rel => exact ⟨(j + 1) + 1, by push_cast; rfl, by omega, by omega, by rw [← hKeep.out hy.out]; exact ho2.out.kept hk8 (by simp), (hkr.trans hkr2 (by simp)).trans hk8 (by simp)⟩
                · have dz : decide (z.w = 0) = false := decide_eq_false hz00
                  have hs : Hid (sx = false) := hide (by rw [hzs, dz])
                  clear hz00 hz
                  have hy : Hid (Y = blankC x.p) := hide (by rw [hY.out]; unfold fixOne; rw [if_neg hpw.out, if_neg hx0.out, if_pos ⟨hx2'.out, hs.out⟩])
                  have rp := (hx2.out.kept hk8 (by simp)).range.pen
                  have ho8 := ho2.out.kept hk8 (by simp)
                  go_wp2_with (refine wpList_load_pen rfl rfl wr.heap.size 5 rfl rp ?_)
                  refine (hBl.out _).mono ?_
                  rintro e w9 ⟨rfl, j9⟩
                  have ho9 := ho8.kept j9 (by simp)
                  have hk9 := hk8.trans j9 (by simp)
                  clear rp ho8 j9
                  go_wp2_with (refine wpList_store_celO rfl rfl rfl g (j + 1) rfl ho9 hkf (blankC x.p) rfl ?_; intro w10 ho10 hk10)
                  go_roundg (n - ((j + 1) + 1))
                  case measure => omega
                  case rel => exact ⟨(j + 1) + 1, by push_cast; rfl, by omega, by omega, by rw [← hStep.out, hy.out]; exact ho10, ((hkr.trans hkr2 (by simp)).trans hk9 (by simp)).trans hk10 (by intro z hz; simp at hz; exact .inr (by omega))⟩
              · have hkn1 : ¬ ((j + 1) : Int) + 1 < (n : Int) := by omega
                have hlt1 : decide (((j + 1) : Int) + 1 < (n : Int)) = false := decide_eq_false hkn1
                have hs : Hid (sx = false) := hide (hNo.out hk1)
                have hy : Hid (Y = blankC x.p) := hide (by rw [hY.out]; unfold fixOne; rw [if_neg hpw.out, if_neg hx0.out, if_pos ⟨hx2'.out, hs.out⟩])
                have rp := (hx2.out.kept hk7 (by simp)).range.pen
                have ho8 := ho2.out.kept hk7 (by simp)
                go_wp2_with (refine wpList_load_pen rfl rfl wr.heap.size 5 rfl rp ?_)
                refine (hBl.out _).mono ?_
                rintro e w9 ⟨rfl, j9⟩
                have ho9 := ho8.kept j9 (by simp)
                have hk9 := hk7.trans j9 (by simp)
                clear rp ho8 j9
                go_wp2_with (refine wpList_store_celO rfl rfl rfl g (j + 1) rfl ho9 hkf (blankC x.p) rfl ?_; intro w10 ho10 hk10)
                go_roundg (n - ((j + 1) + 1))
                case measure => omega
                case rel => exact ⟨(j + 1) + 1, by push_cast; rfl, by omega, by omega, by rw [← hStep.out, hy.out]; exact ho10, ((hkr.trans hkr2 (by simp)).trans hk9 (by simp)).trans hk10 (by intro z hz; simp at hz; exact .inr (by omega))⟩
            · have dx2 : decide (x.w = 2) = false := decide_eq_false hx20
              have hy : Hid (Y = x) := hide (by rw [hY.out]; unfold fixOne; rw [if_neg hpw.out, if_neg hx0.out, if_neg (fun h => hx20 h.1)])
              clear hx20
              go_wp2_with fail
              go_roundg (n - ((j + 1) + 1))
              case measure => omega
              case rel => exact ⟨(j + 1) + 1, by push_cast; rfl, by omega, by omega, by rw [← hKeep.out hy.out]; exact ho2.out.kept hk7 (by simp), (hkr.trans hkr2 (by simp)).trans hk7 (by simp)⟩
    · obtain rfl : k = n := by omega
      go_wp2_with fail
      go_ret
      have e : flk l k = fixI l := by rw [← hl.out]; exact flk_all l
      exact ⟨a', c', rfl, by rw [← e]; exact ho, hkr⟩
end Go.Proofs.YtkhdnaopdhnkaaaDoor
