/- Layer 9: the law PlaceHolds. -/
import Derived.Test.YtnkddhmhjnhgcabDoorPlKn
namespace Go.Proofs.YtnkddhmhjnhgcabDoor
open Go.RowKit Go.Sort
set_option linter.unusedVariables false
set_option linter.unusedSimpArgs false
set_option maxRecDepth 100000

theorem pl_eql (p q : Pl) (w : World) : (binOp .eql 23 (.agg #[.int .i64 p.l, .int .i64 p.c]) (.agg #[.int .i64 q.l, .int .i64 q.c])).run Tryd.prog w = .ok (.bool (decide (p = q))) w := by
  obtain ⟨a, b⟩ := p
  obtain ⟨c, d⟩ := q
  rcases Classical.em (¬ a = c) with h0 | h0
  · rw [show decide ((⟨a, b⟩ : Pl) = ⟨c, d⟩) = false from decide_eq_false (fun h => h0 (by injection h))]
    go_simp
  · replace h0 := Classical.not_not.1 h0
    rcases Classical.em (¬ b = d) with h1 | h1
    · rw [show decide ((⟨a, b⟩ : Pl) = ⟨c, d⟩) = false from decide_eq_false (fun h => h1 (by injection h))]
      go_simp
    · replace h1 := Classical.not_not.1 h1
      subst h0 h1
      rw [decide_eq_true rfl]
      go_simp
theorem pl_neq (p q : Pl) (w : World) : (binOp .neq 23 (.agg #[.int .i64 p.l, .int .i64 p.c]) (.agg #[.int .i64 q.l, .int .i64 q.c])).run Tryd.prog w = .ok (.bool (!decide (p = q))) w := by
  obtain ⟨a, b⟩ := p
  obtain ⟨c, d⟩ := q
  rcases Classical.em (¬ a = c) with h0 | h0
  · rw [show decide ((⟨a, b⟩ : Pl) = ⟨c, d⟩) = false from decide_eq_false (fun h => h0 (by injection h))]
    go_simp
  · replace h0 := Classical.not_not.1 h0
    rcases Classical.em (¬ b = d) with h1 | h1
    · rw [show decide ((⟨a, b⟩ : Pl) = ⟨c, d⟩) = false from decide_eq_false (fun h => h1 (by injection h))]
      go_simp
    · replace h1 := Classical.not_not.1 h1
      subst h0 h1
      rw [decide_eq_true rfl]
      go_simp
theorem dist_ok {a b : Pl} {c : Int} (h : (distP a b c).2 = 0) : inP a c = true ∧ inP b c = true ∧ (distP a b c).1 = cellP b c - cellP a c := by
  unfold distP at *
  by_cases g : inP a c = false ∨ inP b c = false
  · rw [if_pos g] at h; cases h
  · rw [if_neg g]
    simp at g
    exact ⟨g.1, g.2, rfl⟩
theorem text_len {p : Pl} (h : vP p = true) : (textL p).length ≤ 100 := by
  have hp := (vP_iff p).1 h
  have n1 := Lib.itoa_length_le p.l (by omega) (by omega)
  have n2 := Lib.itoa_length_le p.c (by omega) (by omega)
  rw [itoa_nat hp.1] at n1
  rw [itoa_nat hp.2.2.1] at n2
  unfold textL
  simp
  omega
theorem known_at {w w1 : World} (ht : Hid (PlT w)) (hk : Kept [] w w1) : Calls Tryd.prog 5 #[] w1 fun e w' => e = .returned (.bool true) ∧ Kept [] w1 w' := known9_any w1 (ht.out.kept hk)
set_option maxHeartbeats 20000000 in
theorem placeHolds_any (a b c : Pl) (n m f nx k : Int) (hn : Wd n) (hm : Wd m) (w : World) (ht : PlT w) :
    Calls Tryd.prog 4 #[.agg #[.int .i64 a.l, .int .i64 a.c], .agg #[.int .i64 b.l, .int .i64 b.c], .agg #[.int .i64 c.l, .int .i64 c.c], .int .i64 n, .int .i64 m, .int .i64 f, .int .i64 nx, .int .i64 k] w fun e w' => e = .returned (.bool true) ∧ Kept [] w w' := by
  have hT := hide ht
  clear ht
  have hab := hide (fun w => Compare_any a b w)
  have hba := hide (fun w => Compare_any b a w)
  have hbc := hide (fun w => Compare_any b c w)
  have hac := hide (fun w => Compare_any a c w)
  have hD := hide (fun w => Distance_any a b k w)
  obtain ⟨X, hX⟩ : ∃ X, cmpP a b = X := ⟨_, rfl⟩
  obtain ⟨Y, hY⟩ : ∃ Y, cmpP b a = Y := ⟨_, rfl⟩
  obtain ⟨Z, hZ⟩ : ∃ Z, cmpP b c = Z := ⟨_, rfl⟩
  obtain ⟨U, hU⟩ : ∃ U, cmpP a c = U := ⟨_, rfl⟩
  have hr := hide (cmpP_range b a)
  rw [hX] at hab
  rw [hY] at hba hr
  rw [hZ] at hbc
  rw [hU] at hac
  have hYX : IntKind.i64.wrap (-Y) = X := by rw [IntWalk.i64_in _ (by have := hr.out; omega), ← hX, ← hY, cmpP_neg a b, Int.neg_neg]
  have hX0 : (X == 0) = decide (a = b) := by
    have := cmpP_zero a b
    rw [hX] at this
    rw [Bool.eq_iff_iff]
    simp [this]
  have hE := fun w => pl_eql a b w
  have htr := hide (fun (h1 : X ≤ 0) (h2 : Z ≤ 0) => (by rw [← hU]; exact cmpP_trans (by rw [hX]; exact h1) (by rw [hZ]; exact h2) : U ≤ 0))
  have hXa := hide hX
  clear hX hY hZ hU
  generalize decide (a = b) = E at *
  have hk0 : Kept [] w (((w.alloc (.cells #[.int .i64 a.l, .int .i64 a.c] 23)).alloc (.cells #[.int .i64 b.l, .int .i64 b.c] 23)).alloc (.cells #[.int .i64 c.l, .int .i64 c.c] 23)) := (((Kept.refl [] w).alloc _).alloc _).alloc _
  have xa : PlB (((w.alloc (.cells #[.int .i64 a.l, .int .i64 a.c] 23)).alloc (.cells #[.int .i64 b.l, .int .i64 b.c] 23)).alloc (.cells #[.int .i64 c.l, .int .i64 c.c] 23)) w.heap.size a := (PlB.new w a).kept (((Kept.refl [] _).alloc _).alloc _) (by simp)
  have xb : PlB (((w.alloc (.cells #[.int .i64 a.l, .int .i64 a.c] 23)).alloc (.cells #[.int .i64 b.l, .int .i64 b.c] 23)).alloc (.cells #[.int .i64 c.l, .int .i64 c.c] 23)) (w.heap.size + 1) b := (PlB.newAt _ b (by simp)).kept ((Kept.refl [] _).alloc _) (by simp)
  have xc : PlB (((w.alloc (.cells #[.int .i64 a.l, .int .i64 a.c] 23)).alloc (.cells #[.int .i64 b.l, .int .i64 b.c] 23)).alloc (.cells #[.int .i64 c.l, .int .i64 c.c] 23)) (w.heap.size + 1 + 1) c := PlB.newAt _ c (by simp)
  go_enter Tryd.func4, Tryd.ntmps4
  go_wp2_with fail
  refine (hab.out _).mono ?_
  rintro e w1 ⟨rfl, j1⟩
  have k1 := hide (hk0.trans j1 (by simp))
  have xa := hide (xa.kept j1 (by simp))
  have xb := hide (xb.kept j1 (by simp))
  have xc := hide (xc.kept j1 (by simp))
  clear hk0 j1
  generalize w.heap.size = g at *
  go_upto_region 2 with fail
  go_cut [17, 62] from 17 (fun s17 s62 wc => s17 = .int .i64 X ∧ s62 = .bool false ∧ Kept [] w1 wc)
  case first => as_aux_lemma =>
    have ca := xa.out.c0
    have da := xa.out.c1
    have cb := xb.out.c0
    have db := xb.out.c1
    go_wp2_with fail
    refine (hba.out _).mono ?_
    rintro e w2 ⟨rfl, j2⟩
    clear ca da cb db
    have ca := (xa.out.kept j2 (by simp)).c0
    have da := (xa.out.kept j2 (by simp)).c1
    have cb := (xb.out.kept j2 (by simp)).c0
    have db := (xb.out.kept j2 (by simp)).c1
    have cc := (xc.out.kept j2 (by simp)).c0
    have dc := (xc.out.kept j2 (by simp)).c1
    by_cases h1 : X ≤ 0
    · go_wp2_with fail
      refine (hbc.out _).mono ?_
      rintro e w3 ⟨rfl, j3⟩
      clear ca da cb db cc dc
      have j23 := j2.trans j3 (by simp)
      by_cases h2 : Z ≤ 0
      · have ca := (xa.out.kept j23 (by simp)).c0
        have da := (xa.out.kept j23 (by simp)).c1
        have cc := (xc.out.kept j23 (by simp)).c0
        have dc := (xc.out.kept j23 (by simp)).c1
        have h3 := htr.out h1 h2
        have h4 : decide (0 < U) = false := by simp; omega
        go_wp2_with fail
        refine (hac.out _).mono ?_
        rintro e w4 ⟨rfl, j4⟩
        go_wp2_with fail
        go_meet
        case rel => exact ⟨rfl, rfl, j23.trans j4 (by simp)⟩
      · go_wp2_with fail
        go_meet
        case rel => exact ⟨rfl, rfl, j23⟩
    · go_wp2_with fail
      go_meet
      case rel => exact ⟨rfl, rfl, j2⟩
  case rest =>
    obtain ⟨rfl, rfl, hkc⟩ := hcut
    obtain ⟨w2, hw2⟩ : ∃ z : World, z = wc := ⟨_, rfl⟩
    subst hw2
    have k2 := hide (k1.out.trans hkc (by simp))
    have xa := hide (xa.out.kept hkc (by simp))
    have xb := hide (xb.out.kept hkc (by simp))
    clear hkc hab hba hbc hac htr hYX xc hE k1
    have ca := xa.out.c0
    have da := xa.out.c1
    have cb := xb.out.c0
    have db := xb.out.c1
    go_wp2_with fail
    refine (hD.out _).mono ?_
    rintro e w3 ⟨rfl, j3⟩
    have k3 := hide (k2.out.trans j3 (by simp))
    have xa := hide (xa.out.kept j3 (by simp))
    have xb := hide (xb.out.kept j3 (by simp))
    have hdk := hide (fun h => @dist_ok a b k h)
    clear j3 k2 ca da cb db hD
    obtain ⟨d, hd⟩ : ∃ d, (distP a b k).1 = d := ⟨_, rfl⟩
    obtain ⟨z, hz⟩ : ∃ z, (distP a b k).2 = z := ⟨_, rfl⟩
    rw [hd, hz]
    rw [hd, hz] at hdk
    replace hd := hide hd
    replace hz := hide hz
    go_upto_region 5 with fail
    go_cut [17, 93] from 17 (fun s17 s93 wc => s17 = .int .i64 X ∧ s93 = .bool false ∧ Kept [] w3 wc)
    case first => as_aux_lemma =>
      by_cases hz0 : z = 0
      · obtain ⟨i1, i2, i3⟩ := hdk.out hz0
        have hsg := dist_sign i1 i2
        have hst := step_dist i1 i2
        have hb1 := cell_bound i1
        have hb2 := cell_bound i2
        rw [← i3] at hsg hst
        rw [hXa.out] at hsg
        have hs := hide (fun w => steps_any a d k (by unfold Wd; omega) b 0 true (by rw [hst]; simp) w)
        have hB : decide (0 < d) = decide (X < 0) := by rw [Bool.eq_iff_iff]; simp only [decide_eq_true_eq]; exact hsg.1
        have hB2 : (d == 0) = E := by rw [← hX0, Bool.eq_iff_iff]; simp only [beq_iff_eq]; exact hsg.2
        have hz1 : (z == 0) = true := by simp [hz0]
        have ca := xa.out.c0
        have da := xa.out.c1
        have cb := xb.out.c0
        have db := xb.out.c1
        clear hst hsg hb1 hb2 i1 i2 i3 hdk
        replace hz0 := hide hz0
        by_cases hx : X < 0
        · have q2 : decide (X < 0) = true := decide_eq_true hx
          have q1 := hB.trans q2
          replace hx := hide hx
          clear hB
          cases E
          all_goals
            go_wp2_with fail
            refine (hs.out _).mono ?_
            rintro e w4 ⟨rfl, j4⟩
            go_wp2_with fail
            go_meet
            exact ⟨rfl, rfl, j4⟩
        · have q2 : decide (X < 0) = false := decide_eq_false hx
          have q1 := hB.trans q2
          replace hx := hide hx
          clear hB
          cases E
          all_goals
            go_wp2_with fail
            refine (hs.out _).mono ?_
            rintro e w4 ⟨rfl, j4⟩
            go_wp2_with fail
            go_meet
            exact ⟨rfl, rfl, j4⟩
      · have hz1 : (z == 0) = false := by simp [hz0]
        replace hz0 := hide hz0
        go_wp2_with fail
        go_meet
        case rel => exact ⟨rfl, rfl, Kept.refl _ _⟩
    case rest =>
      obtain ⟨rfl, rfl, hkc⟩ := hcut
      obtain ⟨w4, hw4⟩ : ∃ z : World, z = wc := ⟨_, rfl⟩
      subst hw4
      have k4 := hide (k3.out.trans hkc (by simp))
      have xa := hide (xa.out.kept hkc (by simp))
      have xb := hide (xb.out.kept hkc (by simp))
      clear hkc hX0 k3 hdk hd hz
      go_upto_region 7 with fail
      obtain ⟨T, hT0⟩ : ∃ T, decide ((-1073741824 ≤ n ∧ n ≤ 1073741824) ∧ (-1073741824 ≤ m ∧ m ≤ 1073741824)) = T := ⟨_, rfl⟩
      replace hT0 := hide hT0
      go_cut [17, 107] from 17 (fun s17 s107 wc => s17 = .int .i64 X ∧ s107 = .bool T ∧ wc = w4)
      case first => as_aux_lemma =>
        by_cases h1 : -1073741824 ≤ n
        · by_cases h2 : n ≤ 1073741824
          · by_cases h3 : -1073741824 ≤ m
            · by_cases h4 : m ≤ 1073741824
              · go_wp2_with fail
                go_meet
                case rel => exact ⟨rfl, congrArg Value.bool (by rw [← hT0.out]; simp [h1, h2, h3, h4]), rfl⟩
              · go_wp2_with fail
                go_meet
                case rel => exact ⟨rfl, congrArg Value.bool (by rw [← hT0.out]; simp; omega), rfl⟩
            · go_wp2_with fail
              go_meet
              case rel => exact ⟨rfl, congrArg Value.bool (by rw [← hT0.out]; simp; omega), rfl⟩
          · go_wp2_with fail
            go_meet
            case rel => exact ⟨rfl, congrArg Value.bool (by rw [← hT0.out]; simp; omega), rfl⟩
        · go_wp2_with fail
          go_meet
          case rel => exact ⟨rfl, congrArg Value.bool (by rw [← hT0.out]; simp; omega), rfl⟩
      case rest =>
        obtain ⟨rfl, rfl, rfl⟩ := hcut
        obtain ⟨w4, hw4⟩ : ∃ z : World, z = wc := ⟨_, rfl⟩
        subst hw4
        go_upto_if 107 with fail
        go_cut [17] from 17 (fun s17 wc => s17 = .int .i64 X ∧ Kept [] w4 wc)
        case first => as_aux_lemma =>
          cases T with
          | false =>
            go_wp2_with fail
            go_meet
            case rel => exact ⟨rfl, Kept.refl _ _⟩
          | true =>
            have hnm := of_decide_eq_true hT0.out
            have hw : IntKind.i64.wrap (n + m) = n + m := IntWalk.i64_in _ (by omega)
            have hS := hide (fun w => Step_any a n k hn w)
            have hSS := hide (fun h => @step_step a n m k h)
            have hS3 := hide (fun q no v hv w => steps_any a (n + m) k (by unfold Wd; omega) q no v hv w)
            obtain ⟨⟨P, z⟩, hR⟩ : ∃ R, stepP a n k = R := ⟨_, rfl⟩
            rw [hR] at hS hSS
            simp only at hS hSS
            have ca := xa.out.c0
            have da := xa.out.c1
            replace hR := hide hR
            clear hnm
            go_wp2_with fail
            refine (hS.out _).mono ?_
            rintro e w5 ⟨rfl, j5⟩
            by_cases hz0 : z = 0
            · have hz1 : (z == 0) = true := by simp [hz0]
              obtain ⟨⟨Q, y⟩, hR2⟩ : ∃ R, stepP P m k = R := ⟨_, rfl⟩
              have hS2 := hide (fun w => Step_any P m k hm w)
              have e2 := hSS.out hz0
              rw [hR2] at hS2 e2
              simp only at hS2
              have hS4 := hide (fun w => hS3.out Q y true (by rw [← e2]; simp) w)
              clear hS3 hSS e2
              replace hR2 := hide hR2
              replace hz0 := hide hz0
              have j5' := hide ((j5.alloc (.cells #[.int .i64 P.l, .int .i64 P.c] 23)))
              have ca' := ((xa.out.kept j5'.out (by simp)).c0)
              obtain ⟨Pl', Pc⟩ := P
              obtain ⟨Ql, Qc⟩ := Q
              go_wp2_with fail
              refine (hS2.out _).mono ?_
              rintro e w6 ⟨rfl, j6⟩
              have j56 := j5'.out.trans j6 (by simp)
              clear ca da ca'
              have ca := (xa.out.kept j56 (by simp)).c0
              have da := (xa.out.kept j56 (by simp)).c1
              have hlt := (xa.out.kept j56 (by simp)).lt
              go_wp2_with fail
              refine (hS4.out _).mono ?_
              rintro e w7 ⟨rfl, j7⟩
              go_wp2_with fail
              go_meet
              case rel => exact ⟨rfl, (j56.alloc _).trans j7 (by simp)⟩
            · have hz1 : (z == 0) = false := by simp [hz0]
              replace hz0 := hide hz0
              go_wp2_with fail
              go_meet
              case rel => exact ⟨rfl, j5.alloc _⟩
        case rest =>
          obtain ⟨rfl, hkc⟩ := hcut
          obtain ⟨w5, hw5⟩ : ∃ z : World, z = wc := ⟨_, rfl⟩
          subst hw5
          have k5 := hide (k4.out.trans hkc (by simp))
          have xa := hide (xa.out.kept hkc (by simp))
          have xb := hide (xb.out.kept hkc (by simp))
          clear hkc k4
          obtain ⟨⟨P, z⟩, hP⟩ : ∃ R, clampP a f nx k = R := ⟨_, rfl⟩
          obtain ⟨⟨Q, y⟩, hQ⟩ : ∃ R, clampP b f nx k = R := ⟨_, rfl⟩
          have hCa := hide (fun w => Clamp_any a f nx k w)
          have hCb := hide (fun w => Clamp_any b f nx k w)
          have hyz : y = z := by have := clamp_err a b f nx k; rw [hP, hQ] at this; exact this.symm
          subst hyz
          have hin := fun h => @clamp_in a f nx k h
          have hmo := fun h h2 => @clamp_mono a b f nx k h h2
          have hsa := fun h h1 h2 h3 h4 => @clamp_same a f nx k h h1 h2 h3 h4
          rw [hP] at hCa hin hmo hsa
          rw [hQ] at hCb hmo
          rw [hXa.out] at hmo
          simp only at hCa hCb hin hmo hsa
          have hin := hide hin
          have hmo := hide hmo
          have hsa := hide hsa
          clear hP hQ
          have ca := xa.out.c0
          have da := xa.out.c1
          go_wp2_with fail
          refine (hCa.out _).mono ?_
          rintro e w6 ⟨rfl, j6⟩
          have xP := PlB.new w6 P
          have j6' := j6.alloc (.cells #[.int .i64 P.l, .int .i64 P.c] 23)
          have cb := (xb.out.kept j6' (by simp)).c0
          have db := (xb.out.kept j6' (by simp)).c1
          go_wp2_with fail
          refine (hCb.out _).mono ?_
          rintro e w7 ⟨rfl, j7⟩
          replace xP := xP.kept j7 (by simp)
          have j67 := j6'.trans j7 (by simp)
          go_upto_region 15 with fail
          obtain ⟨w8, hw8⟩ : ∃ z : World, z = w7.alloc (.cells #[.int .i64 Q.l, .int .i64 Q.c] 23) := ⟨_, rfl⟩
          have k8 := hide (k5.out.trans (by rw [hw8]; exact j67.alloc _ : Kept [] w5 w8) (by simp))
          have xP := hide (by rw [hw8]; exact xP.kept ((Kept.refl [] _).alloc _) (by simp) : PlB w8 w6.heap.size P)
          have xQ := hide (by rw [hw8]; exact PlB.new w7 Q : PlB w8 w7.heap.size Q)
          have xa := hide (by rw [hw8]; exact xa.out.kept (j67.alloc _) (by simp) : PlB w8 g a)
          rw [← hw8]
          generalize w6.heap.size = g6 at *
          generalize w7.heap.size = g7 at *
          clear hw8 j67 j7 cb db j6' ca da k5 xb hCa hCb
          go_cut [17, 24, 25, 188] from 17 (fun s17 s24 s25 s188 wc => s17 = .int .i64 X ∧ s24 = .pointer (some ⟨g6, 0, none⟩) ∧ s25 = .int .i64 y ∧ s188 = .bool false ∧ Kept [] w8 wc)
          case first => as_aux_lemma =>
            have hyy : (y != y) = false := by simp
            by_cases hz0 : y = 0
            · have hz1 : (y == 0) = true := by simp [hz0]
              obtain ⟨i1, i2, i3, i4⟩ := hin.out hz0
              have q1 : decide (P.l < f) = false := decide_eq_false (by omega)
              have q2 : decide (nx ≤ P.l) = false := decide_eq_false (by omega)
              have q3 : decide (P.c < 0) = false := decide_eq_false (by omega)
              have q4 : decide (k ≤ P.c) = false := decide_eq_false (by omega)
              have hV := hide (fun h : X ≤ 0 => hmo.out hz0 h)
              have hPQ := hide (fun w => Compare_any P Q w)
              generalize cmpP P Q = V at *
              have cP := xP.out.c0
              have dP := xP.out.c1
              have cQ := xQ.out.c0
              have dQ := xQ.out.c1
              replace hz0 := hide hz0
              by_cases hx : X ≤ 0
              · have hv := hV.out hx
                have q5 : decide (0 < V) = false := decide_eq_false (by omega)
                go_wp2_with fail
                refine (hPQ.out _).mono ?_
                rintro e w9 ⟨rfl, j9⟩
                clear cP dP cQ dQ
                have cP := (xP.out.kept j9 (by simp)).c0
                have dP := (xP.out.kept j9 (by simp)).c1
                go_wp2_with fail
                go_meet
                case rel => exact ⟨rfl, rfl, rfl, rfl, j9⟩
              · go_wp2_with fail
                go_meet
                case rel => exact ⟨rfl, rfl, rfl, rfl, Kept.refl _ _⟩
            · have hz1 : (y == 0) = false := by simp [hz0]
              replace hz0 := hide hz0
              go_wp2_with fail
              go_meet
              case rel => exact ⟨rfl, rfl, rfl, rfl, Kept.refl _ _⟩
          case rest =>
            obtain ⟨rfl, rfl, rfl, rfl, hkc⟩ := hcut
            obtain ⟨w9, hw9⟩ : ∃ z : World, z = wc := ⟨_, rfl⟩
            subst hw9
            have k9 := hide (k8.out.trans hkc (by simp))
            have xa := hide (xa.out.kept hkc (by simp))
            have xP := hide (xP.out.kept hkc (by simp))
            clear hkc k8 xQ hin hmo
            go_upto_region 17 with fail
            go_cut [218] from 17 (fun s218 wc => s218 = .bool false ∧ wc = w9)
            case first => as_aux_lemma =>
              have ca := xa.out.c0
              have da := xa.out.c1
              have cP := xP.out.c0
              have dP := xP.out.c1
              by_cases hz0 : y = 0
              · have hz1 : (y == 0) = true := by simp [hz0]
                have hs := hide (hsa.out hz0)
                replace hz0 := hide hz0
                by_cases h1 : f ≤ a.l
                · by_cases h2 : a.l < nx
                  · by_cases h3 : 0 ≤ a.c
                    · by_cases h4 : a.c < k
                      · have hPa := hs.out h1 h2 h3 h4
                        have hne := fun w => pl_neq P a w
                        rw [decide_eq_true hPa, Bool.not_true] at hne
                        replace hPa := hide hPa
                        go_wp2_with fail
                        go_meet
                        case rel => exact ⟨rfl, rfl⟩
                      · go_wp2_with fail
                        go_meet
                        case rel => exact ⟨rfl, rfl⟩
                    · go_wp2_with fail
                      go_meet
                      case rel => exact ⟨rfl, rfl⟩
                  · go_wp2_with fail
                    go_meet
                    case rel => exact ⟨rfl, rfl⟩
                · go_wp2_with fail
                  go_meet
                  case rel => exact ⟨rfl, rfl⟩
              · have hz1 : (y == 0) = false := by simp [hz0]
                replace hz0 := hide hz0
                go_wp2_with fail
                go_meet
                case rel => exact ⟨rfl, rfl⟩
            case rest =>
              obtain ⟨rfl, rfl⟩ := hcut
              obtain ⟨w9, hw9⟩ : ∃ z : World, z = wc := ⟨_, rfl⟩
              subst hw9
              have hTx := hide (fun w ht => Text_any a w ht)
              have ca := xa.out.c0
              have da := xa.out.c1
              clear hsa xP
              cases hv : vP a with
              | true =>
                have hte : textE a = (textL a, 0) := by unfold textE; rw [if_pos hv]
                rw [hte] at hTx
                have hPs := hide (fun w ht => parses_any ⟨(textL a).toArray⟩ (by rw [ba_size]; have := text_len hv; omega) a 0 true (by rw [ba_list, parse_text hv]; simp) w ht)
                generalize textL a = X9 at *
                replace hte := hide hte
                replace hv := hide hv
                go_wp2_with fail
                refine (hTx.out _ (hT.out.kept k9.out)).mono ?_
                rintro e v1 ⟨rfl, j1⟩
                have m1 := hide (k9.out.trans j1 (by simp))
                clear ca da
                have ca := (xa.out.kept j1 (by simp)).c0
                have da := (xa.out.kept j1 (by simp)).c1
                go_wp2_with fail
                refine (hPs.out _ (hT.out.kept m1.out)).mono ?_
                rintro e v2 ⟨rfl, j2⟩
                have m2 := hide (m1.out.trans j2 (by simp))
                go_wp2_with fail
                refine (known_at hT m2.out).mono ?_
                rintro e v3 ⟨rfl, j3⟩
                go_wp2_with fail
                go_ret
                exact ⟨rfl, m2.out.trans j3 (by simp)⟩
              | false =>
                have hte : textE a = ([], 2) := by unfold textE; rw [if_neg (by simp [hv])]
                rw [hte] at hTx
                replace hte := hide hte
                replace hv := hide hv
                go_wp2_with fail
                refine (hTx.out _ (hT.out.kept k9.out)).mono ?_
                rintro e v1 ⟨rfl, j1⟩
                have m1 := hide (k9.out.trans j1 (by simp))
                go_wp2_with fail
                refine (known_at hT m1.out).mono ?_
                rintro e v3 ⟨rfl, j3⟩
                go_wp2_with fail
                go_ret
                exact ⟨rfl, m1.out.trans j3 (by simp)⟩
end Go.Proofs.YtnkddhmhjnhgcabDoor
