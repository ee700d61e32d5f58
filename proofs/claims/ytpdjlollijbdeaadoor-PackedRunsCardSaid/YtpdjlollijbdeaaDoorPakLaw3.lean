/- The walk of PackedRuns. -/
import Derived.Test.YtpdjlollijbdeaaDoorPakLaw2
namespace Go.Proofs.YtpdjlollijbdeaaDoor
open Go.RowKit
set_option linter.unusedVariables false
set_option maxRecDepth 10000

set_option maxHeartbeats 4000000 in
theorem few_any (a : Option Addr) (n c : Nat) (l : List Ru) (w : World) (hr : Rd w a n 4 (runsV l)) :
    Calls Tryd.prog 18 #[.slice a n c] w fun e w' => ∃ v : Bool, e = .returned (.bool v) ∧ (v = true → n ≤ 10) ∧ Kept [] w w' := by
  have hl := hide hr.runs
  have hH := hide hr
  clear hr
  go_enter Tryd.func18, Tryd.ntmps18
  go_wp2_with fail
  go_loopg [3, 4, 5, 6, 7, 8, 9, 10, 11, 12, 13, 14, 15, 16, 17, 18, 19, 20, 21, 22, 23, 24, 25, 26, 27] 12 (fun kx s3 s4 s5 s6 s7 s8 s9 s10 s11 s12 s13 s14 s15 s16 s17 s18 s19 s20 s21 s22 s23 s24 s25 s26 s27 wr => ∃ (k : Nat), s3 = .int .i64 k ∧ k ≤ n ∧ k ≤ 11 ∧ 12 - k ≤ kx ∧ Kept [] w wr)
  case atStart => exact ⟨0, rfl, Nat.zero_le _, by omega, by omega, Kept.refl _ _⟩
  case round =>
    obtain ⟨k, rfl, hk, hk2, hg, hkr⟩ := hrel
    by_cases hlt : k < n
    · have hkn : (k : Int) < (n : Int) := by omega
      by_cases h11 : k < 11
      · have hk11 : (k : Int) < 11 := by omega
        have hkl : k < l.length := by rw [hl.out]; exact hlt
        obtain ⟨b, o, rfl⟩ := hH.out.runAddr (by omega)
        obtain ⟨q0, q1, q2, q3⟩ := (hH.out.run k hkl).kept hkr (by simp)
        generalize l[k] = x at *
        by_cases h60 : 60 < x.n
        · by_cases h99 : x.n < 99990
          · go_wp2_with fail
            go_ret
            exact ⟨false, rfl, by simp, hkr⟩
          · have h99' : 99990 ≤ x.n := by omega
            go_wp2_with fail
            go_roundg (12 - (k + 1))
            case measure => omega
            case rel => exact ⟨k + 1, by push_cast; rfl, by omega, by omega, Nat.le_refl _, hkr⟩
        · have h60' : x.n ≤ 60 := by omega
          go_wp2_with fail
          go_roundg (12 - (k + 1))
          case measure => omega
          case rel => exact ⟨k + 1, by push_cast; rfl, by omega, by omega, Nat.le_refl _, hkr⟩
      · have hk11 : (11 : Int) ≤ (k : Int) := by omega
        go_wp2_with fail
        go_ret
        exact ⟨_, rfl, by intro h; simp at h; omega, hkr⟩
    · have hkn : (n : Int) ≤ (k : Int) := by omega
      go_wp2_with fail
      go_ret
      exact ⟨_, rfl, by intro h; simp at h; omega, hkr⟩

/-- What is known of runs that are right. -/
theorem tot_len (l : List Ru) : (totI l).1 = ((unpackR l).1.length : Int) := by
  cases h : (totI l).2
  · rw [totI_false h]
    unfold unpackR
    rw [h]
    rfl
  · obtain ⟨p, hp⟩ := totI_true h
    have hr := tot_right hp
    unfold unpackR
    rw [if_pos h]
    rw [expand_len l (fun q hq => by have := (hr.all q hq).1; omega)]
    have := hr.sum
    omega
theorem expand_valid {l : List Ru} {n : Int} {p : Option W3} (h : totT l = some (n, p)) : ∀ c ∈ expand l, validC c = true ∧ PnB c.p := by
  intro c hc
  simp only [expand, List.mem_flatMap] at hc
  obtain ⟨r, hr, hc⟩ := hc
  rw [List.eq_of_mem_replicate hc]
  exact ⟨(okW_valid ((tot_right h).all r hr).2).1, cell_pn _⟩

theorem unpackR_bad {l : List Ru} (h : (totI l).2 = false) : unpackR l = ([], 12) := by unfold unpackR; rw [h]; rfl
theorem unpackR_good {l : List Ru} (h : (totI l).2 = true) : unpackR l = (expand l, 0) := by unfold unpackR; rw [h]; rfl
theorem joinR_bad {a b : List Ru} (h : (totI a).2 = false ∨ (totI b).2 = false) : joinR a b = ([], 12) := by unfold joinR; rw [if_pos h]
theorem joinR_long {a b : List Ru} (h1 : (totI a).2 = true) (h2 : (totI b).2 = true) (h : 100000 < (totI a).1 + (totI b).1) : joinR a b = ([], 5) := by
  unfold joinR
  rw [if_neg (by rw [h1, h2]; simp), if_pos h]
theorem joinR_good {a b : List Ru} (h1 : (totI a).2 = true) (h2 : (totI b).2 = true) (h : (totI a).1 + (totI b).1 ≤ 100000) : joinR a b = (packL (expand a ++ expand b), 0) := by
  obtain ⟨p, hp⟩ := totI_true h1
  obtain ⟨q, hq⟩ := totI_true h2
  unfold joinR
  rw [if_neg (by rw [h1, h2]; simp), if_neg (by omega), join_is hp hq]
theorem ask_none {α : Type} [DecidableEq α] {E : List α × Int} {x : Int} (h : E = ([], x)) : (decide (E.1 = []) && decide (E.2 = x)) = true := by rw [h]; simp
theorem ask_is {α : Type} [DecidableEq α] {E : List α × Int} {l : List α} {x : Int} (h : E = (l, x)) : (decide (E.1 = l) && decide (E.2 = x)) = true := by rw [h]; simp

set_option maxHeartbeats 20000000 in
theorem PackedRuns_walk (KN : KnownIs5) (a1 : Option Addr) (n1 c1 : Nat) (l : List Ru) (a2 : Option Addr) (n2 c2 : Nat) (m : List Ru) (hB1 : ∀ x ∈ l, RuB x) (hB2 : ∀ x ∈ m, RuB x) (w : World) (ht : Tabs w) (hr1 : Rd w a1 n1 4 (runsV l)) (hr2 : Rd w a2 n2 4 (runsV m)) :
    Calls Tryd.prog 6 #[.slice a1 n1 c1, .slice a2 n2 c2] w fun e w' => e = .returned (.bool true) ∧ Kept [] w w' := by
  have hT := hide (fun w1 (hk : Kept [] w w1) => ht.kept hk)
  have hKN := hide KN
  have hH1 := hide hr1
  have hH2 := hide hr2
  have hl1 := hide hr1.runs
  have hl2 := hide hr2.runs
  have hB1 := hide hB1
  have hB2 := hide hB2
  have hF1 := hide (few_any a1 n1 c1 l w hr1)
  have hF2 := hide (fun w1 hk => few_any a2 n2 c2 m w1 (hr2.kept (S := []) (w' := w1) hk (by simp)))
  have hw0 := fun w1 => Own.nil w1 w.heap.size 30 16
  have hv0 := fun w1 => Own.nil w1 w.heap.size 67 4
  clear ht KN hr1 hr2
  go_enter Tryd.func6, Tryd.ntmps6
  go_wp2_with fail
  refine hF1.out.mono ?_
  rintro e w1 ⟨v1, rfl, hv1, hk1⟩
  cases v1
  · go_wp2_with fail
    refine (hKN.out w1 (hT.out w1 hk1)).mono ?_
    rintro e w2 ⟨rfl, hk2⟩
    go_wp2_with fail
    go_ret
    exact ⟨rfl, hk1.trans hk2 (by simp)⟩
  · have hn1 : n1 ≤ 10 := by simpa using hv1
    clear hv1
    go_wp2_with fail
    refine (hF2.out w1 hk1).mono ?_
    rintro e w2 ⟨v2, rfl, hv2, hj2⟩
    have hk2 := hk1.trans hj2 (by simp)
    clear hj2 hk1
    cases v2
    · go_wp2_with fail
      refine (hKN.out w2 (hT.out w2 hk2)).mono ?_
      rintro e w3 ⟨rfl, hk3⟩
      go_wp2_with fail
      go_ret
      exact ⟨rfl, hk2.trans hk3 (by simp)⟩
    · have hn2 : n2 ≤ 10 := by simpa using hv2
      clear hv2 hF1 hF2
      have hC1 := hide (rCells5_any a1 n1 c1 l hB1.out w2 (hH1.out.kept hk2 (by simp)) (by omega))
      go_wp2_with fail
      refine hC1.out.mono ?_
      rintro e w3 ⟨a3, n3, c3, rfl, ho3, hj3⟩
      have hk3 := hk2.trans hj3 (by simp)
      have ho3 := hide (ho3.base hk2.size)
      have hC2 := hide (rCells5_any a2 n2 c2 m hB2.out w3 (hH2.out.kept hk3 (by simp)) (by omega))
      clear hC1 hj3
      go_wp2_with fail
      refine hC2.out.mono ?_
      rintro e w4 ⟨a4, n4, c4, rfl, ho4, hj4⟩
      have hk4 := hk3.trans hj4 (by simp)
      have ho4 := hide (ho4.base hk3.size)
      have ho3 := hide (ho3.out.kept hj4 (by simp))
      clear hC2 hj4 hk3 hk2
      have hn3 : (totI l).1 = (n3 : Int) := by rw [tot_len, ho3.out.rd.clen]
      have hn4 : (totI m).1 = (n4 : Int) := by rw [tot_len, ho4.out.rd.clen]
      have hV1 := hide (Valid5_any a1 n1 c1 l hB1.out w4 (hT.out w4 hk4) (hH1.out.kept hk4 (by simp)) (by omega))
      have hCn := hide (fun w1 (hk : Kept [] w w1) => Count5_any a1 n1 c1 l hB1.out w1 (hT.out w1 hk) (hH1.out.kept hk (by simp)) (by omega))
      have hV2 := hide (fun w1 (hk : Kept [] w w1) => Valid5_any a2 n2 c2 m hB2.out w1 (hT.out w1 hk) (hH2.out.kept hk (by simp)) (by omega))
      rw [hn3] at hCn
      have hs1 := hide hn3
      have hs2 := hide hn4
      clear hn3 hn4
      obtain ⟨is, his⟩ : ∃ b, b = (totI l).2 := ⟨_, rfl⟩
      obtain ⟨fine, hfine⟩ : ∃ b, b = (totI m).2 := ⟨_, rfl⟩
      rw [← his] at hV1
      rw [← hfine] at hV2
      have hi := hide his.symm
      have hf := hide hfine.symm
      rw [← his, ← hfine]
      clear his hfine
      have hb1 : (is != is) = false := by cases is <;> rfl
      have hb2 : (fine != fine) = false := by cases fine <;> rfl
      go_wp2_with fail
      refine hV1.out.mono ?_
      rintro e w5 ⟨rfl, hj5⟩
      have hk5 := hk4.trans hj5 (by simp)
      go_wp2_with fail
      refine (hCn.out w5 hk5).mono ?_
      rintro e w6 ⟨rfl, hj6⟩
      have hk6 := hk5.trans hj6 (by simp)
      go_wp2_with fail
      refine (hV2.out w6 hk6).mono ?_
      rintro e w7 ⟨rfl, hj7⟩
      have hk7 := hk6.trans hj7 (by simp)
      have hk47 : Kept [] w4 w7 := (hj5.trans hj6 (by simp)).trans hj7 (by simp)
      have ho3 := hide (ho3.out.kept hk47 (by simp))
      have ho4 := hide (ho4.out.kept hk47 (by simp))
      clear hV1 hCn hV2 hj5 hj6 hj7 hk4 hk5 hk6 hk47
      cases is
      · have hU := hide (fun w1 (hk : Kept [] w w1) => unpacks_ask a1 n1 c1 l hB1.out 12 none 0 0 [] true (ask_none (unpackR_bad hi.out)) w1 (hT.out w1 hk) (hH1.out.kept hk (by simp)) (by omega) (Rd.nil _ _ _))
        have hJ1 := hide (fun w1 (hk : Kept [] w w1) => joins_ask a1 n1 c1 l a2 n2 c2 m hB1.out hB2.out 12 none 0 0 [] true (ask_none (joinR_bad (.inl hi.out))) w1 (hT.out w1 hk) (hH1.out.kept hk (by simp)) (hH2.out.kept hk (by simp)) (by omega) (by omega) (Rd.nil _ _ _))
        have hJ2 := hide (fun w1 (hk : Kept [] w w1) => joins_ask a2 n2 c2 m a1 n1 c1 l hB2.out hB1.out 12 none 0 0 [] true (ask_none (joinR_bad (.inr hi.out))) w1 (hT.out w1 hk) (hH2.out.kept hk (by simp)) (hH1.out.kept hk (by simp)) (by omega) (by omega) (Rd.nil _ _ _))
        go_wp2_with fail
        refine (hU.out w7 hk7).mono ?_
        rintro e w8 ⟨rfl, hj8⟩
        have hk8 := hk7.trans hj8 (by simp)
        go_wp2_with fail
        refine (hJ1.out w8 hk8).mono ?_
        rintro e w9 ⟨rfl, hj9⟩
        have hk9 := hk8.trans hj9 (by simp)
        go_wp2_with fail
        refine (hJ2.out w9 hk9).mono ?_
        rintro e w10 ⟨rfl, hj10⟩
        have hk10 := hk9.trans hj10 (by simp)
        go_wp2_with fail
        refine (hKN.out w10 (hT.out w10 hk10)).mono ?_
        rintro e w11 ⟨rfl, hj11⟩
        go_wp2_with fail
        go_ret
        exact ⟨rfl, hk10.trans hj11 (by simp)⟩
      · have hu := unpackR_good hi.out
        rw [hu] at ho3
        simp only at ho3
        have hU := hide (unpacks_ask a1 n1 c1 l hB1.out 0 a3 n3 c3 (expand l) true (ask_is hu) w7 (hT.out w7 hk7) (hH1.out.kept hk7 (by simp)) (by omega) ho3.out.rd)
        clear hu
        go_wp2_with fail
        refine hU.out.mono ?_
        rintro e w8 ⟨rfl, hj8⟩
        have hk8 := hk7.trans hj8 (by simp)
        have ho3 := hide (ho3.out.kept hj8 (by simp))
        have ho4 := hide (ho4.out.kept hj8 (by simp))
        clear hU hj8 hk7
        cases fine
        · have hJ1 := hide (fun w1 (hk : Kept [] w w1) => joins_ask a1 n1 c1 l a2 n2 c2 m hB1.out hB2.out 12 none 0 0 [] true (ask_none (joinR_bad (.inr hf.out))) w1 (hT.out w1 hk) (hH1.out.kept hk (by simp)) (hH2.out.kept hk (by simp)) (by omega) (by omega) (Rd.nil _ _ _))
          go_wp2_with fail
          refine (hJ1.out w8 hk8).mono ?_
          rintro e w9 ⟨rfl, hj9⟩
          have hk9 := hk8.trans hj9 (by simp)
          go_wp2_with fail
          refine (hKN.out w9 (hT.out w9 hk9)).mono ?_
          rintro e w10 ⟨rfl, hj10⟩
          go_wp2_with fail
          go_ret
          exact ⟨rfl, hk9.trans hj10 (by simp)⟩
        · have hu := unpackR_good hf.out
          rw [hu] at ho4
          simp only at ho4
          clear hu
          obtain ⟨p1, hp1⟩ := totI_true hi.out
          obtain ⟨p2, hp2⟩ := totI_true hf.out
          have g1 := (tot_right hp1).le
          have g2 := (tot_right hp2).le
          rw [hs1.out] at g1
          rw [hs2.out] at g2
          have hvv := hide (And.intro (expand_valid hp1) (expand_valid hp2))
          clear hp1 hp2
          by_cases hbig0 : 100000 < (n3 : Int) + (n4 : Int)
          · have hJ1 := hide (fun w1 (hk : Kept [] w w1) => joins_ask a1 n1 c1 l a2 n2 c2 m hB1.out hB2.out 5 none 0 0 [] true (ask_none (joinR_long hi.out hf.out (by rw [hs1.out, hs2.out]; exact hbig0))) w1 (hT.out w1 hk) (hH1.out.kept hk (by simp)) (hH2.out.kept hk (by simp)) (by omega) (by omega) (Rd.nil _ _ _))
            go_wp2_with fail
            refine (hJ1.out w8 hk8).mono ?_
            rintro e w9 ⟨rfl, hj9⟩
            have hk9 := hk8.trans hj9 (by simp)
            go_wp2_with fail
            refine (hKN.out w9 (hT.out w9 hk9)).mono ?_
            rintro e w10 ⟨rfl, hj10⟩
            go_wp2_with fail
            go_ret
            exact ⟨rfl, hk9.trans hj10 (by simp)⟩
          · have hsm : (n3 : Int) + (n4 : Int) ≤ 100000 := by omega
            have hJg := hide (joinR_good hi.out hf.out (by rw [hs1.out, hs2.out]; exact hsm))
            have hlen3 := ho3.out.rd.clen
            have hlen4 := ho4.out.rd.clen
            have hPk := hide (packR_ok (l := expand l ++ expand m) (by rw [List.length_append]; omega) (fun c hc => (List.mem_append.1 hc).elim (fun h => (hvv.out.1 c h).1) (fun h => (hvv.out.2 c h).1)))
            have hPB : ∀ c ∈ expand l ++ expand m, PnB c.p := fun c hc => (List.mem_append.1 hc).elim (fun h => (hvv.out.1 c h).2) (fun h => (hvv.out.2 c h).2)
            have hR := hide (fun a n c w1 (hr : Rd w1 a n 16 (cellsV (expand l ++ expand m))) hn => rPack5_any a n c (expand l ++ expand m) hPB w1 hr hn)
            rw [hPk.out] at hR
            have hs8 := hk8.size
            have q1 := hH1.out.kept hk8 (by simp)
            have o1 := rowsV_oneCell rowRun l
            clear hlen3 hlen4 hPB
            have o3 := cellsV_one (expand l)
            have o4 := cellsV_one (expand m)
            go_wp2_with (at_builtin; first
              | (refine wpList_app ?_ rfl elCell rfl rfl ho10 rfl r4 o4 ?p7 ?p8; intro a11 c11 w11 ho11 hk11 hat11)
              | (refine wpList_app ?_ rfl elCell rfl rfl (hw0 w9) rfl r3 o3 ?p5 ?p6; intro a10 c10 w10 ho10 hk10 hat10; rw [Nat.zero_add, List.nil_append] at ho10; have hk10 : Kept [] w9 w10 := hk10; have hs10 := hk10.size; have r4 := r4'.kept hk10 (by simp))
              | (refine wpList_app ?_ rfl elRun rfl rfl (hv0 w8) rfl q1 o1 ?p3 ?p4; intro a9 c9 w9 ho9 hk9 hat9; rw [Nat.zero_add, List.nil_append] at ho9; have hk9 : Kept [] w8 w9 := hk9; have hs9 := hk9.size; have r3 := ho3.out.rd.kept hk9 (by simp); have r4' := ho4.out.rd.kept hk9 (by simp)))
            case p3 => omega
            case p4 => exact hs8
            case p5 => omega
            case p6 => omega
            case p7 => omega
            case p8 => omega
            rw [← cellsV_app] at ho11
            have hk10' : Kept [] w w10 := (hk8.trans hk9 (by simp)).trans hk10 (by simp)
            have hk11' : Kept [] w w11 := hk10'.own hk11 (fun g hg => (ho10.ge g hg).1)
            have ho9 := hide ((Own.kept (xs := runsV l) ho9 hk10 (by simp)).kept hk11 (fun g hg hg6 => by have h1 := (Own.ge (xs := runsV l) ho9 g hg).2; rcases hat10 g hg6 with h2 | h2; cases h2; omega))
            have hR11 := hide (hR.out a11 (n3 + n4) c11 w11 ho11.rd (by omega))
            clear q1 o1 o3 o4 r3 r4 r4' ho10 ho11 hk9 hk10 hk11 hat9 hat10 hat11 hR hs9 hs10 ho3 ho4
            refine hR11.out.mono ?_
            rintro e w12 ⟨a12, n12, c12, rfl, ho12, hj12⟩
            have hk12 := hk11'.trans hj12 (by simp)
            have ho9 := hide (ho9.out.kept hj12 (by simp))
            have hJ := hide (joins_ask a9 n1 c9 l a2 n2 c2 m hB1.out hB2.out 0 a12 n12 c12 (packL (expand l ++ expand m)) true (ask_is hJg.out) w12 (hT.out w12 hk12) ho9.out.rd (hH2.out.kept hk12 (by simp)) (by omega) (by omega) ho12.rd)
            clear ho12 hR11 hj12
            go_wp2_with fail
            refine hJ.out.mono ?_
            rintro e w13 ⟨rfl, hj13⟩
            have hk13 := hk12.trans hj13 (by simp)
            have hS := hide (RSame_any a9 n1 c9 l a1 n1 c1 l w13 (ho9.out.kept hj13 (by simp)).rd (hH1.out.kept hk13 (by simp)) (by omega))
            rw [decide_eq_true rfl] at hS
            go_wp2_with fail
            refine hS.out.mono ?_
            rintro e w14 ⟨rfl, hj14⟩
            have hk14 := hk13.trans hj14 (by simp)
            go_wp2_with fail
            refine (hKN.out w14 (hT.out w14 hk14)).mono ?_
            rintro e w15 ⟨rfl, hj15⟩
            go_wp2_with fail
            go_ret
            exact ⟨rfl, hk14.trans hj15 (by simp)⟩
end Go.Proofs.YtpdjlollijbdeaaDoor
