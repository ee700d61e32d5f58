/- The walk of the law UtfHolds. -/
import Derived.Test.YtjcoeapopkkcbaaUtfLaw3
import Derived.Test.YtjcoeapopkkcbaaUtfSlice
import Derived.Test.YtjcoeapopkkcbaaUtfHoldsMath
import Derived.Deep.RegionWith
import Derived.Deep.RegionHeld3
import Derived.Deep.DeepCutAuto
import Derived.Deep.DrawnRows
namespace Go.Proofs.Ytjcoeapopkkcbaa
open Go.RowKit
set_option linter.unusedVariables false
attribute [local go_sem ↓] Go.wp_at_zero Go.wp_at_succ

set_option maxHeartbeats 400000 in
theorem UtfHolds_big (a : Option Addr) (n c : Nat) (s t : Value) (w : World) (hn : 150 < n) : Calls Try.prog 8 #[.slice a n c, s, t] w (BoolKept true w) := by
  go_enter Try.func8, Try.ntmps8
  go_wp2_with fail
  refine (known_any _).mono ?_
  rintro e w1 ⟨rfl, hk⟩
  go_wp2_with fail
  go_ret
  exact ⟨rfl, hk⟩

set_option maxRecDepth 100000 in
set_option maxHeartbeats 20000000 in
theorem UtfHolds_small (ab : Option Addr) (c : Nat) (z : List Int) (s t : Int) (w : World) (hrd : Rd w ab z.length 1 (ints .u8 z)) (hz : ∀ x ∈ z, 0 ≤ x ∧ x ≤ 255) (hn : z.length ≤ 150) (hnc : z.length ≤ c)
    (hs : 0 ≤ s ∧ s ≤ 255) (ht : 0 ≤ t ∧ t ≤ 255) :
    Calls Try.prog 8 #[.slice ab z.length c, .int .u8 s, .int .u8 t] w (BoolKept true w) := by
  have hs0 := hs.1
  have hs1 := hs.2
  have ht0 := ht.1
  have ht1 := ht.2
  have q1 : IntKind.i64.wrap ((z.length : Int) + 1) = (z.length : Int) + 1 := IntWalk.i64_in _ (by omega)
  have q2 : ((z.length : Int) + 1 == 0) = false := beq_eq_false_iff_ne.2 (by omega)
  go_enter Try.func8, Try.ntmps8
  go_upto_region 3 with fail
  go_cut [7, 8] (fun u v wx => ∃ x y : Nat, u = .int .i64 x ∧ v = .int .i64 y ∧ x ≤ z.length ∧ y ≤ z.length ∧ Kept [] w wx)
  case first =>
    have m1 : 0 ≤ s % ((z.length : Int) + 1) ∧ s % ((z.length : Int) + 1) < (z.length : Int) + 1 := ⟨Int.emod_nonneg _ (by omega), Int.emod_lt_of_pos _ (by omega)⟩
    have m2 : 0 ≤ t % ((z.length : Int) + 1) ∧ t % ((z.length : Int) + 1) < (z.length : Int) + 1 := ⟨Int.emod_nonneg _ (by omega), Int.emod_lt_of_pos _ (by omega)⟩
    have m1' := hide m1
    have m2' := hide m2
    clear m1 m2
    go_quiet (fail)
    go_wp2_with fail
    go_meet
    have n1 := m1'.out
    have n2 := m2'.out
    generalize s % ((z.length : Int) + 1) = S at *
    generalize t % ((z.length : Int) + 1) = T at *
    exact ⟨S.toNat, T.toNat, by rw [Int.toNat_of_nonneg n1.1], by rw [Int.toNat_of_nonneg n2.1], by omega, by omega, (Kept.refl [] w).drewN _⟩
  case rest =>
    obtain ⟨x, y, rfl, rfl, hx, hy, hkc⟩ := hcut
    go_upto_region 4 with fail
    go_cut [7, 8] (fun u v wx => ∃ lo hi : Nat, u = .int .i64 lo ∧ v = .int .i64 hi ∧ lo ≤ hi ∧ hi ≤ z.length ∧ Kept [] w wx)
    case first =>
      by_cases hxy : x ≤ y
      · by_cases hyx : y ≤ x
        · obtain rfl : x = y := by omega
          go_wp2_with fail
          all_goals
            go_meet
            exact ⟨x, x, rfl, rfl, Nat.le_refl _, hx, hkc⟩
        · go_wp2_with fail
          all_goals
            go_meet
            exact ⟨x, y, rfl, rfl, hxy, hy, hkc⟩
      · go_wp2_with fail
        all_goals
          go_meet
          exact ⟨y, x, rfl, rfl, by omega, hx, hkc⟩
    case rest =>
      clear hx hy hkc x y
      obtain ⟨lo, hi, rfl, rfl, hlh, hhi, hkc⟩ := hcut
      obtain ⟨wB, rfl⟩ : ∃ x : World, x = wc := ⟨_, rfl⟩
      have hrc := hrd.kept hkc (by simp)
      obtain ⟨x1, y1, e1, r1⟩ := slice_h ab z.length c lo (by omega) hnc
      obtain ⟨x2, y2, e2, r2⟩ := slice_lh ab z.length c lo hi hlh hhi hnc
      obtain ⟨x3, y3, e3, r3⟩ := slice_l ab z.length c hi hhi hnc
      have b1 : ∀ x ∈ z.take lo, 0 ≤ x ∧ x ≤ 255 := fun x hx => hz x (List.mem_of_mem_take hx)
      have b2 : ∀ x ∈ (z.take hi).drop lo, 0 ≤ x ∧ x ≤ 255 := fun x hx => hz x (List.mem_of_mem_take (List.mem_of_mem_drop hx))
      have b3 : ∀ x ∈ z.drop hi, 0 ≤ x ∧ x ≤ 255 := fun x hx => hz x (List.mem_of_mem_drop hx)
      have hzz : z.take lo ++ (z.take hi).drop lo ++ z.drop hi = z := by
        have h1 : z.take lo = (z.take hi).take lo := by rw [List.take_take, Nat.min_eq_left hlh]
        have h2 : (z.take hi).take lo ++ (z.take hi).drop lo = z.take hi := List.take_append_drop lo (z.take hi)
        rw [h1, h2, List.take_append_drop]
      have hA : feedR [] z = feedR [] (z.take lo) ++ feedR (feedP [] (z.take lo)) ((z.take hi).drop lo) ++ feedR (feedP (feedP [] (z.take lo)) ((z.take hi).drop lo)) (z.drop hi) := by
        rw [← feedR_append, ← feedP_append, ← feedR_append, hzz]
      have hP : feedP [] z = feedP (feedP (feedP [] (z.take lo)) ((z.take hi).drop lo)) (z.drop hi) := by
        rw [← feedP_append, ← feedP_append, ← List.append_assoc, hzz]
      have l1 := feedR_len (z.take lo) []
      have l2 := feedR_len ((z.take hi).drop lo) (feedP [] (z.take lo))
      have l3 := feedR_len (z.drop hi) (feedP (feedP [] (z.take lo)) ((z.take hi).drop lo))
      have i1 : Inv (feedP [] (z.take lo)) := Inv.feed _ True.intro
      have i2 : Inv (feedP (feedP [] (z.take lo)) ((z.take hi).drop lo)) := Inv.feed _ i1
      have iP : Inv (feedP [] z) := Inv.feed _ True.intro
      have m1 : (z.take lo).length ≤ 150 := by rw [List.length_take]; omega
      have m2 : ((z.take hi).drop lo).length ≤ 150 := by rw [List.length_drop, List.length_take]; omega
      have m3 : (z.drop hi).length ≤ 150 := by rw [List.length_drop]; omega
      have hA' := hide hA
      have hP' := hide hP
      have hz' := hide hz
      have b1' := hide b1
      have b2' := hide b2
      have b3' := hide b3
      have r1' := hide (r1 wB z hrc)
      have r2' := hide (r2 wB z hrc)
      have r3' := hide (r3 wB z hrc)
      have iP' := hide iP
      have i1' := hide i1
      have i2' := hide i2
      have hrd' := hide hrd
      have hle := feed_le z
      have hval := hide (feedR_valid z (p := []) True.intro hz)
      have hencz := hide (fun h1 h2 => enc_feed z (p := []) True.intro hz h1 h2)
      clear hA hP hz b1 b2 b3 r1 r2 r3 iP i1 i2 hrd hzz
      generalize z.take lo = z1 at *
      generalize (z.take hi).drop lo = z2 at *
      generalize z.drop hi = z3 at *
      have hblt : ∀ (a : Option Addr) (n : Nat) (l : List Int), Rd wB a n 1 (ints .u8 l) → l ≠ [] → ∀ g ∈ blk a, g < wB.heap.size := fun a n l h hne => h.lt (ints_ne hne)
      have hblt' := hide hblt
      clear hblt
      have hDA : Dec ((wB.alloc (.cells #[.int .u8 0, .int .u8 0, .int .u8 0, .int .i64 0] 31)).alloc (.cells #[.int .u8 0, .int .u8 0, .int .u8 0, .int .i64 0] 31)) wB.heap.size 0 [] := (Dec.new wB _).kept ((Kept.refl [] _).alloc _) (by simp)
      have hDB : Dec ((wB.alloc (.cells #[.int .u8 0, .int .u8 0, .int .u8 0, .int .i64 0] 31)).alloc (.cells #[.int .u8 0, .int .u8 0, .int .u8 0, .int .i64 0] 31)) (wB.heap.size + 1) 0 [] := by simpa using Dec.new (wB.alloc (.cells #[.int .u8 0, .int .u8 0, .int .u8 0, .int .i64 0] 31)) 31
      have hK0 : Kept [] wB ((wB.alloc (.cells #[.int .u8 0, .int .u8 0, .int .u8 0, .int .i64 0] 31)).alloc (.cells #[.int .u8 0, .int .u8 0, .int .u8 0, .int .i64 0] 31)) := ((Kept.refl [] _).alloc _).alloc _
      have hDA' := hide hDA
      have hDB' := hide hDB
      clear hDA hDB
      go_wp2_with fail
      generalize (wB.alloc (.cells #[.int .u8 0, .int .u8 0, .int .u8 0, .int .i64 0] 31)).alloc (.cells #[.int .u8 0, .int .u8 0, .int .u8 0, .int .i64 0] 31) = w0 at *
      have s0 := hK0.size
      refine (Feed_any wB.heap.size 0 [] _ z.length _ z w0 hDA'.out True.intro hz'.out (hrc.kept hK0 (by simp)) (fun hne h => by have := hblt'.out _ _ z hrc hne _ h; omega) (by omega)).mono ?_
      rintro e w1 ⟨⟨a1, n1, c1, rfl, ho1, hk1, hat1⟩, hd1, hw1⟩
      have hk1' : Kept [wB.heap.size] w0 w1 := hk1
      have hdB1 := hDB'.out.kept hk1' (by simp)
      have K1 : Kept [] wB w1 := hK0.trans hk1' (by simp)
      go_wp2_with fail
      refine (Feed_any (wB.heap.size + 1) 0 [] x1 lo y1 z1 w1 hdB1 True.intro b1'.out (r1'.out.kept K1 (by simp)) (fun hne h => by have := hblt'.out _ _ z1 r1'.out hne _ h; omega) (by omega)).mono ?_
      rintro e w2 ⟨⟨a2, n2, c2, rfl, ho2, hk2, hat2⟩, hd2, hw2⟩
      have hk2' : Kept [wB.heap.size + 1] w1 w2 := hk2
      have K2 : Kept [] wB w2 := K1.trans hk2' (by simp)
      have hn2 : n2 ≤ 300 := by have := ho2.len; rw [ints_len] at this; omega
      have g1 := ho1.ge
      have g2 := ho2.ge
      have dl0 := hDB'.out.lt
      have s1 := hk1'.size
      have ho1_2 := ho1.kept hk2' (fun g hg => by have := (g1 g hg).1; simp; omega)
      have hd1_2 := hd1.kept hk2' (by simp)
      go_wp2_with fail
      refine (Feed_any (wB.heap.size + 1) 0 _ x2 (hi - lo) y2 z2 w2 hd2 i1'.out b2'.out (r2'.out.kept K2 (by simp)) (fun hne h => by have := hblt'.out _ _ z2 r2'.out hne _ h; omega) (by omega)).mono ?_
      rintro e w3 ⟨⟨a3, n3, c3, rfl, ho3, hk3, hat3⟩, hd3, hw3⟩
      have hk3' : Kept [wB.heap.size + 1] w2 w3 := hk3
      have K3 : Kept [] wB w3 := K2.trans hk3' (by simp)
      have hn3 : n3 ≤ 300 := by have := ho3.len; rw [ints_len] at this; omega
      have s2 := hk2'.size
      have s3 := hk3'.size
      have ho1_3 := ho1_2.kept hk3' (fun g hg => by have := (g1 g hg).1; simp; omega)
      have hd1_3 := hd1_2.kept hk3' (by simp)
      have ho2_3 := ho2.kept hk3' (fun g hg => by have := (g2 g hg).1; simp; omega)
      go_wp2_with (at_builtin; refine wpList_app ?_ rfl elRune rfl rfl ho2_3 rfl ho3.rd (ints_one _ _) ?o2 ?o3; intro a4 c4 w4 ho4 hk4 hat4; rw [ints_append] at ho4)
      case o2 => omega
      case o3 => omega
      have K4 : Kept [] wB w4 := K3.trans hk4 (fun x hx => .inr (by have := (g2 x hx).1; omega))
      have s4 := hk4.size
      have hd3_4 := hd3.kept hk4 (fun h => by have := (g2 _ h).1; omega)
      have hd1_4 := hd1_3.kept hk4 (fun h => by have := (g2 _ h).1; omega)
      have ho1_4 := ho1_3.kept hk4 (fun g hg h => by have := (g2 _ h).1; have := (g1 _ hg).2; omega)
      have g4 : ∀ g ∈ blk a4, w1.heap.size ≤ g := fun g hg => by
        rcases hat4 g hg with h | h
        · exact (g2 g h).1
        · omega
      refine (Feed_any (wB.heap.size + 1) 0 _ x3 (z.length - hi) y3 z3 w4 hd3_4 i2'.out b3'.out (r3'.out.kept K4 (by simp)) (fun hne h => by have := hblt'.out _ _ z3 r3'.out hne _ h; omega) (by omega)).mono ?_
      rintro e w5 ⟨⟨a5, n5, c5, rfl, ho5, hk5, hat5⟩, hd5, hw5⟩
      have hk5' : Kept [wB.heap.size + 1] w4 w5 := hk5
      have K5 : Kept [] wB w5 := K4.trans hk5' (by simp)
      have hn5 : n5 ≤ 300 := by have := ho5.len; rw [ints_len] at this; omega
      have s5 := hk5'.size
      have ho4_5 := ho4.kept hk5' (fun g hg => by have := g4 g hg; simp; omega)
      have hd1_5 := hd1_4.kept hk5' (by simp)
      have ho1_5 := ho1_4.kept hk5' (fun g hg => by have := (g1 g hg).1; simp; omega)
      go_upto_region 10 with (at_builtin; refine wpList_app ?_ rfl elRune rfl rfl ho4_5 rfl ho5.rd (ints_one _ _) ?o2 ?o3; intro a6 c6 w6 ho6 hk6 hat6; rw [ints_append] at ho6)
      case o2 => omega
      case o3 => omega
      have hnn1 : n1 = (feedR [] z).length := by have := ho1.len; rw [ints_len] at this; omega
      have g6 : ∀ g ∈ blk a6, w1.heap.size ≤ g := fun g hg => by
        rcases hat6 g hg with h | h
        · exact g4 g h
        · omega
      have hk6' : Kept (blk a4) w5 w6 := hk6
      have K6 : Kept [] wB w6 := K5.trans hk6' (fun x hx => .inr (by have := g4 x hx; omega))
      have ho1_6 := ho1_5.kept hk6' (fun g hg h => by have := g4 _ h; have := (g1 _ hg).2; omega)
      have hd1_6 := hd1_5.kept hk6' (fun h => by have := g4 _ h; omega)
      have hd5_6 := hd5.kept hk6' (fun h => by have := g4 _ h; omega)
      have s6 := hk6'.size
      rw [← hA'.out] at ho6
      rw [← hP'.out] at hd5_6
      have hPl := iP'.out.len
      have hAl : (feedR [] z).length ≤ 300 := by omega
      have hK6w : Kept [] w w6 := hkc.trans K6 (by simp)
      have hSame := hide (Same_self a1 a6 n1 c1 _ c6 (feedR [] z) w6.drew (ho1_6.rd.kept ((Kept.refl [] w6).drew) (by simp)) (ho6.rd.kept ((Kept.refl [] w6).drew) (by simp)) (by omega))
      have HPw := hide (fun W (h : Kept [] w6 W) => Pending_any wB.heap.size 0 (feedP [] z) W (hd1_6.kept h (by simp)) hPl)
      have HPp := hide (fun W (h : Kept [] w6 W) => Pending_any (wB.heap.size + 1) 0 (feedP [] z) W (hd5_6.kept h (by simp)) hPl)
      have hn1f := hide (show ¬ z.length < n1 by omega)
      have hn1z : decide ((z.length : Int) < (n1 : Int)) = false := decide_eq_false (by omega)
      have hPli : ((feedP [] z).length : Int) ≤ 3 := by omega
      have hnn1' := hide hnn1
      clear hnn1 l1 l2 l3
      go_cut [79] (fun v wx => v = .bool false ∧ Kept [] w6 wx)
      case first =>
        clear hA' hP' hz' b1' b2' b3' r1' r2' r3' iP' i1' i2' hrd' hle hval hencz m1 m2 m3 e1 e2 e3 hblt' hDA' hDB' ho1 hk1 hat1 hd1 hw1 hk1' hdB1 ho2 hk2 hat2 hd2 hw2 hk2' hn2 ho1_2 hd1_2 ho3 hk3 hat3 hd3 hw3 hk3' hn3 ho1_3 hd1_3 ho2_3 ho4 hk4 hat4 hd3_4 hd1_4 ho1_4 g4 ho5 hk5 hat5 hd5 hw5 hk5' hn5 ho4_5 hd1_5 ho1_5 ho6 hk6 hat6 g6 hk6' ho1_6 hd1_6 hd5_6 hAl hPli hK6w q1 q2 hrc
        refine wp_region_any (by kernel_rfl) ?_
        try (change wpAny _ _ _ _ _ _ _ (World.drew _))
        refine wpAny_take (i := 0) (v := ?_) rfl (by kernel_rfl) (by kernel_rfl) (by kernel_rfl) (fun _ _ _ h => h) (Or.inl ⟨by rfl, ?_⟩) ?_
        rotate_left
        · (intro wq; go_simp; try with_reducible rfl)
        simp only [Act.put, List.getElem_toArray, List.getElem_cons_zero, List.setIfInBounds_toArray, List.set_cons_zero, List.set_cons_succ]
        refine wpAny_take (i := 1) (v := ?_) rfl (by kernel_rfl) (by kernel_rfl) (by kernel_rfl) (fun _ _ _ h => h) (Or.inl ⟨by rfl, ?_⟩) ?_
        rotate_left
        · (intro wq; go_simp; try with_reducible rfl)
        simp only [Act.put, List.getElem_toArray, List.getElem_cons_succ, List.getElem_cons_zero, List.setIfInBounds_toArray, List.set_cons_zero, List.set_cons_succ]
        refine wpAny_ready (rs := [2]) (by kernel_rfl) (by simp) ?_
        refine AllReady.cons rfl (fun K hK => ?_) AllReady.nil
        go_simp
        refine hSame.out.mono ?_
        rintro e wS ⟨rfl, kS0⟩
        have kS : Kept [] w6 wS := ((Kept.refl [] w6).drew).trans kS0 (by simp)
        go_wp2_with fail
        first | (refine hK _ _ ?_; clear hK K) | skip
        try simp only [Act.put, List.getElem_toArray, List.getElem_cons_succ, List.getElem_cons_zero, List.setIfInBounds_toArray, List.set_cons_zero, List.set_cons_succ]
        refine wpAny_take (i := 3) (v := ?_) rfl (by kernel_rfl) (by kernel_rfl) (by kernel_rfl) (fun _ _ _ h => h) (Or.inl ⟨by rfl, ?_⟩) ?_
        rotate_left
        · (intro wq; go_simp; try with_reducible rfl)
        simp only [Act.put, List.getElem_toArray, List.getElem_cons_succ, List.getElem_cons_zero, List.setIfInBounds_toArray, List.set_cons_zero, List.set_cons_succ]
        refine wpAny_take (i := 4) (v := ?_) rfl (by kernel_rfl) (by kernel_rfl) (by kernel_rfl) (fun _ _ _ h => h) (Or.inl ⟨by rfl, ?_⟩) ?_
        rotate_left
        · (intro wq; go_simp; try with_reducible rfl)
        simp only [Act.put, List.getElem_toArray, List.getElem_cons_succ, List.getElem_cons_zero, List.setIfInBounds_toArray, List.set_cons_zero, List.set_cons_succ]
        refine wpAny_ready (rs := [5]) (by kernel_rfl) (by simp) ?_
        refine AllReady.cons rfl (fun K hK => ?_) AllReady.nil
        go_simp
        refine (HPw.out wS kS).mono ?_
        rintro e wP1 ⟨aP1, nP1, cP1, rfl, oP1, kP1', tP1⟩
        have qP1 := conv_bytes wP1 aP1 nP1 cP1 _ oP1.rd
        have kP1 : Kept [] w6 wP1 := kS.trans kP1' (by simp)
        go_wp2_with fail
        first | (refine hK _ _ ?_; clear hK K) | skip
        try simp only [Act.put, List.getElem_toArray, List.getElem_cons_succ, List.getElem_cons_zero, List.setIfInBounds_toArray, List.set_cons_zero, List.set_cons_succ]
        refine wpAny_ready (rs := [6, 7]) (by kernel_rfl) (by simp) ?_
        refine AllReady.cons rfl (fun K hK => ?_) (AllReady.cons rfl (fun K hK => ?_) AllReady.nil)
        · go_simp
          first | (refine hK _ _ ?_; clear hK K) | skip
          try simp only [Act.put, List.getElem_toArray, List.getElem_cons_succ, List.getElem_cons_zero, List.setIfInBounds_toArray, List.set_cons_zero, List.set_cons_succ]
          refine wpAny_ready (rs := [7]) (by kernel_rfl) (by simp) ?_
          refine AllReady.cons rfl (fun K hK => ?_) AllReady.nil
          go_simp
          refine (HPp.out wP1 kP1).mono ?_
          rintro e wP2 ⟨aP2, nP2, cP2, rfl, oP2, kP2', tP2⟩
          have qP1' := conv_bytes wP2 aP1 nP1 cP1 _ (oP1.rd.kept kP2' (by simp))
          have qP2 := conv_bytes wP2 aP2 nP2 cP2 _ oP2.rd
          have kP2 : Kept [] w6 wP2 := kP1.trans kP2' (by simp)
          go_wp2_with fail
          first | (refine hK _ _ ?_; clear hK K) | skip
          try simp only [Act.put, List.getElem_toArray, List.getElem_cons_succ, List.getElem_cons_zero, List.setIfInBounds_toArray, List.set_cons_zero, List.set_cons_succ]
          refine wpAny_ready (rs := [8]) (by kernel_rfl) (by simp) ?_
          refine AllReady.cons rfl (fun K hK => ?_) AllReady.nil
          go_simp
          first | (refine hK _ _ ?_; clear hK K) | skip
          try simp only [Act.put, List.getElem_toArray, List.getElem_cons_succ, List.getElem_cons_zero, List.setIfInBounds_toArray, List.set_cons_zero, List.set_cons_succ]
          refine wpAny_take (i := 9) (v := ?_) rfl (by kernel_rfl) (by kernel_rfl) (by kernel_rfl) (fun _ _ _ h => h) (Or.inl ⟨by rfl, ?_⟩) ?_
          rotate_left
          · (intro wq; go_simp; try with_reducible rfl)
          simp only [Act.put, List.getElem_toArray, List.getElem_cons_succ, List.getElem_cons_zero, List.setIfInBounds_toArray, List.set_cons_zero, List.set_cons_succ]
          refine wpAny_take (i := 10) (v := ?_) rfl (by kernel_rfl) (by kernel_rfl) (by kernel_rfl) (fun _ _ _ h => h) (Or.inl ⟨by rfl, ?_⟩) ?_
          rotate_left
          · (intro wq; go_simp; try with_reducible rfl)
          simp only [Act.put, List.getElem_toArray, List.getElem_cons_succ, List.getElem_cons_zero, List.setIfInBounds_toArray, List.set_cons_zero, List.set_cons_succ]
          refine wpAny_take (i := 11) (v := ?_) rfl (by kernel_rfl) (by kernel_rfl) (by kernel_rfl) (fun _ _ _ h => h) (Or.inl ⟨by rfl, ?_⟩) ?_
          rotate_left
          · (intro wq; go_simp; try with_reducible rfl)
          simp only [Act.put, List.getElem_toArray, List.getElem_cons_succ, List.getElem_cons_zero, List.setIfInBounds_toArray, List.set_cons_zero, List.set_cons_succ]
          refine wpAny_ready (rs := [12]) (by kernel_rfl) (by simp) ?_
          refine AllReady.cons rfl (fun K hK => ?_) AllReady.nil
          go_simp
          refine (HPw.out wP2 kP2).mono ?_
          rintro e wP3 ⟨aP3, nP3, cP3, rfl, oP3, kP3', tP3⟩
          have hnP3 : decide ((3 : Int) < (nP3 : Int)) = false := decide_eq_false (by have := oP3.len; rw [ints_len] at this; omega)
          have kP3 : Kept [] w6 wP3 := kP2.trans kP3' (by simp)
          go_wp2_with fail
          first | (refine hK _ _ ?_; clear hK K) | skip
          try simp only [Act.put, List.getElem_toArray, List.getElem_cons_succ, List.getElem_cons_zero, List.setIfInBounds_toArray, List.set_cons_zero, List.set_cons_succ]
          refine wpAny_take (i := 13) (v := ?_) rfl (by kernel_rfl) (by kernel_rfl) (by kernel_rfl) (fun _ _ _ h => h) (Or.inl ⟨by rfl, ?_⟩) ?_
          rotate_left
          · (intro wq; go_simp; try with_reducible rfl)
          simp only [Act.put, List.getElem_toArray, List.getElem_cons_succ, List.getElem_cons_zero, List.setIfInBounds_toArray, List.set_cons_zero, List.set_cons_succ]
          refine wpAny_take (i := 14) (v := ?_) rfl (by kernel_rfl) (by kernel_rfl) (by kernel_rfl) (fun _ _ _ h => h) (Or.inl ⟨by rfl, ?_⟩) ?_
          rotate_left
          · (intro wq; go_simp; try with_reducible rfl)
          simp only [Act.put, List.getElem_toArray, List.getElem_cons_succ, List.getElem_cons_zero, List.setIfInBounds_toArray, List.set_cons_zero, List.set_cons_succ]
          refine wpAny_take (i := 15) (v := ?_) rfl (by kernel_rfl) (by kernel_rfl) (by kernel_rfl) (fun _ _ _ h => h) (Or.inl ⟨by rfl, ?_⟩) ?_
          rotate_left
          · (intro wq; go_simp; try with_reducible rfl)
          simp only [Act.put, List.getElem_toArray, List.getElem_cons_succ, List.getElem_cons_zero, List.setIfInBounds_toArray, List.set_cons_zero, List.set_cons_succ]
          refine wpAny_take (i := 16) (v := ?_) rfl (by kernel_rfl) (by kernel_rfl) (by kernel_rfl) (fun _ _ _ h => h) (Or.inl ⟨by rfl, ?_⟩) ?_
          rotate_left
          · (intro wq; go_simp; try with_reducible rfl)
          simp only [Act.put, List.getElem_toArray, List.getElem_cons_succ, List.getElem_cons_zero, List.setIfInBounds_toArray, List.set_cons_zero, List.set_cons_succ]
          refine wpAny_take (i := 17) (v := ?_) rfl (by kernel_rfl) (by kernel_rfl) (by kernel_rfl) (fun _ _ _ h => h) (Or.inl ⟨by rfl, ?_⟩) ?_
          rotate_left
          · (intro wq; go_simp; try with_reducible rfl)
          simp only [Act.put, List.getElem_toArray, List.getElem_cons_succ, List.getElem_cons_zero, List.setIfInBounds_toArray, List.set_cons_zero, List.set_cons_succ]
          refine wpAny_take (i := 18) (v := ?_) rfl (by kernel_rfl) (by kernel_rfl) (by kernel_rfl) (fun _ _ _ h => h) (Or.inl ⟨by rfl, ?_⟩) ?_
          rotate_left
          · (intro wq; go_simp; try with_reducible rfl)
          simp only [Act.put, List.getElem_toArray, List.getElem_cons_succ, List.getElem_cons_zero, List.setIfInBounds_toArray, List.set_cons_zero, List.set_cons_succ]
          refine wpAny_take (i := 19) (v := ?_) rfl (by kernel_rfl) (by kernel_rfl) (by kernel_rfl) (fun _ _ _ h => h) (Or.inl ⟨by rfl, ?_⟩) ?_
          rotate_left
          · (intro wq; go_simp; try with_reducible rfl)
          simp only [Act.put, List.getElem_toArray, List.getElem_cons_succ, List.getElem_cons_zero, List.setIfInBounds_toArray, List.set_cons_zero, List.set_cons_succ]
          refine wpAny_take (i := 20) (v := ?_) rfl (by kernel_rfl) (by kernel_rfl) (by kernel_rfl) (fun _ _ _ h => h) (Or.inl ⟨by rfl, ?_⟩) ?_
          rotate_left
          · (intro wq; go_simp; try with_reducible rfl)
          simp only [Act.put, List.getElem_toArray, List.getElem_cons_succ, List.getElem_cons_zero, List.setIfInBounds_toArray, List.set_cons_zero, List.set_cons_succ]
          refine wpAny_take (i := 21) (v := ?_) rfl (by kernel_rfl) (by kernel_rfl) (by kernel_rfl) (fun _ _ _ h => h) (Or.inl ⟨by rfl, ?_⟩) ?_
          rotate_left
          · (intro wq; go_simp; try with_reducible rfl)
          simp only [Act.put, List.getElem_toArray, List.getElem_cons_succ, List.getElem_cons_zero, List.setIfInBounds_toArray, List.set_cons_zero, List.set_cons_succ]
          refine wpAny_take (i := 22) (v := ?_) rfl (by kernel_rfl) (by kernel_rfl) (by kernel_rfl) (fun _ _ _ h => h) (Or.inl ⟨by rfl, ?_⟩) ?_
          rotate_left
          · (intro wq; go_simp; try with_reducible rfl)
          simp only [Act.put, List.getElem_toArray, List.getElem_cons_succ, List.getElem_cons_zero, List.setIfInBounds_toArray, List.set_cons_zero, List.set_cons_succ]
          refine wpAny_done (by kernel_rfl) ?_ _
          go_wp2_with fail
          go_meet
          exact ⟨by rw [decide_eq_false hn1f.out], kP3⟩
        · go_simp
          refine (HPp.out wP1 kP1).mono ?_
          rintro e wP2 ⟨aP2, nP2, cP2, rfl, oP2, kP2', tP2⟩
          have qP1' := conv_bytes wP2 aP1 nP1 cP1 _ (oP1.rd.kept kP2' (by simp))
          have qP2 := conv_bytes wP2 aP2 nP2 cP2 _ oP2.rd
          have kP2 : Kept [] w6 wP2 := kP1.trans kP2' (by simp)
          go_wp2_with fail
          first | (refine hK _ _ ?_; clear hK K) | skip
          try simp only [Act.put, List.getElem_toArray, List.getElem_cons_succ, List.getElem_cons_zero, List.setIfInBounds_toArray, List.set_cons_zero, List.set_cons_succ]
          refine wpAny_ready (rs := [6, 8]) (by kernel_rfl) (by simp) ?_
          refine AllReady.cons rfl (fun K hK => ?_) (AllReady.cons rfl (fun K hK => ?_) AllReady.nil)
          · go_simp
            first | (refine hK _ _ ?_; clear hK K) | skip
            try simp only [Act.put, List.getElem_toArray, List.getElem_cons_succ, List.getElem_cons_zero, List.setIfInBounds_toArray, List.set_cons_zero, List.set_cons_succ]
            refine wpAny_ready (rs := [8]) (by kernel_rfl) (by simp) ?_
            refine AllReady.cons rfl (fun K hK => ?_) AllReady.nil
            go_simp
            first | (refine hK _ _ ?_; clear hK K) | skip
            try simp only [Act.put, List.getElem_toArray, List.getElem_cons_succ, List.getElem_cons_zero, List.setIfInBounds_toArray, List.set_cons_zero, List.set_cons_succ]
            refine wpAny_take (i := 9) (v := ?_) rfl (by kernel_rfl) (by kernel_rfl) (by kernel_rfl) (fun _ _ _ h => h) (Or.inl ⟨by rfl, ?_⟩) ?_
            rotate_left
            · (intro wq; go_simp; try with_reducible rfl)
            simp only [Act.put, List.getElem_toArray, List.getElem_cons_succ, List.getElem_cons_zero, List.setIfInBounds_toArray, List.set_cons_zero, List.set_cons_succ]
            refine wpAny_take (i := 10) (v := ?_) rfl (by kernel_rfl) (by kernel_rfl) (by kernel_rfl) (fun _ _ _ h => h) (Or.inl ⟨by rfl, ?_⟩) ?_
            rotate_left
            · (intro wq; go_simp; try with_reducible rfl)
            simp only [Act.put, List.getElem_toArray, List.getElem_cons_succ, List.getElem_cons_zero, List.setIfInBounds_toArray, List.set_cons_zero, List.set_cons_succ]
            refine wpAny_take (i := 11) (v := ?_) rfl (by kernel_rfl) (by kernel_rfl) (by kernel_rfl) (fun _ _ _ h => h) (Or.inl ⟨by rfl, ?_⟩) ?_
            rotate_left
            · (intro wq; go_simp; try with_reducible rfl)
            simp only [Act.put, List.getElem_toArray, List.getElem_cons_succ, List.getElem_cons_zero, List.setIfInBounds_toArray, List.set_cons_zero, List.set_cons_succ]
            refine wpAny_ready (rs := [12]) (by kernel_rfl) (by simp) ?_
            refine AllReady.cons rfl (fun K hK => ?_) AllReady.nil
            go_simp
            refine (HPw.out wP2 kP2).mono ?_
            rintro e wP3 ⟨aP3, nP3, cP3, rfl, oP3, kP3', tP3⟩
            have hnP3 : decide ((3 : Int) < (nP3 : Int)) = false := decide_eq_false (by have := oP3.len; rw [ints_len] at this; omega)
            have kP3 : Kept [] w6 wP3 := kP2.trans kP3' (by simp)
            go_wp2_with fail
            first | (refine hK _ _ ?_; clear hK K) | skip
            try simp only [Act.put, List.getElem_toArray, List.getElem_cons_succ, List.getElem_cons_zero, List.setIfInBounds_toArray, List.set_cons_zero, List.set_cons_succ]
            refine wpAny_take (i := 13) (v := ?_) rfl (by kernel_rfl) (by kernel_rfl) (by kernel_rfl) (fun _ _ _ h => h) (Or.inl ⟨by rfl, ?_⟩) ?_
            rotate_left
            · (intro wq; go_simp; try with_reducible rfl)
            simp only [Act.put, List.getElem_toArray, List.getElem_cons_succ, List.getElem_cons_zero, List.setIfInBounds_toArray, List.set_cons_zero, List.set_cons_succ]
            refine wpAny_take (i := 14) (v := ?_) rfl (by kernel_rfl) (by kernel_rfl) (by kernel_rfl) (fun _ _ _ h => h) (Or.inl ⟨by rfl, ?_⟩) ?_
            rotate_left
            · (intro wq; go_simp; try with_reducible rfl)
            simp only [Act.put, List.getElem_toArray, List.getElem_cons_succ, List.getElem_cons_zero, List.setIfInBounds_toArray, List.set_cons_zero, List.set_cons_succ]
            refine wpAny_take (i := 15) (v := ?_) rfl (by kernel_rfl) (by kernel_rfl) (by kernel_rfl) (fun _ _ _ h => h) (Or.inl ⟨by rfl, ?_⟩) ?_
            rotate_left
            · (intro wq; go_simp; try with_reducible rfl)
            simp only [Act.put, List.getElem_toArray, List.getElem_cons_succ, List.getElem_cons_zero, List.setIfInBounds_toArray, List.set_cons_zero, List.set_cons_succ]
            refine wpAny_take (i := 16) (v := ?_) rfl (by kernel_rfl) (by kernel_rfl) (by kernel_rfl) (fun _ _ _ h => h) (Or.inl ⟨by rfl, ?_⟩) ?_
            rotate_left
            · (intro wq; go_simp; try with_reducible rfl)
            simp only [Act.put, List.getElem_toArray, List.getElem_cons_succ, List.getElem_cons_zero, List.setIfInBounds_toArray, List.set_cons_zero, List.set_cons_succ]
            refine wpAny_take (i := 17) (v := ?_) rfl (by kernel_rfl) (by kernel_rfl) (by kernel_rfl) (fun _ _ _ h => h) (Or.inl ⟨by rfl, ?_⟩) ?_
            rotate_left
            · (intro wq; go_simp; try with_reducible rfl)
            simp only [Act.put, List.getElem_toArray, List.getElem_cons_succ, List.getElem_cons_zero, List.setIfInBounds_toArray, List.set_cons_zero, List.set_cons_succ]
            refine wpAny_take (i := 18) (v := ?_) rfl (by kernel_rfl) (by kernel_rfl) (by kernel_rfl) (fun _ _ _ h => h) (Or.inl ⟨by rfl, ?_⟩) ?_
            rotate_left
            · (intro wq; go_simp; try with_reducible rfl)
            simp only [Act.put, List.getElem_toArray, List.getElem_cons_succ, List.getElem_cons_zero, List.setIfInBounds_toArray, List.set_cons_zero, List.set_cons_succ]
            refine wpAny_take (i := 19) (v := ?_) rfl (by kernel_rfl) (by kernel_rfl) (by kernel_rfl) (fun _ _ _ h => h) (Or.inl ⟨by rfl, ?_⟩) ?_
            rotate_left
            · (intro wq; go_simp; try with_reducible rfl)
            simp only [Act.put, List.getElem_toArray, List.getElem_cons_succ, List.getElem_cons_zero, List.setIfInBounds_toArray, List.set_cons_zero, List.set_cons_succ]
            refine wpAny_take (i := 20) (v := ?_) rfl (by kernel_rfl) (by kernel_rfl) (by kernel_rfl) (fun _ _ _ h => h) (Or.inl ⟨by rfl, ?_⟩) ?_
            rotate_left
            · (intro wq; go_simp; try with_reducible rfl)
            simp only [Act.put, List.getElem_toArray, List.getElem_cons_succ, List.getElem_cons_zero, List.setIfInBounds_toArray, List.set_cons_zero, List.set_cons_succ]
            refine wpAny_take (i := 21) (v := ?_) rfl (by kernel_rfl) (by kernel_rfl) (by kernel_rfl) (fun _ _ _ h => h) (Or.inl ⟨by rfl, ?_⟩) ?_
            rotate_left
            · (intro wq; go_simp; try with_reducible rfl)
            simp only [Act.put, List.getElem_toArray, List.getElem_cons_succ, List.getElem_cons_zero, List.setIfInBounds_toArray, List.set_cons_zero, List.set_cons_succ]
            refine wpAny_take (i := 22) (v := ?_) rfl (by kernel_rfl) (by kernel_rfl) (by kernel_rfl) (fun _ _ _ h => h) (Or.inl ⟨by rfl, ?_⟩) ?_
            rotate_left
            · (intro wq; go_simp; try with_reducible rfl)
            simp only [Act.put, List.getElem_toArray, List.getElem_cons_succ, List.getElem_cons_zero, List.setIfInBounds_toArray, List.set_cons_zero, List.set_cons_succ]
            refine wpAny_done (by kernel_rfl) ?_ _
            go_wp2_with fail
            go_meet
            exact ⟨by rw [decide_eq_false hn1f.out], kP3⟩
          · go_simp
            first | (refine hK _ _ ?_; clear hK K) | skip
            try simp only [Act.put, List.getElem_toArray, List.getElem_cons_succ, List.getElem_cons_zero, List.setIfInBounds_toArray, List.set_cons_zero, List.set_cons_succ]
            refine wpAny_ready (rs := [6]) (by kernel_rfl) (by simp) ?_
            refine AllReady.cons rfl (fun K hK => ?_) AllReady.nil
            go_simp
            first | (refine hK _ _ ?_; clear hK K) | skip
            try simp only [Act.put, List.getElem_toArray, List.getElem_cons_succ, List.getElem_cons_zero, List.setIfInBounds_toArray, List.set_cons_zero, List.set_cons_succ]
            refine wpAny_take (i := 9) (v := ?_) rfl (by kernel_rfl) (by kernel_rfl) (by kernel_rfl) (fun _ _ _ h => h) (Or.inl ⟨by rfl, ?_⟩) ?_
            rotate_left
            · (intro wq; go_simp; try with_reducible rfl)
            simp only [Act.put, List.getElem_toArray, List.getElem_cons_succ, List.getElem_cons_zero, List.setIfInBounds_toArray, List.set_cons_zero, List.set_cons_succ]
            refine wpAny_take (i := 10) (v := ?_) rfl (by kernel_rfl) (by kernel_rfl) (by kernel_rfl) (fun _ _ _ h => h) (Or.inl ⟨by rfl, ?_⟩) ?_
            rotate_left
            · (intro wq; go_simp; try with_reducible rfl)
            simp only [Act.put, List.getElem_toArray, List.getElem_cons_succ, List.getElem_cons_zero, List.setIfInBounds_toArray, List.set_cons_zero, List.set_cons_succ]
            refine wpAny_take (i := 11) (v := ?_) rfl (by kernel_rfl) (by kernel_rfl) (by kernel_rfl) (fun _ _ _ h => h) (Or.inl ⟨by rfl, ?_⟩) ?_
            rotate_left
            · (intro wq; go_simp; try with_reducible rfl)
            simp only [Act.put, List.getElem_toArray, List.getElem_cons_succ, List.getElem_cons_zero, List.setIfInBounds_toArray, List.set_cons_zero, List.set_cons_succ]
            refine wpAny_ready (rs := [12]) (by kernel_rfl) (by simp) ?_
            refine AllReady.cons rfl (fun K hK => ?_) AllReady.nil
            go_simp
            refine (HPw.out wP2 kP2).mono ?_
            rintro e wP3 ⟨aP3, nP3, cP3, rfl, oP3, kP3', tP3⟩
            have hnP3 : decide ((3 : Int) < (nP3 : Int)) = false := decide_eq_false (by have := oP3.len; rw [ints_len] at this; omega)
            have kP3 : Kept [] w6 wP3 := kP2.trans kP3' (by simp)
            go_wp2_with fail
            first | (refine hK _ _ ?_; clear hK K) | skip
            try simp only [Act.put, List.getElem_toArray, List.getElem_cons_succ, List.getElem_cons_zero, List.setIfInBounds_toArray, List.set_cons_zero, List.set_cons_succ]
            refine wpAny_take (i := 13) (v := ?_) rfl (by kernel_rfl) (by kernel_rfl) (by kernel_rfl) (fun _ _ _ h => h) (Or.inl ⟨by rfl, ?_⟩) ?_
            rotate_left
            · (intro wq; go_simp; try with_reducible rfl)
            simp only [Act.put, List.getElem_toArray, List.getElem_cons_succ, List.getElem_cons_zero, List.setIfInBounds_toArray, List.set_cons_zero, List.set_cons_succ]
            refine wpAny_take (i := 14) (v := ?_) rfl (by kernel_rfl) (by kernel_rfl) (by kernel_rfl) (fun _ _ _ h => h) (Or.inl ⟨by rfl, ?_⟩) ?_
            rotate_left
            · (intro wq; go_simp; try with_reducible rfl)
            simp only [Act.put, List.getElem_toArray, List.getElem_cons_succ, List.getElem_cons_zero, List.setIfInBounds_toArray, List.set_cons_zero, List.set_cons_succ]
            refine wpAny_take (i := 15) (v := ?_) rfl (by kernel_rfl) (by kernel_rfl) (by kernel_rfl) (fun _ _ _ h => h) (Or.inl ⟨by rfl, ?_⟩) ?_
            rotate_left
            · (intro wq; go_simp; try with_reducible rfl)
            simp only [Act.put, List.getElem_toArray, List.getElem_cons_succ, List.getElem_cons_zero, List.setIfInBounds_toArray, List.set_cons_zero, List.set_cons_succ]
            refine wpAny_take (i := 16) (v := ?_) rfl (by kernel_rfl) (by kernel_rfl) (by kernel_rfl) (fun _ _ _ h => h) (Or.inl ⟨by rfl, ?_⟩) ?_
            rotate_left
            · (intro wq; go_simp; try with_reducible rfl)
            simp only [Act.put, List.getElem_toArray, List.getElem_cons_succ, List.getElem_cons_zero, List.setIfInBounds_toArray, List.set_cons_zero, List.set_cons_succ]
            refine wpAny_take (i := 17) (v := ?_) rfl (by kernel_rfl) (by kernel_rfl) (by kernel_rfl) (fun _ _ _ h => h) (Or.inl ⟨by rfl, ?_⟩) ?_
            rotate_left
            · (intro wq; go_simp; try with_reducible rfl)
            simp only [Act.put, List.getElem_toArray, List.getElem_cons_succ, List.getElem_cons_zero, List.setIfInBounds_toArray, List.set_cons_zero, List.set_cons_succ]
            refine wpAny_take (i := 18) (v := ?_) rfl (by kernel_rfl) (by kernel_rfl) (by kernel_rfl) (fun _ _ _ h => h) (Or.inl ⟨by rfl, ?_⟩) ?_
            rotate_left
            · (intro wq; go_simp; try with_reducible rfl)
            simp only [Act.put, List.getElem_toArray, List.getElem_cons_succ, List.getElem_cons_zero, List.setIfInBounds_toArray, List.set_cons_zero, List.set_cons_succ]
            refine wpAny_take (i := 19) (v := ?_) rfl (by kernel_rfl) (by kernel_rfl) (by kernel_rfl) (fun _ _ _ h => h) (Or.inl ⟨by rfl, ?_⟩) ?_
            rotate_left
            · (intro wq; go_simp; try with_reducible rfl)
            simp only [Act.put, List.getElem_toArray, List.getElem_cons_succ, List.getElem_cons_zero, List.setIfInBounds_toArray, List.set_cons_zero, List.set_cons_succ]
            refine wpAny_take (i := 20) (v := ?_) rfl (by kernel_rfl) (by kernel_rfl) (by kernel_rfl) (fun _ _ _ h => h) (Or.inl ⟨by rfl, ?_⟩) ?_
            rotate_left
            · (intro wq; go_simp; try with_reducible rfl)
            simp only [Act.put, List.getElem_toArray, List.getElem_cons_succ, List.getElem_cons_zero, List.setIfInBounds_toArray, List.set_cons_zero, List.set_cons_succ]
            refine wpAny_take (i := 21) (v := ?_) rfl (by kernel_rfl) (by kernel_rfl) (by kernel_rfl) (fun _ _ _ h => h) (Or.inl ⟨by rfl, ?_⟩) ?_
            rotate_left
            · (intro wq; go_simp; try with_reducible rfl)
            simp only [Act.put, List.getElem_toArray, List.getElem_cons_succ, List.getElem_cons_zero, List.setIfInBounds_toArray, List.set_cons_zero, List.set_cons_succ]
            refine wpAny_take (i := 22) (v := ?_) rfl (by kernel_rfl) (by kernel_rfl) (by kernel_rfl) (fun _ _ _ h => h) (Or.inl ⟨by rfl, ?_⟩) ?_
            rotate_left
            · (intro wq; go_simp; try with_reducible rfl)
            simp only [Act.put, List.getElem_toArray, List.getElem_cons_succ, List.getElem_cons_zero, List.setIfInBounds_toArray, List.set_cons_zero, List.set_cons_succ]
            refine wpAny_done (by kernel_rfl) ?_ _
            go_wp2_with fail
            go_meet
            exact ⟨by rw [decide_eq_false hn1f.out], kP3⟩
      case rest =>
        obtain ⟨rfl, hkr⟩ := hcut
        obtain ⟨wR, rfl⟩ : ∃ x : World, x = wc := ⟨_, rfl⟩
        have hv32 : ∀ r ∈ feedR [] z, 0 ≤ r ∧ r ≤ 1114111 := fun r hr => by have := (validI_iff r).1 (hval.out r hr); omega
        have hv32' := hide hv32
        clear hv32
        have hR1 := hide (fun W (h : Kept [] w6 W) => ho1_6.rd.kept h (by simp))
        have hRZ := hide (fun W (h : Kept [] w6 W) => hrd'.out.kept (hK6w.trans h (by simp)) (by simp))
        have hel := encI_len (feedR [] z)
        have heb := hide (encI_byte (feedR [] z))
        have hde := dec_enc (feedR [] z) hval.out
        have HE := hide (fun W (h : Kept [] w6 W) => Encode_any a1 n1 c1 (feedR [] z) W (fun r hr => by have := hv32'.out r hr; omega) (hR1.out W h) (by omega))
        have HD := hide (fun W a n c (h : Rd W a n 1 (ints .u8 (encI (feedR [] z)))) => Decode_any a n c (encI (feedR [] z)) W heb.out h (by omega))
        rw [hde] at HD
        have HS := hide (fun W a n c (h : Rd W a n 1 (ints .i32 (feedR [] z))) (hk : Kept [] w6 W) => Same_self a a1 n c n1 c1 (feedR [] z) W h (hR1.out W hk) (by omega))
        clear hel heb hde
        go_wp2_with fail
        refine (HPw.out wR hkr).mono ?_
        rintro e w7 ⟨a7, n7, c7, rfl, ho7, hk7, hat7⟩
        have hn7 : n7 = (feedP [] z).length := by have := ho7.len; rw [ints_len] at this; omega
        have hn7' := hide hn7
        clear hn7
        have K7 : Kept [] w6 w7 := hkr.trans hk7 (by simp)
        go_wp2_with fail
        obtain ⟨wl, rfl⟩ : ∃ x : World, x = w7 := ⟨_, rfl⟩
        go_loopw [13, 85] (fun u i wq => ∃ (k : Nat) (bd : Bool), k ≤ n1 ∧ i = .int .i64 k ∧ u = .bool bd ∧ (bd = false → feedP [] z = [] ∧ 65533 ∉ (feedR [] z).take k) ∧ Kept [] w6 wq) (fun _ i _ => n1 - (intOf i).toNat)
        case atStart =>
          refine ⟨0, _, Nat.zero_le _, rfl, rfl, fun h => ⟨?_, by simp⟩, K7⟩
          have := hn7'.out
          apply List.eq_nil_of_length_eq_zero
          simp at h
          omega
        case round =>
          obtain ⟨k, bd, hk, rfl, rfl, hbd, hkq⟩ := hrel
          have hbd' := hide hbd
          clear hbd
          by_cases hkl : k < n1
          · obtain ⟨bb1, oo1, hab1, hc1⟩ := (hR1.out wr hkq).2.resolve_left (ints_ne (List.ne_nil_of_length_pos (by have := hnn1'.out; omega)))
            subst hab1
            have hkz : k < (feedR [] z).length := by have := hnn1'.out; omega
            have hx := Rd.at hc1 k hkz
            have hts := hide (take_snoc hkz)
            have hv1 := hide (hval.out _ (List.getElem_mem hkz))
            have hv2 := hide (hv32'.out _ (List.getElem_mem hkz))
            generalize (feedR [] z)[k] = v at *
            have Hv := hide (fun W => valid_any v W (by have := hv2.out; omega) (by have := hv2.out; omega))
            rw [hv1.out] at Hv
            cases bd
            · by_cases hvb : v = 65533
              · subst hvb
                go_wp2_with fail
                refine (Hv.out _).mono ?_
                rintro e w' ⟨rfl, rfl⟩
                go_wp2_with fail
                go_roundw
                case rel => exact ⟨k + 1, _, by omega, by go_num, rfl, by simp, hkq⟩
                case measure => simp [intOf]; omega
              · have hvf : (v == 65533) = false := beq_eq_false_iff_ne.2 hvb
                go_wp2_with fail
                refine (Hv.out _).mono ?_
                rintro e w' ⟨rfl, rfl⟩
                go_wp2_with fail
                go_roundw
                case rel => exact ⟨k + 1, false, by omega, by go_num, by simp, fun _ => ⟨(hbd'.out (by simp)).1, by rw [hts.out]; simp only [List.mem_append, List.mem_singleton, not_or]; exact ⟨(hbd'.out (by simp)).2, fun h => hvb h.symm⟩⟩, hkq⟩
                case measure => simp [intOf]; omega
            · go_wp2_with fail
              refine (Hv.out _).mono ?_
              rintro e w' ⟨rfl, rfl⟩
              go_wp2_with fail
              go_roundw
              case rel => exact ⟨k + 1, true, by omega, by go_num, rfl, by simp, hkq⟩
              case measure => simp [intOf]; omega
          · obtain rfl : k = n1 := by omega
            have hez : bd = false → encI (feedR [] z) = z := fun h => by
              have h1 := hbd'.out h
              rw [hnn1'.out, List.take_length] at h1
              simpa using hencz.out h1.2 h1.1
            have hez' := hide hez
            clear hez
            obtain ⟨wL, rfl⟩ : ∃ x : World, x = wr := ⟨_, rfl⟩
            go_upto_region 20 with fail
            go_cut [115] (fun v wx => v = .bool false ∧ Kept [] w6 wx)
            case first =>
              have kL : Kept [] w6 wL.drew := hkq.drew
              cases bd
              · have hz1 := hide (hez'.out rfl)
                refine wp_region_any (by kernel_rfl) ?_
                try (change wpAny _ _ _ _ _ _ _ (World.drew _))
                refine wpAny_take (i := 0) (v := ?_) rfl (by kernel_rfl) (by kernel_rfl) (by kernel_rfl) (fun _ _ _ h => h) (Or.inl ⟨by rfl, ?_⟩) ?_
                rotate_left
                · (intro wq; go_simp; try with_reducible rfl)
                simp only [Act.put, List.getElem_toArray, List.getElem_cons_zero, List.setIfInBounds_toArray, List.set_cons_zero, List.set_cons_succ]
                refine wpAny_take (i := 3) (v := ?_) rfl (by kernel_rfl) (by kernel_rfl) (by kernel_rfl) (fun _ _ _ h => h) (Or.inl ⟨by rfl, ?_⟩) ?_
                rotate_left
                · (intro wq; go_simp; try with_reducible rfl)
                simp only [Act.put, List.getElem_toArray, List.getElem_cons_succ, List.getElem_cons_zero, List.setIfInBounds_toArray, List.set_cons_zero, List.set_cons_succ]
                refine wpAny_ready (rs := [1]) (by kernel_rfl) (by simp) ?_
                refine AllReady.cons rfl (fun K hK => ?_) AllReady.nil
                go_simp
                refine (HE.out wL.drew kL).mono ?_
                rintro e wE ⟨aE, nE, cE, rfl, oE, kE', tE⟩
                have kE : Kept [] w6 wE := kL.trans kE' (by simp)
                go_wp2_with fail
                first | (refine hK _ _ ?_; clear hK K) | skip
                try simp only [Act.put, List.getElem_toArray, List.getElem_cons_succ, List.getElem_cons_zero, List.setIfInBounds_toArray, List.set_cons_zero, List.set_cons_succ]
                refine wpAny_ready (rs := [2]) (by kernel_rfl) (by simp) ?_
                refine AllReady.cons rfl (fun K hK => ?_) AllReady.nil
                go_simp
                refine (HD.out wE aE nE cE oE.rd).mono ?_
                rintro e wD ⟨aD, nD, cD, rfl, oD, kD', tD⟩
                have kD : Kept [] w6 wD := kE.trans kD' (by simp)
                go_wp2_with fail
                first | (refine hK _ _ ?_; clear hK K) | skip
                try simp only [Act.put, List.getElem_toArray, List.getElem_cons_succ, List.getElem_cons_zero, List.setIfInBounds_toArray, List.set_cons_zero, List.set_cons_succ]
                refine wpAny_ready (rs := [4]) (by kernel_rfl) (by simp) ?_
                refine AllReady.cons rfl (fun K hK => ?_) AllReady.nil
                go_simp
                refine (HS.out wD aD nD cD oD.rd kD).mono ?_
                rintro e wS ⟨rfl, kS0⟩
                have kS : Kept [] w6 wS := kD.trans kS0 (by simp)
                have qZ1 := conv_bytes wS ab z.length c z (hRZ.out wS kS)
                go_wp2_with fail
                first | (refine hK _ _ ?_; clear hK K) | skip
                try simp only [Act.put, List.getElem_toArray, List.getElem_cons_succ, List.getElem_cons_zero, List.setIfInBounds_toArray, List.set_cons_zero, List.set_cons_succ]
                refine wpAny_take (i := 5) (v := ?_) rfl (by kernel_rfl) (by kernel_rfl) (by kernel_rfl) (fun _ _ _ h => h) (Or.inl ⟨by rfl, ?_⟩) ?_
                rotate_left
                · (intro wq; go_simp; try with_reducible rfl)
                simp only [Act.put, List.getElem_toArray, List.getElem_cons_succ, List.getElem_cons_zero, List.setIfInBounds_toArray, List.set_cons_zero, List.set_cons_succ]
                refine wpAny_take (i := 6) (v := ?_) rfl (by kernel_rfl) (by kernel_rfl) (by kernel_rfl) (fun _ _ _ h => h) (Or.inl ⟨by rfl, ?_⟩) ?_
                rotate_left
                · (intro wq; go_simp; try with_reducible rfl)
                simp only [Act.put, List.getElem_toArray, List.getElem_cons_succ, List.getElem_cons_zero, List.setIfInBounds_toArray, List.set_cons_zero, List.set_cons_succ]
                refine wpAny_take (i := 7) (v := ?_) rfl (by kernel_rfl) (by kernel_rfl) (by kernel_rfl) (fun _ _ _ h => h) (Or.inl ⟨by rfl, ?_⟩) ?_
                rotate_left
                · (intro wq; go_simp; try with_reducible rfl)
                simp only [Act.put, List.getElem_toArray, List.getElem_cons_succ, List.getElem_cons_zero, List.setIfInBounds_toArray, List.set_cons_zero, List.set_cons_succ]
                refine wpAny_take (i := 8) (v := ?_) rfl (by kernel_rfl) (by kernel_rfl) (by kernel_rfl) (fun _ _ _ h => h) (Or.inl ⟨by rfl, ?_⟩) ?_
                rotate_left
                · (intro wq; go_simp; try with_reducible rfl)
                simp only [Act.put, List.getElem_toArray, List.getElem_cons_succ, List.getElem_cons_zero, List.setIfInBounds_toArray, List.set_cons_zero, List.set_cons_succ]
                refine wpAny_take (i := 9) (v := ?_) rfl (by kernel_rfl) (by kernel_rfl) (by kernel_rfl) (fun _ _ _ h => h) (Or.inl ⟨by rfl, ?_⟩) ?_
                rotate_left
                · (intro wq; go_simp; try with_reducible rfl)
                simp only [Act.put, List.getElem_toArray, List.getElem_cons_succ, List.getElem_cons_zero, List.setIfInBounds_toArray, List.set_cons_zero, List.set_cons_succ]
                refine wpAny_take (i := 10) (v := ?_) rfl (by kernel_rfl) (by kernel_rfl) (by kernel_rfl) (fun _ _ _ h => h) (Or.inl ⟨by rfl, ?_⟩) ?_
                rotate_left
                · (intro wq; go_simp; try with_reducible rfl)
                simp only [Act.put, List.getElem_toArray, List.getElem_cons_succ, List.getElem_cons_zero, List.setIfInBounds_toArray, List.set_cons_zero, List.set_cons_succ]
                refine wpAny_take (i := 13) (v := ?_) rfl (by kernel_rfl) (by kernel_rfl) (by kernel_rfl) (fun _ _ _ h => h) (Or.inl ⟨by rfl, ?_⟩) ?_
                rotate_left
                · (intro wq; go_simp; try with_reducible rfl)
                simp only [Act.put, List.getElem_toArray, List.getElem_cons_succ, List.getElem_cons_zero, List.setIfInBounds_toArray, List.set_cons_zero, List.set_cons_succ]
                refine wpAny_ready (rs := [11, 14]) (by kernel_rfl) (by simp) ?_
                refine AllReady.cons rfl (fun K hK => ?_) (AllReady.cons rfl (fun K hK => ?_) AllReady.nil)
                · go_simp
                  refine (HE.out wS kS).mono ?_
                  rintro e wE2 ⟨aE2, nE2, cE2, rfl, oE2, kE2', tE2⟩
                  have kE2 : Kept [] w6 wE2 := kS.trans kE2' (by simp)
                  have qE2 := conv_bytes wE2 aE2 nE2 cE2 _ oE2.rd
                  rw [hz1.out] at qE2
                  have qZ2 := conv_bytes wE2 ab z.length c z (hRZ.out wE2 kE2)
                  go_wp2_with fail
                  first | (refine hK _ _ ?_; clear hK K) | skip
                  try simp only [Act.put, List.getElem_toArray, List.getElem_cons_succ, List.getElem_cons_zero, List.setIfInBounds_toArray, List.set_cons_zero, List.set_cons_succ]
                  refine wpAny_ready (rs := [12, 14]) (by kernel_rfl) (by simp) ?_
                  refine AllReady.cons rfl (fun K hK => ?_) (AllReady.cons rfl (fun K hK => ?_) AllReady.nil)
                  · go_simp
                    first | (refine hK _ _ ?_; clear hK K) | skip
                    try simp only [Act.put, List.getElem_toArray, List.getElem_cons_succ, List.getElem_cons_zero, List.setIfInBounds_toArray, List.set_cons_zero, List.set_cons_succ]
                    refine wpAny_ready (rs := [14]) (by kernel_rfl) (by simp) ?_
                    refine AllReady.cons rfl (fun K hK => ?_) AllReady.nil
                    go_simp
                    first | (refine hK _ _ ?_; clear hK K) | skip
                    try simp only [Act.put, List.getElem_toArray, List.getElem_cons_succ, List.getElem_cons_zero, List.setIfInBounds_toArray, List.set_cons_zero, List.set_cons_succ]
                    refine wpAny_take (i := 15) (v := ?_) rfl (by kernel_rfl) (by kernel_rfl) (by kernel_rfl) (fun _ _ _ h => h) (Or.inl ⟨by rfl, ?_⟩) ?_
                    rotate_left
                    · (intro wq; go_simp; try with_reducible rfl)
                    simp only [Act.put, List.getElem_toArray, List.getElem_cons_succ, List.getElem_cons_zero, List.setIfInBounds_toArray, List.set_cons_zero, List.set_cons_succ]
                    refine wpAny_take (i := 16) (v := ?_) rfl (by kernel_rfl) (by kernel_rfl) (by kernel_rfl) (fun _ _ _ h => h) (Or.inl ⟨by rfl, ?_⟩) ?_
                    rotate_left
                    · (intro wq; go_simp; try with_reducible rfl)
                    simp only [Act.put, List.getElem_toArray, List.getElem_cons_succ, List.getElem_cons_zero, List.setIfInBounds_toArray, List.set_cons_zero, List.set_cons_succ]
                    refine wpAny_take (i := 17) (v := ?_) rfl (by kernel_rfl) (by kernel_rfl) (by kernel_rfl) (fun _ _ _ h => h) (Or.inl ⟨by rfl, ?_⟩) ?_
                    rotate_left
                    · (intro wq; go_simp; try with_reducible rfl)
                    simp only [Act.put, List.getElem_toArray, List.getElem_cons_succ, List.getElem_cons_zero, List.setIfInBounds_toArray, List.set_cons_zero, List.set_cons_succ]
                    refine wpAny_done (by kernel_rfl) ?_ _
                    go_wp2_with fail
                    go_meet
                    exact ⟨rfl, kE2⟩
                  · go_simp
                    first | (refine hK _ _ ?_; clear hK K) | skip
                    try simp only [Act.put, List.getElem_toArray, List.getElem_cons_succ, List.getElem_cons_zero, List.setIfInBounds_toArray, List.set_cons_zero, List.set_cons_succ]
                    refine wpAny_ready (rs := [12]) (by kernel_rfl) (by simp) ?_
                    refine AllReady.cons rfl (fun K hK => ?_) AllReady.nil
                    go_simp
                    first | (refine hK _ _ ?_; clear hK K) | skip
                    try simp only [Act.put, List.getElem_toArray, List.getElem_cons_succ, List.getElem_cons_zero, List.setIfInBounds_toArray, List.set_cons_zero, List.set_cons_succ]
                    refine wpAny_take (i := 15) (v := ?_) rfl (by kernel_rfl) (by kernel_rfl) (by kernel_rfl) (fun _ _ _ h => h) (Or.inl ⟨by rfl, ?_⟩) ?_
                    rotate_left
                    · (intro wq; go_simp; try with_reducible rfl)
                    simp only [Act.put, List.getElem_toArray, List.getElem_cons_succ, List.getElem_cons_zero, List.setIfInBounds_toArray, List.set_cons_zero, List.set_cons_succ]
                    refine wpAny_take (i := 16) (v := ?_) rfl (by kernel_rfl) (by kernel_rfl) (by kernel_rfl) (fun _ _ _ h => h) (Or.inl ⟨by rfl, ?_⟩) ?_
                    rotate_left
                    · (intro wq; go_simp; try with_reducible rfl)
                    simp only [Act.put, List.getElem_toArray, List.getElem_cons_succ, List.getElem_cons_zero, List.setIfInBounds_toArray, List.set_cons_zero, List.set_cons_succ]
                    refine wpAny_take (i := 17) (v := ?_) rfl (by kernel_rfl) (by kernel_rfl) (by kernel_rfl) (fun _ _ _ h => h) (Or.inl ⟨by rfl, ?_⟩) ?_
                    rotate_left
                    · (intro wq; go_simp; try with_reducible rfl)
                    simp only [Act.put, List.getElem_toArray, List.getElem_cons_succ, List.getElem_cons_zero, List.setIfInBounds_toArray, List.set_cons_zero, List.set_cons_succ]
                    refine wpAny_done (by kernel_rfl) ?_ _
                    go_wp2_with fail
                    go_meet
                    exact ⟨rfl, kE2⟩
                · go_simp
                  first | (refine hK _ _ ?_; clear hK K) | skip
                  try simp only [Act.put, List.getElem_toArray, List.getElem_cons_succ, List.getElem_cons_zero, List.setIfInBounds_toArray, List.set_cons_zero, List.set_cons_succ]
                  refine wpAny_ready (rs := [11]) (by kernel_rfl) (by simp) ?_
                  refine AllReady.cons rfl (fun K hK => ?_) AllReady.nil
                  go_simp
                  refine (HE.out wS kS).mono ?_
                  rintro e wE2 ⟨aE2, nE2, cE2, rfl, oE2, kE2', tE2⟩
                  have kE2 : Kept [] w6 wE2 := kS.trans kE2' (by simp)
                  have qE2 := conv_bytes wE2 aE2 nE2 cE2 _ oE2.rd
                  rw [hz1.out] at qE2
                  have qZ2 := conv_bytes wE2 ab z.length c z (hRZ.out wE2 kE2)
                  go_wp2_with fail
                  first | (refine hK _ _ ?_; clear hK K) | skip
                  try simp only [Act.put, List.getElem_toArray, List.getElem_cons_succ, List.getElem_cons_zero, List.setIfInBounds_toArray, List.set_cons_zero, List.set_cons_succ]
                  refine wpAny_ready (rs := [12]) (by kernel_rfl) (by simp) ?_
                  refine AllReady.cons rfl (fun K hK => ?_) AllReady.nil
                  go_simp
                  first | (refine hK _ _ ?_; clear hK K) | skip
                  try simp only [Act.put, List.getElem_toArray, List.getElem_cons_succ, List.getElem_cons_zero, List.setIfInBounds_toArray, List.set_cons_zero, List.set_cons_succ]
                  refine wpAny_take (i := 15) (v := ?_) rfl (by kernel_rfl) (by kernel_rfl) (by kernel_rfl) (fun _ _ _ h => h) (Or.inl ⟨by rfl, ?_⟩) ?_
                  rotate_left
                  · (intro wq; go_simp; try with_reducible rfl)
                  simp only [Act.put, List.getElem_toArray, List.getElem_cons_succ, List.getElem_cons_zero, List.setIfInBounds_toArray, List.set_cons_zero, List.set_cons_succ]
                  refine wpAny_take (i := 16) (v := ?_) rfl (by kernel_rfl) (by kernel_rfl) (by kernel_rfl) (fun _ _ _ h => h) (Or.inl ⟨by rfl, ?_⟩) ?_
                  rotate_left
                  · (intro wq; go_simp; try with_reducible rfl)
                  simp only [Act.put, List.getElem_toArray, List.getElem_cons_succ, List.getElem_cons_zero, List.setIfInBounds_toArray, List.set_cons_zero, List.set_cons_succ]
                  refine wpAny_take (i := 17) (v := ?_) rfl (by kernel_rfl) (by kernel_rfl) (by kernel_rfl) (fun _ _ _ h => h) (Or.inl ⟨by rfl, ?_⟩) ?_
                  rotate_left
                  · (intro wq; go_simp; try with_reducible rfl)
                  simp only [Act.put, List.getElem_toArray, List.getElem_cons_succ, List.getElem_cons_zero, List.setIfInBounds_toArray, List.set_cons_zero, List.set_cons_succ]
                  refine wpAny_done (by kernel_rfl) ?_ _
                  go_wp2_with fail
                  go_meet
                  exact ⟨rfl, kE2⟩
              · refine wp_region_any (by kernel_rfl) ?_
                try (change wpAny _ _ _ _ _ _ _ (World.drew _))
                refine wpAny_take (i := 0) (v := ?_) rfl (by kernel_rfl) (by kernel_rfl) (by kernel_rfl) (fun _ _ _ h => h) (Or.inl ⟨by rfl, ?_⟩) ?_
                rotate_left
                · (intro wq; go_simp; try with_reducible rfl)
                simp only [Act.put, List.getElem_toArray, List.getElem_cons_zero, List.setIfInBounds_toArray, List.set_cons_zero, List.set_cons_succ]
                refine wpAny_take (i := 3) (v := ?_) rfl (by kernel_rfl) (by kernel_rfl) (by kernel_rfl) (fun _ _ _ h => h) (Or.inl ⟨by rfl, ?_⟩) ?_
                rotate_left
                · (intro wq; go_simp; try with_reducible rfl)
                simp only [Act.put, List.getElem_toArray, List.getElem_cons_succ, List.getElem_cons_zero, List.setIfInBounds_toArray, List.set_cons_zero, List.set_cons_succ]
                refine wpAny_ready (rs := [1]) (by kernel_rfl) (by simp) ?_
                refine AllReady.cons rfl (fun K hK => ?_) AllReady.nil
                go_simp
                refine (HE.out wL.drew kL).mono ?_
                rintro e wE ⟨aE, nE, cE, rfl, oE, kE', tE⟩
                have kE : Kept [] w6 wE := kL.trans kE' (by simp)
                go_wp2_with fail
                first | (refine hK _ _ ?_; clear hK K) | skip
                try simp only [Act.put, List.getElem_toArray, List.getElem_cons_succ, List.getElem_cons_zero, List.setIfInBounds_toArray, List.set_cons_zero, List.set_cons_succ]
                refine wpAny_ready (rs := [2]) (by kernel_rfl) (by simp) ?_
                refine AllReady.cons rfl (fun K hK => ?_) AllReady.nil
                go_simp
                refine (HD.out wE aE nE cE oE.rd).mono ?_
                rintro e wD ⟨aD, nD, cD, rfl, oD, kD', tD⟩
                have kD : Kept [] w6 wD := kE.trans kD' (by simp)
                go_wp2_with fail
                first | (refine hK _ _ ?_; clear hK K) | skip
                try simp only [Act.put, List.getElem_toArray, List.getElem_cons_succ, List.getElem_cons_zero, List.setIfInBounds_toArray, List.set_cons_zero, List.set_cons_succ]
                refine wpAny_ready (rs := [4]) (by kernel_rfl) (by simp) ?_
                refine AllReady.cons rfl (fun K hK => ?_) AllReady.nil
                go_simp
                refine (HS.out wD aD nD cD oD.rd kD).mono ?_
                rintro e wS ⟨rfl, kS0⟩
                have kS : Kept [] w6 wS := kD.trans kS0 (by simp)
                go_wp2_with fail
                first | (refine hK _ _ ?_; clear hK K) | skip
                try simp only [Act.put, List.getElem_toArray, List.getElem_cons_succ, List.getElem_cons_zero, List.setIfInBounds_toArray, List.set_cons_zero, List.set_cons_succ]
                refine wpAny_take (i := 5) (v := ?_) rfl (by kernel_rfl) (by kernel_rfl) (by kernel_rfl) (fun _ _ _ h => h) (Or.inl ⟨by rfl, ?_⟩) ?_
                rotate_left
                · (intro wq; go_simp; try with_reducible rfl)
                simp only [Act.put, List.getElem_toArray, List.getElem_cons_succ, List.getElem_cons_zero, List.setIfInBounds_toArray, List.set_cons_zero, List.set_cons_succ]
                refine wpAny_take (i := 6) (v := ?_) rfl (by kernel_rfl) (by kernel_rfl) (by kernel_rfl) (fun _ _ _ h => h) (Or.inl ⟨by rfl, ?_⟩) ?_
                rotate_left
                · (intro wq; go_simp; try with_reducible rfl)
                simp only [Act.put, List.getElem_toArray, List.getElem_cons_succ, List.getElem_cons_zero, List.setIfInBounds_toArray, List.set_cons_zero, List.set_cons_succ]
                refine wpAny_take (i := 7) (v := ?_) rfl (by kernel_rfl) (by kernel_rfl) (by kernel_rfl) (fun _ _ _ h => h) (Or.inl ⟨by rfl, ?_⟩) ?_
                rotate_left
                · (intro wq; go_simp; try with_reducible rfl)
                simp only [Act.put, List.getElem_toArray, List.getElem_cons_succ, List.getElem_cons_zero, List.setIfInBounds_toArray, List.set_cons_zero, List.set_cons_succ]
                refine wpAny_take (i := 8) (v := ?_) rfl (by kernel_rfl) (by kernel_rfl) (by kernel_rfl) (fun _ _ _ h => h) (Or.inl ⟨by rfl, ?_⟩) ?_
                rotate_left
                · (intro wq; go_simp; try with_reducible rfl)
                simp only [Act.put, List.getElem_toArray, List.getElem_cons_succ, List.getElem_cons_zero, List.setIfInBounds_toArray, List.set_cons_zero, List.set_cons_succ]
                refine wpAny_take (i := 9) (v := ?_) rfl (by kernel_rfl) (by kernel_rfl) (by kernel_rfl) (fun _ _ _ h => h) (Or.inl ⟨by rfl, ?_⟩) ?_
                rotate_left
                · (intro wq; go_simp; try with_reducible rfl)
                simp only [Act.put, List.getElem_toArray, List.getElem_cons_succ, List.getElem_cons_zero, List.setIfInBounds_toArray, List.set_cons_zero, List.set_cons_succ]
                refine wpAny_take (i := 10) (v := undef) rfl (by kernel_rfl) (by kernel_rfl) (by kernel_rfl) (fun _ _ _ h => h) (Or.inr ⟨by rfl, rfl⟩) ?_
                simp only [Act.put, List.getElem_toArray, List.getElem_cons_succ, List.getElem_cons_zero, List.setIfInBounds_toArray, List.set_cons_zero, List.set_cons_succ]
                refine wpAny_take (i := 11) (v := undef) rfl (by kernel_rfl) (by kernel_rfl) (by kernel_rfl) (fun _ _ _ h => h) (Or.inr ⟨by rfl, rfl⟩) ?_
                simp only [Act.put, List.getElem_toArray, List.getElem_cons_succ, List.getElem_cons_zero, List.setIfInBounds_toArray, List.set_cons_zero, List.set_cons_succ]
                refine wpAny_take (i := 12) (v := undef) rfl (by kernel_rfl) (by kernel_rfl) (by kernel_rfl) (fun _ _ _ h => h) (Or.inr ⟨by rfl, rfl⟩) ?_
                simp only [Act.put, List.getElem_toArray, List.getElem_cons_succ, List.getElem_cons_zero, List.setIfInBounds_toArray, List.set_cons_zero, List.set_cons_succ]
                refine wpAny_take (i := 13) (v := undef) rfl (by kernel_rfl) (by kernel_rfl) (by kernel_rfl) (fun _ _ _ h => h) (Or.inr ⟨by rfl, rfl⟩) ?_
                simp only [Act.put, List.getElem_toArray, List.getElem_cons_succ, List.getElem_cons_zero, List.setIfInBounds_toArray, List.set_cons_zero, List.set_cons_succ]
                refine wpAny_take (i := 14) (v := undef) rfl (by kernel_rfl) (by kernel_rfl) (by kernel_rfl) (fun _ _ _ h => h) (Or.inr ⟨by rfl, rfl⟩) ?_
                simp only [Act.put, List.getElem_toArray, List.getElem_cons_succ, List.getElem_cons_zero, List.setIfInBounds_toArray, List.set_cons_zero, List.set_cons_succ]
                refine wpAny_take (i := 15) (v := undef) rfl (by kernel_rfl) (by kernel_rfl) (by kernel_rfl) (fun _ _ _ h => h) (Or.inr ⟨by rfl, rfl⟩) ?_
                simp only [Act.put, List.getElem_toArray, List.getElem_cons_succ, List.getElem_cons_zero, List.setIfInBounds_toArray, List.set_cons_zero, List.set_cons_succ]
                refine wpAny_take (i := 16) (v := ?_) rfl (by kernel_rfl) (by kernel_rfl) (by kernel_rfl) (fun _ _ _ h => h) (Or.inl ⟨by rfl, ?_⟩) ?_
                rotate_left
                · (intro wq; go_simp; try with_reducible rfl)
                simp only [Act.put, List.getElem_toArray, List.getElem_cons_succ, List.getElem_cons_zero, List.setIfInBounds_toArray, List.set_cons_zero, List.set_cons_succ]
                refine wpAny_take (i := 17) (v := ?_) rfl (by kernel_rfl) (by kernel_rfl) (by kernel_rfl) (fun _ _ _ h => h) (Or.inl ⟨by rfl, ?_⟩) ?_
                rotate_left
                · (intro wq; go_simp; try with_reducible rfl)
                simp only [Act.put, List.getElem_toArray, List.getElem_cons_succ, List.getElem_cons_zero, List.setIfInBounds_toArray, List.set_cons_zero, List.set_cons_succ]
                refine wpAny_done (by kernel_rfl) ?_ _
                go_wp2_with fail
                go_meet
                exact ⟨rfl, kS⟩
            case rest =>
              obtain ⟨rfl, hkT⟩ := hcut
              obtain ⟨wT, rfl⟩ : ∃ x : World, x = wc := ⟨_, rfl⟩
              have hd1_T := hd1_6.kept hkT (by simp)
              have ho1_T := ho1_6.kept hkT (by simp)
              have KT : Kept [] wB wT := K6.trans hkT (by simp)
              have hep : (endR (feedP [] z)).length ≤ 1 := by unfold endR; split <;> simp
              have hdl := decI_len z
              have sT := hkT.size
              go_wp2_with fail
              refine (End_any wB.heap.size 0 (feedP [] z) wT hd1_T).mono ?_
              rintro e w8 ⟨⟨a8, n8, c8, rfl, ho8, hk8, hat8⟩, hd8, hw8⟩
              have hk8' : Kept [wB.heap.size] wT w8 := hk8
              have hn8 : n8 ≤ 1 := by have := ho8.len; rw [ints_len] at this; omega
              have ho1_8 := ho1_T.kept hk8' (fun g hg => by have := (g1 g hg).1; simp; omega)
              have K8 : Kept [] wB w8 := KT.trans hk8' (by simp)
              have s8 := hk8'.size
              go_wp2_with (at_builtin; refine wpList_app ?_ rfl elRune rfl rfl ho1_8 rfl ho8.rd (ints_one _ _) ?o2 ?o3; intro a9 c9 w9 ho9 hk9 hat9; rw [ints_append] at ho9)
              case o2 => have := hnn1'.out; omega
              case o3 => omega
              have K9 : Kept [] wB w9 := K8.trans hk9 (fun x hx => .inr (by have := (g1 x hx).1; omega))
              have ho9' : Own w9 w0.heap.size 21 a9 (k + n8) c9 1 (ints .i32 (decI z)) := ho9
              refine (Decode_any ab z.length c z w9 hz'.out (hrc.kept K9 (by simp)) (by omega)).mono ?_
              rintro e w10 ⟨a10, n10, c10, rfl, ho10, hk10, hat10⟩
              go_wp2_with fail
              refine (Same_self _ _ _ _ _ _ (decI z) w10 (ho9'.rd.kept hk10 (by simp)) ho10.rd (by omega)).mono ?_
              rintro e w11 ⟨rfl, hk11⟩
              go_wp2_with fail
              refine (known_any _).mono ?_
              rintro e w12 ⟨rfl, hk12⟩
              go_wp2_with fail
              go_ret
              exact ⟨rfl, (((hkc.trans K9 (by simp)).trans hk10 (by simp)).trans hk11 (by simp)).trans hk12 (by simp)⟩

theorem UtfHolds_walk (a : Option Addr) (n c : Nat) (z : List Int) (s t : Int) (w : World) (hr : Rd w a n 1 (ints .u8 z)) (hz : ∀ x ∈ z, 0 ≤ x ∧ x ≤ 255) (hnc : n ≤ c)
    (hs : 0 ≤ s ∧ s ≤ 255) (ht : 0 ≤ t ∧ t ≤ 255) : Calls Try.prog 8 #[.slice a n c, .int .u8 s, .int .u8 t] w (BoolKept true w) := by
  have hzl : n = z.length := by have := hr.1; rw [ints_len] at this; omega
  by_cases hn : n ≤ 150
  · subst hzl
    exact UtfHolds_small a c z s t w hr hz hn hnc hs ht
  · exact UtfHolds_big a n c _ _ w (by omega)
end Go.Proofs.Ytjcoeapopkkcbaa
