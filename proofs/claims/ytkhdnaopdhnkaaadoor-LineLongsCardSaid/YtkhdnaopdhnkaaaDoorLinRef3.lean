/- The reference's New, Fit. -/
import Derived.Test.YtkhdnaopdhnkaaaDoorLinRef2
import Derived.Test.YtkhdnaopdhnkaaaDoorCelRf
namespace Go.Proofs.YtkhdnaopdhnkaaaDoor
open Go.RowKit
set_option linter.unusedVariables false
set_option maxRecDepth 100000

theorem newL_next (i : Nat) : newL (i + 1) = newL i ++ [eC] := List.replicate_succ'

set_option maxHeartbeats 4000000 in
theorem rNew_any (N : Nat) (hN : N ≤ 2000) (w : World) : Calls Tryd.prog 12 #[.int .i64 (N : Int)] w (LinRet w (newL N) false) := by
  obtain ⟨W0, hW0⟩ : ∃ z : World, z = (w.alloc (.cells #[.slice none 0 0, .bool false] 27)).alloc (.cells #[.slice none 0 0, .bool false] 27) := ⟨_, rfl⟩
  have hk0 : Kept [] w W0 := by rw [hW0]; exact ((Kept.refl [] w).alloc _).alloc _
  have hz2 : Hid (LinIn W0 w.heap.size none 0 0 false) := hide (by rw [hW0]; exact (LinIn.new w none 0 0 false).kept ((Kept.refl [] _).alloc _) (by simp))
  have hz3 : Hid (LinIn W0 (w.heap.size + 1) none 0 0 false) := hide (by rw [hW0]; exact heap_new_at (by simp))
  have hs0 : W0.heap.size = w.heap.size + 1 + 1 := by rw [hW0]; simp
  go_enter Tryd.func12, Tryd.ntmps12
  go_upto_region 2 with fail
  rw [← hW0]
  clear hW0
  go_wp2_with fail
  go_loopg [4, 5, 6, 7, 8, 9, 10, 11, 12, 13, 14, 15] N (fun kx s4 s5 s6 s7 s8 s9 s10 s11 s12 s13 s14 s15 wr => ∃ (i : Nat) (a' : Option Addr) (c' : Nat), s4 = .int .i64 i ∧ i ≤ N ∧ N - i ≤ kx ∧ Hid (Own wr w.heap.size 60 a' i c' 16 (cellsV (newL i))) ∧ Hid (LinIn wr (w.heap.size + 1) a' i c' false) ∧ Hid (∀ g ∈ blk a', w.heap.size + 1 < g) ∧ Hid (Kept [w.heap.size + 1] W0 wr))
  case atStart => exact ⟨0, none, 0, rfl, Nat.zero_le _, by omega, hide (Own.nil _ _ _ _), hz3, hide (by intro g hg; cases hg), hide (Kept.refl _ _)⟩
  case round =>
    obtain ⟨i, a', c', rfl, hi, hg, ho, hb, hne, hkr⟩ := hrel
    by_cases hlt : i < N
    · have hin : (i : Int) < (N : Int) := by omega
      obtain ⟨q0, _⟩ := hb.out.at
      have hon := hide (ho.out.kept ((Kept.refl [] wr).alloc (.cells #[.int .i32 eC.r, .int .i32 eC.m0, .int .i32 eC.m1, .int .i32 eC.m2, .int .i64 eC.w, .int .i64 eC.p.f.k, .int .u8 eC.p.f.i, .int .u8 eC.p.f.r, .int .u8 eC.p.f.g, .int .u8 eC.p.f.b, .int .i64 eC.p.b.k, .int .u8 eC.p.b.i, .int .u8 eC.p.b.r, .int .u8 eC.p.b.g, .int .u8 eC.p.b.b, .int .u8 eC.p.fl] 60)) (by simp))
      have hrn := hide (CelIn.new wr eC).rd
      have hsz := (hk0.trans hkr.out (by simp)).size
      have hbl := hb.out.lt
      have hb1 := hide (hb.out.kept ((Kept.refl [] wr).alloc (.cells #[.int .i32 eC.r, .int .i32 eC.m0, .int .i32 eC.m1, .int .i32 eC.m2, .int .i64 eC.w, .int .i64 eC.p.f.k, .int .u8 eC.p.f.i, .int .u8 eC.p.f.r, .int .u8 eC.p.f.g, .int .u8 eC.p.f.b, .int .i64 eC.p.b.k, .int .u8 eC.p.b.i, .int .u8 eC.p.b.r, .int .u8 eC.p.b.g, .int .u8 eC.p.b.b, .int .u8 eC.p.fl] 60)) (by simp))
      go_wp2_with (at_builtin; refine wpList_app ?_ rfl elCell rfl rfl hon.out rfl hrn.out (cellsV_one _) ?o2 ?o3; intro a3 c3 w6 ho6 hk6 hat6; have hb6 := hb1.out.kept hk6 (fun hm => by have := hne.out _ hm; omega); obtain ⟨q0, _⟩ := hb6.at; obtain ⟨f0, _⟩ := hb6.froz)
      case o2 => omega
      case o3 => simp; omega
      have hne3 : ∀ g ∈ blk a3, w.heap.size + 1 < g := fun g hg => by
        rcases hat6 g hg with h | h
        · exact hne.out g h
        · have h2 : wr.heap.size + 1 ≤ g := by simpa using h
          omega
      go_roundg (N - (i + 1))
      case measure => omega
      case rel =>
        refine ⟨i + 1, a3, c3, by push_cast; rfl, by omega, Nat.le_refl _, hide ?_, hide (hb6.setCells a3 (i + 1) c3), hide hne3, hide ?_⟩
        · rw [newL_next, cellsV_app _ [eC]]
          exact Own.kept ho6 ((Kept.refl [w.heap.size + 1] w6).setCell (.inl (by simp)) _) (fun g hg hm => by have := hne3 g hg; simp at hm; omega)
        · exact (((hkr.out.alloc _).trans hk6 (fun x hx => .inr (by have h1 := hne.out x hx; omega))).setCell (.inl (by simp)) _)
    · obtain rfl : i = N := by omega
      obtain ⟨q0, q1⟩ := hb.out.at
      have z2 := hz2.out.kept hkr.out (by simp)
      go_wp2_with (refine wpList_store_lin rfl rfl rfl w.heap.size rfl z2 a' i c' false rfl ?_; intro w7 hb7 hk7)
      refine bodyPost_ret (results_lin rfl rfl hb7) rfl ?_
      have ho7 := ho.out.kept hk7 (fun g hg hm => by have := hne.out g hg; simp at hm; omega)
      exact ⟨a', i, c', rfl, ho7, ho7.caps.1, ho7.caps.2, (hk0.trans hkr.out (by simp)).trans hk7 (by simp)⟩

theorem newL_more (fx : List Cl) (k : Nat) : fx ++ List.replicate (k + 1) eC = (fx ++ List.replicate k eC) ++ [eC] := by rw [List.replicate_succ', List.append_assoc]

theorem fix_take (l : List Cl) (N : Nat) : l.take (min N l.length) = l.take N := by
  rcases Nat.le_total N l.length with h | h
  · rw [Nat.min_eq_left h]
  · rw [Nat.min_eq_right h, List.take_length, List.take_of_length_le h]

set_option maxHeartbeats 4000000 in
theorem rFit_any (a : Option Addr) (n c : Nat) (s : Bool) (l : List Cl) (N : Nat) (hN : N ≤ 2000) (w : World) (hr : Rd w a n 16 (cellsV l)) (hn : n ≤ 1000) (hnc : n ≤ c) (hcm : c ≤ maxLen) :
    Calls Tryd.prog 33 #[.agg #[.slice a n c, .bool s], .int .i64 (N : Int)] w (LinRet w (fitL l N) s) := by
  obtain ⟨W0, hW0⟩ : ∃ z : World, z = (w.alloc (.cells #[.slice a n c, .bool s] 27)).alloc (.cells #[.slice none 0 0, .bool false] 27) := ⟨_, rfl⟩
  have hk0 : Kept [] w W0 := by rw [hW0]; exact ((Kept.refl [] w).alloc _).alloc _
  have hb0 : Hid (LinIn W0 w.heap.size a n c s) := hide (by rw [hW0]; exact (LinIn.new w a n c s).kept ((Kept.refl [] _).alloc _) (by simp))
  have hz2 : Hid (LinIn W0 (w.heap.size + 1) none 0 0 false) := hide (by rw [hW0]; exact heap_new_at (by simp))
  have hH := hide (hr.kept hk0 (by simp))
  have hs0 : W0.heap.size = w.heap.size + 1 + 1 := by rw [hW0]; simp
  have hl := hr.clen
  replace hs0 := hide hs0
  obtain ⟨m, hm⟩ : ∃ m, m = min N n := ⟨_, rfl⟩
  have hmn : m ≤ n := by omega
  have hmN : m ≤ N := by omega
  have hF := hide (fun w1 (hk : Kept [] W0 w1) => rFix_any a m c (l.take m) w1 ((hH.out.kept hk (by simp)).takeC hmn) (by omega))
  have hT : Hid (fitL l N = fixI (l.take m) ++ List.replicate (N - m) eC) := hide (by
    unfold fitL
    rw [hm, ← hl, fix_take, hl]
    congr 2
    omega)
  have hfl : (fixI (l.take m)).length = m := by rw [fixI_len', List.length_take]; omega
  have hfl := hide hfl
  generalize fitL l N = T at *
  generalize fixI (l.take m) = fx at *
  have hmin : min (N : Int) (n : Int) = (m : Int) := by omega
  clear hr hm
  go_enter Tryd.func33, Tryd.ntmps33
  go_upto_region 1 with fail
  rw [← hW0]
  clear hW0
  obtain ⟨q0, q1⟩ := hb0.out.at
  go_upto_region 2 with fail
  have hk1 : Kept [] W0 (W0.alloc (.cells #[.slice none 0 0, .bool s] 27)) := (Kept.refl [] W0).alloc _
  have hb5 : Hid (LinIn (W0.alloc (.cells #[.slice none 0 0, .bool s] 27)) W0.heap.size none 0 0 s) := hide (LinIn.new W0 none 0 0 s)
  have hs1 : Hid ((W0.alloc (.cells #[.slice none 0 0, .bool s] 27)).heap.size = W0.heap.size + 1) := hide (by simp)
  clear q0 q1
  generalize W0.alloc (.cells #[.slice none 0 0, .bool s] 27) = W1 at *
  obtain ⟨q0, q1⟩ := (hb0.out.kept hk1 (by simp)).at
  go_wp2_with fail
  refine (hF.out W1 hk1).mono ?_
  rintro e w2 ⟨a3, c3, rfl, ho3, hj2⟩
  have hne3 := hide (fun g hg => by have := (ho3.ge g hg).1; have := hs1.out; omega : ∀ g ∈ blk a3, W0.heap.size < g)
  have ho3 := hide (ho3.base (hk0.trans hk1 (by simp)).size)
  have hb52 := hb5.out.kept hj2 (by simp)
  obtain ⟨p0, p1⟩ := hb52.at
  obtain ⟨f0, _⟩ := hb52.froz
  have hk2 := hk1.trans hj2 (by simp)
  clear q0 q1 hF
  go_wp2_with fail
  have hb6 := hide (hb52.setCells a3 m c3)
  have hk6 : Kept [W0.heap.size] W1 (w2.setCell ⟨W0.heap.size, 0, none⟩ (.slice a3 m c3)) := ((Kept.refl [W0.heap.size] W1).trans hj2 (by simp)).setCell (.inl (by simp)) _
  have hk26 : Kept [W0.heap.size] w2 (w2.setCell ⟨W0.heap.size, 0, none⟩ (.slice a3 m c3)) := (Kept.refl [W0.heap.size] w2).setCell (.inl (by simp)) _
  have ho6 := hide (Own.kept ho3.out hk26 (fun g hg hm => by have := hne3.out g hg; simp at hm; omega))
  have hz6 := hide (hz2.out.kept hk1 (by simp))
  have hk06 := hk0.trans hk1 (by simp)
  have hk6 := hide hk6
  clear p0 p1 f0 hb52 hk2 ho3 hb5 hz2 hj2 hk26
  generalize w2.setCell ⟨W0.heap.size, 0, none⟩ (.slice a3 m c3) = W2 at *
  go_loopg [19, 20, 21, 22, 23, 24, 25, 26, 27, 28, 29] N (fun kx s19 s20 s21 s22 s23 s24 s25 s26 s27 s28 s29 wr => ∃ (i : Nat) (a' : Option Addr) (c' : Nat), m ≤ i ∧ i ≤ N ∧ N - i ≤ kx ∧ Hid (Own wr w.heap.size 60 a' i c' 16 (cellsV (fx ++ List.replicate (i - m) eC))) ∧ Hid (LinIn wr W0.heap.size a' i c' s) ∧ Hid (∀ g ∈ blk a', W0.heap.size < g) ∧ Hid (Kept [W0.heap.size] W1 wr))
  case atStart => exact ⟨m, a3, c3, Nat.le_refl _, hmN, by omega, by rw [Nat.sub_self]; simpa using ho6, hb6, hne3, hk6⟩
  case round =>
    obtain ⟨i, a', c', hmi, hi, hg, ho, hb, hne, hkr⟩ := hrel
    obtain ⟨q0, q1⟩ := hb.out.at
    by_cases hlt : i < N
    · have hin : (i : Int) < (N : Int) := by omega
      have hon := hide (ho.out.kept ((Kept.refl [] wr).alloc (.cells #[.int .i32 eC.r, .int .i32 eC.m0, .int .i32 eC.m1, .int .i32 eC.m2, .int .i64 eC.w, .int .i64 eC.p.f.k, .int .u8 eC.p.f.i, .int .u8 eC.p.f.r, .int .u8 eC.p.f.g, .int .u8 eC.p.f.b, .int .i64 eC.p.b.k, .int .u8 eC.p.b.i, .int .u8 eC.p.b.r, .int .u8 eC.p.b.g, .int .u8 eC.p.b.b, .int .u8 eC.p.fl] 60)) (by simp))
      have hrn := hide (CelIn.new wr eC).rd
      have hsz := (hk06.trans hkr.out (by simp; exact hk0.size)).size
      have hbl := hb.out.lt
      have hb1 := hide (hb.out.kept ((Kept.refl [] wr).alloc (.cells #[.int .i32 eC.r, .int .i32 eC.m0, .int .i32 eC.m1, .int .i32 eC.m2, .int .i64 eC.w, .int .i64 eC.p.f.k, .int .u8 eC.p.f.i, .int .u8 eC.p.f.r, .int .u8 eC.p.f.g, .int .u8 eC.p.f.b, .int .i64 eC.p.b.k, .int .u8 eC.p.b.i, .int .u8 eC.p.b.r, .int .u8 eC.p.b.g, .int .u8 eC.p.b.b, .int .u8 eC.p.fl] 60)) (by simp))
      go_wp2_with (at_builtin; refine wpList_app ?_ rfl elCell rfl rfl hon.out rfl hrn.out (cellsV_one _) ?o2 ?o3; intro a4 c4 w6 ho6 hk6 hat6; have hb6 := hb1.out.kept hk6 (fun hm => by have := hne.out _ hm; omega); obtain ⟨q0, _⟩ := hb6.at; obtain ⟨f0, _⟩ := hb6.froz)
      case o2 => omega
      case o3 => simp; omega
      have hne4 : ∀ g ∈ blk a4, W0.heap.size < g := fun g hg => by
        rcases hat6 g hg with h | h
        · exact hne.out g h
        · have h2 : wr.heap.size + 1 ≤ g := by simpa using h
          omega
      go_roundg (N - (i + 1))
      case measure => omega
      case rel =>
        refine ⟨i + 1, a4, c4, by omega, by omega, Nat.le_refl _, hide ?_, hide (hb6.setCells a4 (i + 1) c4), hide hne4, hide ?_⟩
        · rw [show i + 1 - m = i - m + 1 by omega, newL_more, cellsV_app _ [eC]]
          exact Own.kept ho6 ((Kept.refl [W0.heap.size] w6).setCell (.inl (by simp)) _) (fun g hg hm => by have := hne4 g hg; simp at hm; omega)
        · exact (((hkr.out.alloc _).trans hk6 (fun x hx => .inr (by have h1 := hne.out x hx; have := hs1.out; omega))).setCell (.inl (by simp)) _)
    · obtain rfl : i = N := by omega
      have z2 := hz6.out.kept hkr.out (by simp [hs0.out])
      go_wp2_with (refine wpList_store_lin rfl rfl rfl (w.heap.size + 1) rfl z2 a' i c' s rfl ?_; intro w7 hb7 hk7)
      refine bodyPost_ret (results_lin rfl rfl hb7) rfl ?_
      have ho7 := ho.out.kept hk7 (fun g hg hm => by have := hne.out g hg; have := hs0.out; simp at hm; omega)
      exact ⟨a', i, c', rfl, by rw [hT.out]; exact ho7, ho7.caps.1, ho7.caps.2, (hk06.trans hkr.out (by simp; exact hk0.size)).trans hk7 (by simp)⟩
end Go.Proofs.YtkhdnaopdhnkaaaDoor
