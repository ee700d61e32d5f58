/- The walk of LinePuts. -/
import Derived.Test.YtkhdnaopdhnkaaaDoorLinLaw2
namespace Go.Proofs.YtkhdnaopdhnkaaaDoor
open Go.RowKit
set_option linter.unusedVariables false
set_option maxRecDepth 100000

theorem putE_short (l : List Cl) (s : Bool) (at' : Int) (l2 : List Cl) (h : l.length ≤ 40) (h2 : l2.length ≤ 40) : (putE l s at' l2).1.1.length ≤ 1000 := by
  unfold putE
  split
  · simp
  · split
    · simp
    · simp only [putL, List.length_append, fixI_len', List.length_take, List.length_drop]; omega
theorem is_all (s : Bool) (L : List Cl) (x : Int) (a2 : Option Addr) (n2 c2 : Nat) (a3 : Option Addr) (n3 c3 : Nat) (w : World) (h2 : Rd w a2 n2 16 (cellsV L)) (h3 : Rd w a3 n3 16 (cellsV L)) (hn : n2 ≤ 1000000) :
    Calls Tryd.prog 18 #[.agg #[.slice a2 n2 c2, .bool s], .int .i64 x, .agg #[.slice a3 n3 c3, .bool s], .int .i64 x] w fun e w' => e = .returned (.bool true) ∧ Kept [] w w' := by
  have := is_any a2 n2 c2 s L x a3 n3 c3 s L x w h2 h3 hn
  rwa [show (decide (s = s ∧ L = L) && decide (x = x)) = true by simp] at this
theorem cells_same (L : List Cl) (a2 : Option Addr) (n2 c2 : Nat) (a3 : Option Addr) (n3 c3 : Nat) (w : World) (h2 : Rd w a2 n2 16 (cellsV L)) (h3 : Rd w a3 n3 16 (cellsV L)) (hn : n2 ≤ 1000) :
    Calls Tryd.prog 36 #[.slice a2 n2 c2, .slice a3 n3 c3] w fun e w' => e = .returned (.bool true) ∧ Kept [] w w' := by
  have := Same_any a2 n2 c2 L a3 n3 c3 L w h2 h3 hn
  rwa [show decide (L = L) = true by simp] at this

set_option maxHeartbeats 4000000 in
theorem LinePuts_walk (KN : Known6Is) (LP : LPutIs) (k : Int) (hA : -9223372036854775808 ≤ k) (hB : k ≤ 9223372036854775807) (a : Option Addr) (n c : Nat) (l : List Cl) (s : Bool) (a2 : Option Addr) (n2 c2 : Nat) (l2 : List Cl) (w : World) (ht : Tabs w) (hr : Rd w a n 16 (cellsV l)) (hnc : n ≤ c) (hcm : c ≤ maxLen) (hr2 : Rd w a2 n2 16 (cellsV l2)) :
    Calls Tryd.prog 6 #[.agg #[.slice a n c, .bool s], .int .i64 k, .slice a2 n2 c2] w fun e w' => e = .returned (.bool true) ∧ Kept [] w w' := by
  obtain ⟨W0, hW0⟩ : ∃ z : World, z = w.alloc (.cells #[.slice a n c, .bool s] 27) := ⟨_, rfl⟩
  have hk0 : Kept [] w W0 := by rw [hW0]; exact (Kept.refl [] w).alloc _
  have hb0 : Hid (LinIn W0 w.heap.size a n c s) := hide (by rw [hW0]; exact LinIn.new w a n c s)
  have hs0 : Hid (W0.heap.size = w.heap.size + 1) := hide (by rw [hW0]; simp)
  have hl := hr.clen
  have hl := hide hl
  have hl2 := hr2.clen
  have hl2 := hide hl2
  have hT := hide (fun w1 (hk : Kept [] W0 w1) => ht.kept (hk0.trans hk (by simp)))
  have hR := hide (fun w1 (hk : Kept [] W0 w1) => hr.kept (hk0.trans hk (by simp)) (by simp))
  have hR2 := hide (fun w1 (hk : Kept [] W0 w1) => hr2.kept (hk0.trans hk (by simp)) (by simp))
  have hK := hide (fun w1 hk => KN w1 (hT.out w1 hk))
  have hSm := hide (small_any a n c s W0)
  by_cases hn0 : n ≤ 40
  case neg =>
    rw [decide_eq_false hn0] at hSm
    clear KN LP ht hr hr2
    go_enter Tryd.func6, Tryd.ntmps6
    go_upto_region 1 with fail
    rw [← hW0]
    clear hW0
    obtain ⟨q0, q1⟩ := hb0.out.at
    go_wp2_with fail
    refine hSm.out.mono ?_
    rintro e w1 ⟨rfl, hk1⟩
    go_wp2_with fail
    refine (hK.out w1 hk1).mono ?_
    rintro e w2 ⟨rfl, hj2⟩
    go_wp2_with fail
    go_ret
    exact ⟨rfl, hk0.trans (hk1.trans hj2 (by simp)) (by simp)⟩
  rw [decide_eq_true hn0] at hSm
  by_cases hm0 : n2 ≤ 40
  case neg =>
    have hmi : (40 : Int) < (n2 : Int) := by omega
    clear KN LP ht hr hr2
    go_enter Tryd.func6, Tryd.ntmps6
    go_upto_region 1 with fail
    rw [← hW0]
    clear hW0
    obtain ⟨q0, q1⟩ := hb0.out.at
    go_wp2_with fail
    refine hSm.out.mono ?_
    rintro e w1 ⟨rfl, hk1⟩
    go_wp2_with fail
    refine (hK.out w1 hk1).mono ?_
    rintro e w2 ⟨rfl, hj2⟩
    go_wp2_with fail
    go_ret
    exact ⟨rfl, hk0.trans (hk1.trans hj2 (by simp)) (by simp)⟩
  have hmi : (n2 : Int) ≤ 40 := by omega
  have hCp := hide (fun w1 hk => rCopy_any a n c s l w1 (hR.out w1 hk) (by omega))
  have hPt := hide (fun w1 hk => rPut_any a n c s l k a2 n2 c2 l2 w1 (hR.out w1 hk) (by omega) hnc hcm (hR2.out w1 hk) (by omega))
  have hLp := hide (fun a5 c5 a7 c7 w1 hk hr5 h1 h2 hr7 => LP a5 n c5 l s k a7 n2 c7 l2 w1 (hT.out w1 hk) hr5 (by omega) h1 h2 hr7 (by omega) hA hB)
  have hsh := hide (putE_short l s k l2 (by have := hl.out; omega) (by have := hl2.out; omega))
  have hone := cellsV_one l2
  clear KN LP ht hr hr2
  generalize putE l s k l2 = E at *
  obtain ⟨⟨L, s'⟩, x⟩ := E
  go_enter Tryd.func6, Tryd.ntmps6
  go_upto_region 1 with fail
  rw [← hW0]
  clear hW0
  obtain ⟨q0, q1⟩ := hb0.out.at
  go_wp2_with fail
  refine hSm.out.mono ?_
  rintro e w1 ⟨rfl, hk1⟩
  obtain ⟨r0, r1⟩ := (hb0.out.kept hk1 (by simp)).at
  go_wp2_with fail
  refine (hCp.out w1 hk1).mono ?_
  rintro e w2 ⟨a5, n5, c5, rfl, ho5, h51, h52, hj2⟩
  obtain rfl : n = n5 := by have h1 := ho5.rd.clen; have h2 := hl.out; have h3 : l.length = n5 := h1; omega
  have hk2 := hk1.trans hj2 (by simp)
  have hs2 := hk2.size
  have hr22 := hide (hR2.out w2 hk2)
  clear q0 q1 r0 r1
  go_wp2_with (first | refine wpList_store_lin rfl rfl rfl w7.heap.size rfl (LinIn.new w7 none 0 0 false) a5 n c5 s rfl ?_; intro w8 hb8 hj8; have hj78 : Kept [] w7 w8 := ((Kept.refl [] w7).alloc (.cells #[.slice none 0 0, .bool false] 27)).trans hj8 (by simp); have hk8 := hk7.trans hj78 (by simp); obtain ⟨q0, q1⟩ := (hb0.out.kept hk8 (by simp)).at | at_builtin; refine wpList_app ?_ rfl elCell rfl rfl (Own.nil w2 W0.heap.size 60 16) rfl hr22.out hone ?o1 ?o2; intro a7 c7 w7 ho7 hj7 hat7; have hk7 := hk2.trans hj7 (by simp [blk]))
  case o1 => omega
  case o2 => exact hs2
  rw [Nat.zero_add, List.nil_append] at ho7
  have h71 := ho7.caps
  have ho58 := (ho5.kept hj7 (by simp [blk])).kept hj78 (by simp)
  have ho78 := ho7.kept hj78 (by simp)
  have hlt5 : ∀ g ∈ blk a5, g < w2.heap.size := fun g hg => (ho5.ge g hg).2
  have hlt7 : ∀ g ∈ blk a7, g < w7.heap.size := fun g hg => (ho7.ge g hg).2
  have hs27 := hj7.size
  have hs78 : w7.heap.size < w8.heap.size := hb8.lt
  try rw [Nat.zero_add]
  refine (hPt.out w8 hk8).mono ?_
  rintro e w9 ⟨a9, n9, c9, rfl, ho9, _, _, hj9⟩
  have hn9 : n9 ≤ 1000 := by have h1 := ho9.rd.clen; have h2 : L.length = n9 := h1; have h3 : L.length ≤ 1000 := hsh.out; omega
  have hk9 := hk8.trans hj9 (by simp)
  have hb9 := hb8.kept hj9 (by simp)
  have ho59 := ho58.kept hj9 (by simp)
  have ho79 := ho78.kept hj9 (by simp)
  have hs89 := hj9.size
  clear q0 q1
  go_wp2_with (refine wpList_store_lin rfl rfl rfl w9.heap.size rfl (LinIn.new w9 none 0 0 false) a9 n9 c9 s' rfl ?_; intro w10 hb10 hj10; have hj910 : Kept [] w9 w10 := ((Kept.refl [] w9).alloc (.cells #[.slice none 0 0, .bool false] 27)).trans hj10 (by simp); have hk10 := hk9.trans hj910 (by simp); obtain ⟨q0, q1⟩ := (hb9.kept hj910 (by simp)).at)
  have ho510 := ho59.kept hj910 (by simp)
  have ho710 := ho79.kept hj910 (by simp)
  have hr910 := (ho9.kept hj910 (by simp)).rd
  have hb710 := hb9.kept hj910 (by simp)
  have hs910 : w9.heap.size < w10.heap.size := hb10.lt
  refine (hLp.out a5 c5 a7 c7 w10 hk10 ho510.rd h51 h52 ho710.rd).mono ?_
  rintro e w11 ⟨a11, n11, c11, rfl, ho11, _, _, hj11⟩
  have hn11 : n11 ≤ 1000 := by have h1 := ho11.rd.clen; have h2 : L.length = n11 := h1; have h3 : L.length ≤ 1000 := hsh.out; omega
  have hk11 := hk10.trans hj11 (by simp)
  have hb911 := hb10.kept hj11 (by simp)
  have hs1011 := hj11.size
  clear q0 q1
  go_wp2_with (refine wpList_store_lin rfl rfl rfl w11.heap.size rfl (LinIn.new w11 none 0 0 false) a11 n11 c11 s' rfl ?_; intro w12 hb12 hj12; have hj112 : Kept [] w11 w12 := ((Kept.refl [] w11).alloc (.cells #[.slice none 0 0, .bool false] 27)).trans hj12 (by simp); have hk12 := hk11.trans hj112 (by simp); obtain ⟨q0, q1⟩ := (hb911.kept hj112 (by simp)).at; obtain ⟨r0, r1⟩ := hb12.at)
  have hj1012 := hj11.trans hj112 (by simp)
  have ho1112 := ho11.kept hj112 (by simp)
  have hge11 : ∀ g ∈ blk a11, w10.heap.size ≤ g := fun g hg => (ho11.ge g hg).1
  have hlt11 : ∀ g ∈ blk a11, g < w11.heap.size := fun g hg => (ho11.ge g hg).2
  refine (is_all s' L x a11 n11 c11 a9 n9 c9 w12 ho1112.rd (hr910.kept hj1012 (by simp)) (by omega)).mono ?_
  rintro e w13 ⟨rfl, hj13⟩
  have hk13 := hk12.trans hj13 (by simp)
  clear q0 q1 r0 r1
  obtain ⟨q0, q1⟩ := (hb12.kept hj13 (by simp)).at
  go_wp2_with fail
  refine (Stain_any a11 n11 c11 _ _ w13 (ho1112.kept hj13 (by simp)) (by omega)).mono ?_
  rintro e w14 ⟨rfl, hj14⟩
  have hj1014 := (hj1012.trans hj13 (by simp)).trans hj14 (fun x hx => .inr (hge11 x hx))
  have hk14 := hk10.trans hj1014 (by simp)
  have hb714 := hb710.kept hj1014 (by simp)
  clear q0 q1
  obtain ⟨q0, q1⟩ := hb714.at
  obtain ⟨r0, r1⟩ := (hb0.out.kept hk14 (by simp)).at
  go_wp2_with fail
  refine (same_same s l a5 n c5 a n c w14 (ho510.kept hj1014 (by simp)).rd (hR.out w14 hk14) (by omega)).mono ?_
  rintro e w15 ⟨rfl, hj15⟩
  have hk15 := hk14.trans hj15 (by simp)
  go_wp2_with fail
  refine (cells_same l2 a7 n2 c7 a2 n2 c2 w15 ((ho710.kept hj1014 (by simp)).kept hj15 (by simp)).rd (hR2.out w15 hk15) (by omega)).mono ?_
  rintro e w16 ⟨rfl, hj16⟩
  have hk16 := hk15.trans hj16 (by simp)
  go_wp2_with fail
  refine (hK.out w16 hk16).mono ?_
  rintro e w17 ⟨rfl, hj17⟩
  go_wp2_with fail
  go_ret
  exact ⟨rfl, hk0.trans (hk16.trans hj17 (by simp)) (by simp)⟩
end Go.Proofs.YtkhdnaopdhnkaaaDoor
