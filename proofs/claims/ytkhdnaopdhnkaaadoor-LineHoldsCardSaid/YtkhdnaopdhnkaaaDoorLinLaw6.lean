/- The walk of LineHolds. -/
import Derived.Test.YtkhdnaopdhnkaaaDoorLinFn4
namespace Go.Proofs.YtkhdnaopdhnkaaaDoor
open Go.RowKit
set_option linter.unusedVariables false
set_option maxRecDepth 100000

theorem valid_of {l : List Cl} (h : l.length ≤ 1000) (hr : rowI l = true) : validL l = true := by unfold validL; rw [decide_eq_true h, hr]; rfl
theorem valid_row {l : List Cl} (h : validL l = true) : rowI l = true := by unfold validL at h; simp at h; exact h.2
theorem valid_trim {l : List Cl} (h : validL l = true) : validL (trimL l) = true := by
  have hl : l.length ≤ 1000 := by unfold validL at h; simp at h; exact h.1
  exact valid_of (by rw [trim_len]; have := used_le l; omega) (row_trim (valid_row h))
theorem fitE_all {l : List Cl} {s : Bool} (h : validL l = true) : fitE l s (l.length : Int) = ((l, s), 0) := by
  have hl : l.length ≤ 1000 := by unfold validL at h; simp at h; exact h.1
  rw [fitE_ok h hl, fit_same (valid_row h)]
theorem fitE_more {l : List Cl} {s : Bool} (h : validL l = true) (m : Nat) (hm : l.length + m ≤ 1000) : fitE l s ((l.length : Int) + (m : Int)) = ((l ++ List.replicate m eC, s), 0) := by
  rw [show (l.length : Int) + (m : Int) = ((l.length + m : Nat) : Int) by push_cast; rfl, fitE_ok h hm, fit_more (valid_row h)]
theorem cell2 {w : World} {b : Nat} {a : Option Addr} {n c : Nat} {s : Bool} (h : LinIn w b a n c s) : w.cell? ⟨b, 0, none⟩ = some (.slice a n c) ∧ w.cell? ⟨b, 1, none⟩ = some (.bool s) := h.at
/-- What Put returns, as LineHolds goes on with it. -/
theorem putE_ways {l l2 : List Cl} {s : Bool} {at' : Int} (hv : validL l = true) : (∃ x : Int, x ≠ 0 ∧ putE l s at' l2 = (([], false), x)) ∨ (∃ at0 : Nat, at' = at0 ∧ at0 + l2.length ≤ l.length ∧ rowI l2 = true ∧ putE l s at' l2 = ((putL l at0 l2, s), 0)) := by
  unfold putE
  cases h2 : rowI l2 with
  | false => exact .inl ⟨2, by decide, by simp⟩
  | true =>
    rw [if_neg (by simp [hv])]
    by_cases h3 : at' < 0 ∨ (l.length : Int) < at' + l2.length
    · exact .inl ⟨3, by decide, by rw [if_pos h3]⟩
    · rw [if_neg h3]
      refine .inr ⟨at'.toNat, by omega, by omega, rfl, rfl⟩
theorem there_cut {l l2 : List Cl} {at0 : Nat} (h : at0 + l2.length ≤ l.length) : ((putL l at0 l2).take (at0 + l2.length)).drop at0 = l2 := by
  have := put_there (l := l) (c := l2) (at' := at0) (by omega)
  rw [List.drop_take, Nat.add_sub_cancel_left]
  exact this


set_option maxHeartbeats 4000000 in
theorem LineHolds_wide (KN : Known6Is) (a : Option Addr) (n c : Nat) (l : List Cl) (s : Bool) (at' : Int) (a2 : Option Addr) (n2 c2 : Nat) (l2 : List Cl) (m : Nat) (w : World) (ht : Tabs w) (hn : ¬ n ≤ 40) :
    Calls Tryd.prog 8 #[.agg #[.slice a n c, .bool s], .int .i64 at', .slice a2 n2 c2, .int .u8 (m : Int)] w fun e w' => e = .returned (.bool true) ∧ Kept [] w w' := by
  obtain ⟨W0, hW0⟩ : ∃ z : World, z = w.alloc (.cells #[.slice a n c, .bool s] 27) := ⟨_, rfl⟩
  have hk0 : Kept [] w W0 := by rw [hW0]; exact (Kept.refl [] w).alloc _
  have hbL := hide (show LinIn W0 w.heap.size a n c s by rw [hW0]; exact LinIn.new w a n c s)
  have hK := hide (fun w1 (hk : Kept [] w w1) => KN w1 (ht.kept hk))
  have hSm := hide (fun w1 => small_any a n c s w1)
  rw [decide_eq_false hn] at hSm
  clear KN ht
  go_enter Tryd.func8, Tryd.ntmps8
  go_upto_region 1 with fail
  rw [← hW0]
  clear hW0
  obtain ⟨q0, q1⟩ := hbL.out.at
  go_wp2_with fail
  refine (hSm.out _).mono ?_
  rintro e w1 ⟨rfl, hk1⟩
  have hk2 := hk0.trans hk1 (by simp)
  go_wp2_with fail
  refine (hK.out w1 hk2).mono ?_
  rintro e w3 ⟨rfl, hj3⟩
  go_wp2_with fail
  go_ret
  exact ⟨rfl, hk2.trans hj3 (by simp)⟩


set_option maxHeartbeats 4000000 in
theorem LineHolds_wide2 (KN : Known6Is) (a : Option Addr) (n c : Nat) (l : List Cl) (s : Bool) (at' : Int) (a2 : Option Addr) (n2 c2 : Nat) (l2 : List Cl) (m : Nat) (w : World) (ht : Tabs w) (hn : n ≤ 40) (hn2 : ¬ n2 ≤ 40) :
    Calls Tryd.prog 8 #[.agg #[.slice a n c, .bool s], .int .i64 at', .slice a2 n2 c2, .int .u8 (m : Int)] w fun e w' => e = .returned (.bool true) ∧ Kept [] w w' := by
  obtain ⟨W0, hW0⟩ : ∃ z : World, z = w.alloc (.cells #[.slice a n c, .bool s] 27) := ⟨_, rfl⟩
  have hk0 : Kept [] w W0 := by rw [hW0]; exact (Kept.refl [] w).alloc _
  have hbL := hide (show LinIn W0 w.heap.size a n c s by rw [hW0]; exact LinIn.new w a n c s)
  have hK := hide (fun w1 (hk : Kept [] w w1) => KN w1 (ht.kept hk))
  have hSm := hide (fun w1 => small_any a n c s w1)
  rw [decide_eq_true hn] at hSm
  have hn2i : (40 : Int) < (n2 : Int) := by omega
  clear KN ht
  go_enter Tryd.func8, Tryd.ntmps8
  go_upto_region 1 with fail
  rw [← hW0]
  clear hW0
  obtain ⟨q0, q1⟩ := hbL.out.at
  go_wp2_with fail
  refine (hSm.out _).mono ?_
  rintro e w1 ⟨rfl, hk1⟩
  have hk2 := hk0.trans hk1 (by simp)
  go_wp2_with fail
  refine (hK.out w1 hk2).mono ?_
  rintro e w3 ⟨rfl, hj3⟩
  go_wp2_with fail
  go_ret
  exact ⟨rfl, hk2.trans hj3 (by simp)⟩


set_option maxHeartbeats 4000000 in
theorem LineHolds_wide3 (KN : Known6Is) (a : Option Addr) (n c : Nat) (l : List Cl) (s : Bool) (at' : Int) (a2 : Option Addr) (n2 c2 : Nat) (l2 : List Cl) (m : Nat) (w : World) (ht : Tabs w) (hn : n ≤ 40) (hn2 : n2 ≤ 40) (hm : 100 < m) :
    Calls Tryd.prog 8 #[.agg #[.slice a n c, .bool s], .int .i64 at', .slice a2 n2 c2, .int .u8 (m : Int)] w fun e w' => e = .returned (.bool true) ∧ Kept [] w w' := by
  obtain ⟨W0, hW0⟩ : ∃ z : World, z = w.alloc (.cells #[.slice a n c, .bool s] 27) := ⟨_, rfl⟩
  have hk0 : Kept [] w W0 := by rw [hW0]; exact (Kept.refl [] w).alloc _
  have hbL := hide (show LinIn W0 w.heap.size a n c s by rw [hW0]; exact LinIn.new w a n c s)
  have hK := hide (fun w1 (hk : Kept [] w w1) => KN w1 (ht.kept hk))
  have hSm := hide (fun w1 => small_any a n c s w1)
  rw [decide_eq_true hn] at hSm
  have hn2i : (n2 : Int) ≤ (40 : Int) := by omega
  have hmi : (100 : Int) < (m : Int) := by omega
  clear KN ht
  go_enter Tryd.func8, Tryd.ntmps8
  go_upto_region 1 with fail
  rw [← hW0]
  clear hW0
  obtain ⟨q0, q1⟩ := hbL.out.at
  go_wp2_with fail
  refine (hSm.out _).mono ?_
  rintro e w1 ⟨rfl, hk1⟩
  have hk2 := hk0.trans hk1 (by simp)
  go_wp2_with fail
  refine (hK.out w1 hk2).mono ?_
  rintro e w3 ⟨rfl, hj3⟩
  go_wp2_with fail
  go_ret
  exact ⟨rfl, hk2.trans hj3 (by simp)⟩


set_option maxHeartbeats 4000000 in
theorem LineHolds_bad (KN : Known6Is) (a : Option Addr) (n c : Nat) (l : List Cl) (s : Bool) (at' : Int) (a2 : Option Addr) (n2 c2 : Nat) (l2 : List Cl) (m : Nat) (w : World) (ht : Tabs w) (hr : Rd w a n 16 (cellsV l)) (hn : n ≤ 40) (hn2 : n2 ≤ 40) (hm : m ≤ 100) (hv : validL l = false) :
    Calls Tryd.prog 8 #[.agg #[.slice a n c, .bool s], .int .i64 at', .slice a2 n2 c2, .int .u8 (m : Int)] w fun e w' => e = .returned (.bool true) ∧ Kept [] w w' := by
  obtain ⟨W0, hW0⟩ : ∃ z : World, z = w.alloc (.cells #[.slice a n c, .bool s] 27) := ⟨_, rfl⟩
  have hk0 : Kept [] w W0 := by rw [hW0]; exact (Kept.refl [] w).alloc _
  have hbL := hide (show LinIn W0 w.heap.size a n c s by rw [hW0]; exact LinIn.new w a n c s)
  have hK := hide (fun w1 (hk : Kept [] w w1) => KN w1 (ht.kept hk))
  have hSm := hide (fun w1 => small_any a n c s w1)
  rw [decide_eq_true hn] at hSm
  have hV := hide (fun w1 (hk : Kept [] W0 w1) => Valid6_any a n c l s w1 (ht.kept (hk0.trans hk (by simp))) (hr.kept (hk0.trans hk (by simp)) (by simp)) (by omega))
  rw [hv] at hV
  have hn2i : (n2 : Int) ≤ (40 : Int) := by omega
  have hmi : (m : Int) ≤ (100 : Int) := by omega
  clear KN ht hr hv
  go_enter Tryd.func8, Tryd.ntmps8
  go_upto_region 1 with fail
  rw [← hW0]
  clear hW0
  obtain ⟨q0, q1⟩ := hbL.out.at
  go_wp2_with fail
  refine (hSm.out _).mono ?_
  rintro e w1 ⟨rfl, hk1⟩
  clear q0 q1
  obtain ⟨q0, q1⟩ := (hbL.out.kept hk1 (by simp)).at
  go_wp2_with fail
  refine (hV.out w1 hk1).mono ?_
  rintro e w2 ⟨rfl, hj2⟩
  have hk2 := hk0.trans (hk1.trans hj2 (by simp)) (by simp)
  go_wp2_with fail
  refine (hK.out w2 hk2).mono ?_
  rintro e w3 ⟨rfl, hj3⟩
  go_wp2_with fail
  go_ret
  exact ⟨rfl, hk2.trans hj3 (by simp)⟩


set_option maxHeartbeats 40000000 in
theorem LineHolds_main (KN : Known6Is) (a : Option Addr) (n c : Nat) (l : List Cl) (s : Bool) (at' : Int) (a2 : Option Addr) (n2 c2 : Nat) (l2 : List Cl) (m : Nat) (w : World) (ht : Tabs w) (hr : Rd w a n 16 (cellsV l)) (hn : n ≤ 40) (hnc : n ≤ c) (hcm : c ≤ maxLen) (hr2 : Rd w a2 n2 16 (cellsV l2)) (hn2 : n2 ≤ 40) (hm : m ≤ 100) (hA : -9223372036854775808 ≤ at') (hB : at' ≤ 9223372036854775807) (hv : validL l = true) :
    Calls Tryd.prog 8 #[.agg #[.slice a n c, .bool s], .int .i64 at', .slice a2 n2 c2, .int .u8 (m : Int)] w fun e w' => e = .returned (.bool true) ∧ Kept [] w w' := by
  obtain ⟨W0, hW0⟩ : ∃ z : World, z = w.alloc (.cells #[.slice a n c, .bool s] 27) := ⟨_, rfl⟩
  have hk0 : Kept [] w W0 := by rw [hW0]; exact (Kept.refl [] w).alloc _
  have hbL := hide (show LinIn W0 w.heap.size a n c s by rw [hW0]; exact LinIn.new w a n c s)
  have hK := hide (fun w1 (hk : Kept [] w w1) => KN w1 (ht.kept hk))
  have hSm := hide (fun w1 => small_any a n c s w1)
  rw [decide_eq_true hn] at hSm
  have ht0 := hide ht
  have hrl := hide (hr.kept hk0 (by simp))
  have hrm := hide (hr2.kept hk0 (by simp))
  have hl := hide hr.clen
  have hl2 := hide hr2.clen
  have hn2i : (n2 : Int) ≤ (40 : Int) := by omega
  have hmi : (m : Int) ≤ (100 : Int) := by omega
  have hwm : IntKind.i64.wrap (m : Int) = (m : Int) := by rw [IntKind.wrap_i64]; omega
  have hwnm : IntKind.i64.wrap ((n : Int) + (m : Int)) = (n : Int) + (m : Int) := by rw [IntKind.wrap_i64]; omega
  have hVl := hide hv
  have hVt := hide (valid_trim hv)
  have hfa := hide (show fitE l s (n : Int) = ((l, s), 0) by rw [← hr.clen]; exact fitE_all hv)
  have hfm := hide (show fitE l s ((n : Int) + (m : Int)) = ((l ++ List.replicate m eC, s), 0) by rw [← hr.clen]; exact fitE_more hv m (by rw [hr.clen]; omega))
  have hVm := hide (show validL (l ++ List.replicate m eC) = true from valid_of (by rw [List.length_append, List.length_replicate, hr.clen]; omega) (row_more (valid_row hv) m))
  have hst := str6_neq (textsB (trimL l))
  have hew := hide (putE_ways (l := l) (l2 := l2) (s := s) (at' := at') hv)
  have hss : (s == s) = true := by simp
  clear KN ht hr hr2 hv
  go_enter Tryd.func8, Tryd.ntmps8
  go_upto_region 1 with fail
  rw [← hW0]
  clear hW0
  obtain ⟨qL0, qL1⟩ := hbL.out.at
  go_wp2_with fail
  refine (hSm.out _).mono ?_
  rintro e w1 ⟨rfl, hj1⟩
  clear qL0 qL1
  clear hSm
  have hbL1 := hide (hbL.out.kept hj1 (by simp))
  have hrl1 := hide (hrl.out.kept hj1 (by simp))
  have hrm1 := hide (hrm.out.kept hj1 (by simp))
  have hw1 := hk0.trans hj1 (by simp)
  clear hbL hrl hrm
  obtain ⟨qL0, qL1⟩ := hbL1.out.at
  go_wp2_with fail
  refine (Valid6_any a n c l s w1 (ht0.out.kept hw1) hrl1.out (by omega)).mono ?_
  rintro e w2 ⟨rfl, hj2⟩
  rw [hVl.out]
  clear qL0 qL1
  have hbL2 := hide (hbL1.out.kept hj2 (by simp))
  have hrl2 := hide (hrl1.out.kept hj2 (by simp))
  have hrm2 := hide (hrm1.out.kept hj2 (by simp))
  have hw2 := hw1.trans hj2 (by simp)
  clear hbL1 hrl1 hrm1 hw1
  obtain ⟨qL0, qL1⟩ := hbL2.out.at
  go_wp2_with fail
  have hC3 := Trim6_any a n c l s w2 (ht0.out.kept hw2) hrl2.out (by omega) hnc hcm
  rw [trimE_ok hVl.out] at hC3
  refine hC3.mono ?_
  rintro e u3 ⟨a3, n3, c3, rfl, ho3, hc3, hd3, hj3⟩
  clear hC3
  clear qL0 qL1
  have hbL3 := hide (hbL2.out.kept hj3 (by simp))
  have hrl3 := hide (hrl2.out.kept hj3 (by simp))
  have hrm3 := hide (hrm2.out.kept hj3 (by simp))
  have hw3 := hw2.trans hj3 (by simp)
  clear hbL2 hrl2 hrm2 hw2
  have hrx := hide ho3.rd
  have hlx := hide (show (trimL l).length = n3 from ho3.rd.clen)
  have hnx : n3 ≤ n := by have h1 := hlx.out; rw [trim_len] at h1; have := used_le l; have := hl.out; omega
  clear ho3
  go_wp2_with (refine wpList_store_lin rfl rfl rfl u3.heap.size rfl (LinIn.new u3 none 0 0 false) a3 n3 c3 s rfl ?_; intro v3 hbn3 hjn3; have hkn3 : Kept [] u3 v3 := ((Kept.refl [] u3).alloc (.cells #[.slice none 0 0, .bool false] 27)).trans hjn3 (by simp); obtain ⟨qX0, qX1⟩ := hbn3.at)
  have hbL4 := hide (hbL3.out.kept hkn3 (by simp))
  have hrl4 := hide (hrl3.out.kept hkn3 (by simp))
  have hrm4 := hide (hrm3.out.kept hkn3 (by simp))
  have hrx4 := hide (hrx.out.kept hkn3 (by simp))
  have hw4 := hw3.trans hkn3 (by simp)
  clear hbL3 hrl3 hrm3 hrx hw3
  replace hbn3 := hide hbn3
  clear hjn3
  have hC4 := Trim6_any a3 n3 c3 (trimL l) s v3 (ht0.out.kept hw4) hrx4.out (by omega) hc3 hd3
  rw [trimE_ok hVt.out, trim_trim] at hC4
  refine hC4.mono ?_
  rintro e u4 ⟨a4, n4, c4, rfl, ho4, hc4, hd4, hj4⟩
  clear hC4
  clear qX0 qX1
  have hbL5 := hide (hbL4.out.kept hj4 (by simp))
  have hbX5 := hide (hbn3.out.kept hj4 (by simp))
  have hrl5 := hide (hrl4.out.kept hj4 (by simp))
  have hrm5 := hide (hrm4.out.kept hj4 (by simp))
  have hrx5 := hide (hrx4.out.kept hj4 (by simp))
  have hw5 := hw4.trans hj4 (by simp)
  clear hbL4 hbn3 hrl4 hrm4 hrx4 hw4
  have hry := hide ho4.rd
  clear ho4
  go_wp2_with (refine wpList_store_lin rfl rfl rfl u4.heap.size rfl (LinIn.new u4 none 0 0 false) a4 n4 c4 s rfl ?_; intro v4 hbn4 hjn4; have hkn4 : Kept [] u4 v4 := ((Kept.refl [] u4).alloc (.cells #[.slice none 0 0, .bool false] 27)).trans hjn4 (by simp); obtain ⟨qL0, qL1⟩ := (hbL5.out.kept hkn4 (by simp)).at)
  have hbL6 := hide (hbL5.out.kept hkn4 (by simp))
  have hbX6 := hide (hbX5.out.kept hkn4 (by simp))
  have hrl6 := hide (hrl5.out.kept hkn4 (by simp))
  have hrm6 := hide (hrm5.out.kept hkn4 (by simp))
  have hrx6 := hide (hrx5.out.kept hkn4 (by simp))
  have hry6 := hide (hry.out.kept hkn4 (by simp))
  have hw6 := hw5.trans hkn4 (by simp)
  clear hbL5 hbX5 hrl5 hrm5 hrx5 hry hw5
  replace hbn4 := hide hbn4
  clear hjn4
  have hC5 := Fit6_any a n c l s (n : Int) v4 (ht0.out.kept hw6) hrl6.out (by omega) hnc hcm
  rw [hfa.out] at hC5
  refine hC5.mono ?_
  rintro e u5 ⟨a5, n5, c5, rfl, ho5, hc5, hd5, hj5⟩
  clear hC5
  clear qL0 qL1
  have hbL7 := hide (hbL6.out.kept hj5 (by simp))
  have hbX7 := hide (hbX6.out.kept hj5 (by simp))
  have hbY7 := hide (hbn4.out.kept hj5 (by simp))
  have hrl7 := hide (hrl6.out.kept hj5 (by simp))
  have hrm7 := hide (hrm6.out.kept hj5 (by simp))
  have hrx7 := hide (hrx6.out.kept hj5 (by simp))
  have hry7 := hide (hry6.out.kept hj5 (by simp))
  have hw7 := hw6.trans hj5 (by simp)
  clear hbL6 hbX6 hbn4 hrl6 hrm6 hrx6 hry6 hw6
  have hrz := hide ho5.rd
  obtain rfl : n = n5 := by have h1 : l.length = n5 := ho5.rd.clen; have := hl.out; omega
  clear ho5
  go_wp2_with (refine wpList_store_lin rfl rfl rfl u5.heap.size rfl (LinIn.new u5 none 0 0 false) a5 n c5 s rfl ?_; intro v5 hbn5 hjn5; have hkn5 : Kept [] u5 v5 := ((Kept.refl [] u5).alloc (.cells #[.slice none 0 0, .bool false] 27)).trans hjn5 (by simp); obtain ⟨qL0, qL1⟩ := (hbL7.out.kept hkn5 (by simp)).at)
  have hbL8 := hide (hbL7.out.kept hkn5 (by simp))
  have hbX8 := hide (hbX7.out.kept hkn5 (by simp))
  have hbY8 := hide (hbY7.out.kept hkn5 (by simp))
  have hrl8 := hide (hrl7.out.kept hkn5 (by simp))
  have hrm8 := hide (hrm7.out.kept hkn5 (by simp))
  have hrx8 := hide (hrx7.out.kept hkn5 (by simp))
  have hry8 := hide (hry7.out.kept hkn5 (by simp))
  have hrz8 := hide (hrz.out.kept hkn5 (by simp))
  have hw8 := hw7.trans hkn5 (by simp)
  clear hbL7 hbX7 hbY7 hrl7 hrm7 hrx7 hry7 hrz hw7
  replace hbn5 := hide hbn5
  clear hjn5
  have hC6 := Fit6_any a n c l s ((n : Int) + (m : Int)) v5 (ht0.out.kept hw8) hrl8.out (by omega) hnc hcm
  rw [hfm.out] at hC6
  refine hC6.mono ?_
  rintro e u6 ⟨a6, n6, c6, rfl, ho6, hc6, hd6, hj6⟩
  clear hC6
  clear qL0 qL1
  have hbL9 := hide (hbL8.out.kept hj6 (by simp))
  have hbX9 := hide (hbX8.out.kept hj6 (by simp))
  have hbY9 := hide (hbY8.out.kept hj6 (by simp))
  have hbZ9 := hide (hbn5.out.kept hj6 (by simp))
  have hrl9 := hide (hrl8.out.kept hj6 (by simp))
  have hrm9 := hide (hrm8.out.kept hj6 (by simp))
  have hrx9 := hide (hrx8.out.kept hj6 (by simp))
  have hry9 := hide (hry8.out.kept hj6 (by simp))
  have hrz9 := hide (hrz8.out.kept hj6 (by simp))
  have hw9 := hw8.trans hj6 (by simp)
  clear hbL8 hbX8 hbY8 hbn5 hrl8 hrm8 hrx8 hry8 hrz8 hw8
  have hrv := hide ho6.rd
  obtain rfl : n + m = n6 := by have h1 : (l ++ List.replicate m eC).length = n6 := ho6.rd.clen; rw [List.length_append, List.length_replicate] at h1; have := hl.out; omega
  clear ho6
  have hnm : (((n + m : Nat) : Int) != (n : Int) + (m : Int)) = false := by simp
  go_wp2_with (refine wpList_store_lin rfl rfl rfl u6.heap.size rfl (LinIn.new u6 none 0 0 false) a6 (n + m) c6 s rfl ?_; intro v6 hbn6 hjn6; have hkn6 : Kept [] u6 v6 := ((Kept.refl [] u6).alloc (.cells #[.slice none 0 0, .bool false] 27)).trans hjn6 (by simp); obtain ⟨qX0, qX1⟩ := (hbX9.out.kept hkn6 (by simp)).at)
  have hbL10 := hide (hbL9.out.kept hkn6 (by simp))
  have hbX10 := hide (hbX9.out.kept hkn6 (by simp))
  have hbY10 := hide (hbY9.out.kept hkn6 (by simp))
  have hbZ10 := hide (hbZ9.out.kept hkn6 (by simp))
  have hrl10 := hide (hrl9.out.kept hkn6 (by simp))
  have hrm10 := hide (hrm9.out.kept hkn6 (by simp))
  have hrx10 := hide (hrx9.out.kept hkn6 (by simp))
  have hry10 := hide (hry9.out.kept hkn6 (by simp))
  have hrz10 := hide (hrz9.out.kept hkn6 (by simp))
  have hrv10 := hide (hrv.out.kept hkn6 (by simp))
  have hw10 := hw9.trans hkn6 (by simp)
  clear hbL9 hbX9 hbY9 hbZ9 hrl9 hrm9 hrx9 hry9 hrz9 hrv hw9
  replace hbn6 := hide hbn6
  clear hjn6
  refine (Valid6_any a3 n3 c3 (trimL l) s v6 (ht0.out.kept hw10) hrx10.out (by omega)).mono ?_
  rintro e w7 ⟨rfl, hj7⟩
  rw [hVt.out]
  clear qX0 qX1
  have hbL11 := hide (hbL10.out.kept hj7 (by simp))
  have hbX11 := hide (hbX10.out.kept hj7 (by simp))
  have hbY11 := hide (hbY10.out.kept hj7 (by simp))
  have hbZ11 := hide (hbZ10.out.kept hj7 (by simp))
  have hbV11 := hide (hbn6.out.kept hj7 (by simp))
  have hrl11 := hide (hrl10.out.kept hj7 (by simp))
  have hrm11 := hide (hrm10.out.kept hj7 (by simp))
  have hrx11 := hide (hrx10.out.kept hj7 (by simp))
  have hry11 := hide (hry10.out.kept hj7 (by simp))
  have hrz11 := hide (hrz10.out.kept hj7 (by simp))
  have hrv11 := hide (hrv10.out.kept hj7 (by simp))
  have hw11 := hw10.trans hj7 (by simp)
  clear hbL10 hbX10 hbY10 hbZ10 hbn6 hrl10 hrm10 hrx10 hry10 hrz10 hrv10 hw10
  obtain ⟨qV0, qV1⟩ := hbV11.out.at
  go_wp2_with fail
  refine (Valid6_any a6 (n + m) c6 (l ++ List.replicate m eC) s w7 (ht0.out.kept hw11) hrv11.out (by omega)).mono ?_
  rintro e w8 ⟨rfl, hj8⟩
  rw [hVm.out]
  clear qV0 qV1
  have hbL12 := hide (hbL11.out.kept hj8 (by simp))
  have hbX12 := hide (hbX11.out.kept hj8 (by simp))
  have hbY12 := hide (hbY11.out.kept hj8 (by simp))
  have hbZ12 := hide (hbZ11.out.kept hj8 (by simp))
  have hbV12 := hide (hbV11.out.kept hj8 (by simp))
  have hrl12 := hide (hrl11.out.kept hj8 (by simp))
  have hrm12 := hide (hrm11.out.kept hj8 (by simp))
  have hrx12 := hide (hrx11.out.kept hj8 (by simp))
  have hry12 := hide (hry11.out.kept hj8 (by simp))
  have hrz12 := hide (hrz11.out.kept hj8 (by simp))
  have hrv12 := hide (hrv11.out.kept hj8 (by simp))
  have hw12 := hw11.trans hj8 (by simp)
  clear hbL11 hbX11 hbY11 hbZ11 hbV11 hrl11 hrm11 hrx11 hry11 hrz11 hrv11 hw11
  obtain ⟨qX0, qX1⟩ := hbX12.out.at
  obtain ⟨qY0, qY1⟩ := hbY12.out.at
  go_wp2_with fail
  refine (same_same s (trimL l) a3 n3 c3 a4 n4 c4 w8 hrx12.out hry12.out (by omega)).mono ?_
  rintro e w9 ⟨rfl, hj9⟩
  clear qX0 qX1 qY0 qY1
  have hbL13 := hide (hbL12.out.kept hj9 (by simp))
  have hbX13 := hide (hbX12.out.kept hj9 (by simp))
  have hbY13 := hide (hbY12.out.kept hj9 (by simp))
  have hbZ13 := hide (hbZ12.out.kept hj9 (by simp))
  have hbV13 := hide (hbV12.out.kept hj9 (by simp))
  have hrl13 := hide (hrl12.out.kept hj9 (by simp))
  have hrm13 := hide (hrm12.out.kept hj9 (by simp))
  have hrx13 := hide (hrx12.out.kept hj9 (by simp))
  have hry13 := hide (hry12.out.kept hj9 (by simp))
  have hrz13 := hide (hrz12.out.kept hj9 (by simp))
  have hrv13 := hide (hrv12.out.kept hj9 (by simp))
  have hw13 := hw12.trans hj9 (by simp)
  clear hbL12 hbX12 hbY12 hbZ12 hbV12 hrl12 hrm12 hrx12 hry12 hrz12 hrv12 hw12
  obtain ⟨qZ0, qZ1⟩ := hbZ13.out.at
  obtain ⟨qL0, qL1⟩ := hbL13.out.at
  go_wp2_with fail
  refine (same_same s l a5 n c5 a n c w9 hrz13.out hrl13.out (by omega)).mono ?_
  rintro e w10 ⟨rfl, hj10⟩
  clear qZ0 qZ1 qL0 qL1
  have hbL14 := hide (hbL13.out.kept hj10 (by simp))
  have hbX14 := hide (hbX13.out.kept hj10 (by simp))
  have hbY14 := hide (hbY13.out.kept hj10 (by simp))
  have hbZ14 := hide (hbZ13.out.kept hj10 (by simp))
  have hbV14 := hide (hbV13.out.kept hj10 (by simp))
  have hrl14 := hide (hrl13.out.kept hj10 (by simp))
  have hrm14 := hide (hrm13.out.kept hj10 (by simp))
  have hrx14 := hide (hrx13.out.kept hj10 (by simp))
  have hry14 := hide (hry13.out.kept hj10 (by simp))
  have hrz14 := hide (hrz13.out.kept hj10 (by simp))
  have hrv14 := hide (hrv13.out.kept hj10 (by simp))
  have hw14 := hw13.trans hj10 (by simp)
  clear hbL13 hbX13 hbY13 hbZ13 hbV13 hrl13 hrm13 hrx13 hry13 hrz13 hrv13 hw13
  obtain ⟨qV0, qV1⟩ := hbV14.out.at
  obtain ⟨qL0, qL1⟩ := hbL14.out.at
  go_upto_region 11 with fail
  clear qV0 qV1 qL0 qL1
  have hF : ∀ {w' : World}, Kept [] w10 w' → (fun w' => (w'.cell? ⟨w.heap.size, 0, none⟩ = some (.slice a n c) ∧ w'.cell? ⟨w.heap.size, 1, none⟩ = some (.bool s)) ∧ (w'.cell? ⟨u3.heap.size, 0, none⟩ = some (.slice a3 n3 c3) ∧ w'.cell? ⟨u3.heap.size, 1, none⟩ = some (.bool s)) ∧ (w'.cell? ⟨u6.heap.size, 0, none⟩ = some (.slice a6 (n + m) c6) ∧ w'.cell? ⟨u6.heap.size, 1, none⟩ = some (.bool s))) w' := fun hk => ⟨(hbL14.out.kept hk (by simp)).at, (hbX14.out.kept hk (by simp)).at, (hbV14.out.kept hk (by simp)).at⟩
  have hTx := hide (fun w1 (hk : Kept [] w10 w1) => Text6_any a3 n3 c3 (trimL l) s w1 (hrx14.out.kept hk (by simp)) (by omega) hc3 hd3)
  rw [trim_trim] at hTx
  have hTl := hide (fun w1 (hk : Kept [] w10 w1) => Text6_any a n c l s w1 (hrl14.out.kept hk (by simp)) (by omega) hnc hcm)
  have hTv := hide (fun w1 (hk : Kept [] w10 w1) => Text6_any a6 (n + m) c6 (l ++ List.replicate m eC) s w1 (hrv14.out.kept hk (by simp)) (by omega) hc6 hd6)
  rw [trim_more] at hTv
  have hUs := hide (fun w1 (hk : Kept [] w10 w1) => Used6_any a n c l s w1 (hrl14.out.kept hk (by simp)) (by omega))
  rw [show usedI l = n3 by rw [← trim_len]; exact hlx.out] at hUs
  have hnn : ((n3 : Int) != (n3 : Int)) = false := by simp
  generalize textsB (trimL l) = tx at *
  refine wp_region_held_drew (S := (fun w' => (w'.cell? ⟨w.heap.size, 0, none⟩ = some (.slice a n c) ∧ w'.cell? ⟨w.heap.size, 1, none⟩ = some (.bool s)) ∧ (w'.cell? ⟨u3.heap.size, 0, none⟩ = some (.slice a3 n3 c3) ∧ w'.cell? ⟨u3.heap.size, 1, none⟩ = some (.bool s)) ∧ (w'.cell? ⟨u6.heap.size, 0, none⟩ = some (.slice a6 (n + m) c6) ∧ w'.cell? ⟨u6.heap.size, 1, none⟩ = some (.bool s)))) (by kernel_rfl) ?_ (fun hHeld => ?_)
  · (try dsimp only); (first | exact hF k5 | exact hF k4 | exact hF k3 | exact hF k2 | exact hF k1 | exact hF (Kept.refl [] w10).drew)
  refine wpAnyH_take (i := 0) (v := ?_) rfl (by kernel_rfl) (by kernel_rfl) (by kernel_rfl) (fun _ _ _ h => h) (Or.inl ⟨by rfl, ?_⟩) (by assumption) ?_
  rotate_left
  · (intro wq hSw; (try dsimp only at hSw); go_simp; try with_reducible rfl)
  try simp only [Act.put, List.getElem_toArray, List.getElem_cons_zero, List.setIfInBounds_toArray, List.set_cons_zero, List.set_cons_succ]
  refine wpAnyH_take (i := 2) (v := ?_) rfl (by kernel_rfl) (by kernel_rfl) (by kernel_rfl) (fun _ _ _ h => h) (Or.inl ⟨by rfl, ?_⟩) (by assumption) ?_
  rotate_left
  · (intro wq hSw; (try dsimp only at hSw); go_simp; try with_reducible rfl)
  try simp only [Act.put, List.getElem_toArray, List.getElem_cons_succ, List.getElem_cons_zero, List.setIfInBounds_toArray, List.set_cons_zero, List.set_cons_succ]
  refine wpAnyH_ready (rs := [1]) (by kernel_rfl) (by simp) ?_
  refine AllReadyH.cons rfl (fun K hK => ?_) AllReadyH.nil
  go_simp
  refine (hTx.out _ (Kept.refl [] w10).drew).mono ?_; rintro e x1 ⟨rfl, i1⟩; have k1 : Kept [] w10 x1 := (Kept.refl [] w10).drew.trans i1 (by simp)
  try go_wp2_with fail
  refine hK.out _ _ ?_ (fun hHeld => ?_)
  · (try dsimp only); (first | exact hF k5 | exact hF k4 | exact hF k3 | exact hF k2 | exact hF k1 | exact hF (Kept.refl [] w10).drew)
  clear hK K
  try simp only [Act.put, List.getElem_toArray, List.getElem_cons_succ, List.getElem_cons_zero, List.setIfInBounds_toArray, List.set_cons_zero, List.set_cons_succ]
  refine wpAnyH_ready (rs := [3]) (by kernel_rfl) (by simp) ?_
  refine AllReadyH.cons rfl (fun K hK => ?_) AllReadyH.nil
  go_simp
  refine (hTl.out x1 k1).mono ?_; rintro e x2 ⟨rfl, i2⟩; have k2 : Kept [] w10 x2 := k1.trans i2 (by simp)
  try go_wp2_with fail
  refine hK.out _ _ ?_ (fun hHeld => ?_)
  · (try dsimp only); (first | exact hF k5 | exact hF k4 | exact hF k3 | exact hF k2 | exact hF k1 | exact hF (Kept.refl [] w10).drew)
  clear hK K
  try simp only [Act.put, List.getElem_toArray, List.getElem_cons_succ, List.getElem_cons_zero, List.setIfInBounds_toArray, List.set_cons_zero, List.set_cons_succ]
  refine wpAnyH_take (i := 4) (v := ?_) rfl (by kernel_rfl) (by kernel_rfl) (by kernel_rfl) (fun _ _ _ h => h) (Or.inl ⟨by rfl, ?_⟩) (by assumption) ?_
  rotate_left
  · (intro wq hSw; (try dsimp only at hSw); go_simp; try with_reducible rfl)
  try simp only [Act.put, List.getElem_toArray, List.getElem_cons_succ, List.getElem_cons_zero, List.setIfInBounds_toArray, List.set_cons_zero, List.set_cons_succ]
  refine wpAnyH_take (i := 5) (v := ?_) rfl (by kernel_rfl) (by kernel_rfl) (by kernel_rfl) (fun _ _ _ h => h) (Or.inl ⟨by rfl, ?_⟩) (by assumption) ?_
  rotate_left
  · (intro wq hSw; (try dsimp only at hSw); go_simp; try with_reducible rfl)
  try simp only [Act.put, List.getElem_toArray, List.getElem_cons_succ, List.getElem_cons_zero, List.setIfInBounds_toArray, List.set_cons_zero, List.set_cons_succ]
  refine wpAnyH_take (i := 6) (v := ?_) rfl (by kernel_rfl) (by kernel_rfl) (by kernel_rfl) (fun _ _ _ h => h) (Or.inl ⟨by rfl, ?_⟩) (by assumption) ?_
  rotate_left
  · (intro wq hSw; (try dsimp only at hSw); go_simp; try with_reducible rfl)
  try simp only [Act.put, List.getElem_toArray, List.getElem_cons_succ, List.getElem_cons_zero, List.setIfInBounds_toArray, List.set_cons_zero, List.set_cons_succ]
  refine wpAnyH_take (i := 8) (v := ?_) rfl (by kernel_rfl) (by kernel_rfl) (by kernel_rfl) (fun _ _ _ h => h) (Or.inl ⟨by rfl, ?_⟩) (by assumption) ?_
  rotate_left
  · (intro wq hSw; (try dsimp only at hSw); go_simp; try with_reducible rfl)
  try simp only [Act.put, List.getElem_toArray, List.getElem_cons_succ, List.getElem_cons_zero, List.setIfInBounds_toArray, List.set_cons_zero, List.set_cons_succ]
  refine wpAnyH_ready (rs := [7]) (by kernel_rfl) (by simp) ?_
  refine AllReadyH.cons rfl (fun K hK => ?_) AllReadyH.nil
  go_simp
  refine (hTv.out x2 k2).mono ?_; rintro e x3 ⟨rfl, i3⟩; have k3 : Kept [] w10 x3 := k2.trans i3 (by simp)
  try go_wp2_with fail
  refine hK.out _ _ ?_ (fun hHeld => ?_)
  · (try dsimp only); (first | exact hF k5 | exact hF k4 | exact hF k3 | exact hF k2 | exact hF k1 | exact hF (Kept.refl [] w10).drew)
  clear hK K
  try simp only [Act.put, List.getElem_toArray, List.getElem_cons_succ, List.getElem_cons_zero, List.setIfInBounds_toArray, List.set_cons_zero, List.set_cons_succ]
  refine wpAnyH_ready (rs := [9]) (by kernel_rfl) (by simp) ?_
  refine AllReadyH.cons rfl (fun K hK => ?_) AllReadyH.nil
  go_simp
  refine (hTl.out x3 k3).mono ?_; rintro e x4 ⟨rfl, i4⟩; have k4 : Kept [] w10 x4 := k3.trans i4 (by simp)
  try go_wp2_with fail
  refine hK.out _ _ ?_ (fun hHeld => ?_)
  · (try dsimp only); (first | exact hF k5 | exact hF k4 | exact hF k3 | exact hF k2 | exact hF k1 | exact hF (Kept.refl [] w10).drew)
  clear hK K
  try simp only [Act.put, List.getElem_toArray, List.getElem_cons_succ, List.getElem_cons_zero, List.setIfInBounds_toArray, List.set_cons_zero, List.set_cons_succ]
  refine wpAnyH_take (i := 10) (v := ?_) rfl (by kernel_rfl) (by kernel_rfl) (by kernel_rfl) (fun _ _ _ h => h) (Or.inl ⟨by rfl, ?_⟩) (by assumption) ?_
  rotate_left
  · (intro wq hSw; (try dsimp only at hSw); go_simp; try with_reducible rfl)
  try simp only [Act.put, List.getElem_toArray, List.getElem_cons_succ, List.getElem_cons_zero, List.setIfInBounds_toArray, List.set_cons_zero, List.set_cons_succ]
  refine wpAnyH_take (i := 11) (v := ?_) rfl (by kernel_rfl) (by kernel_rfl) (by kernel_rfl) (fun _ _ _ h => h) (Or.inl ⟨by rfl, ?_⟩) (by assumption) ?_
  rotate_left
  · (intro wq hSw; (try dsimp only at hSw); go_simp; try with_reducible rfl)
  try simp only [Act.put, List.getElem_toArray, List.getElem_cons_succ, List.getElem_cons_zero, List.setIfInBounds_toArray, List.set_cons_zero, List.set_cons_succ]
  refine wpAnyH_take (i := 12) (v := ?_) rfl (by kernel_rfl) (by kernel_rfl) (by kernel_rfl) (fun _ _ _ h => h) (Or.inl ⟨by rfl, ?_⟩) (by assumption) ?_
  rotate_left
  · (intro wq hSw; (try dsimp only at hSw); go_simp; try with_reducible rfl)
  try simp only [Act.put, List.getElem_toArray, List.getElem_cons_succ, List.getElem_cons_zero, List.setIfInBounds_toArray, List.set_cons_zero, List.set_cons_succ]
  refine wpAnyH_take (i := 13) (v := ?_) rfl (by kernel_rfl) (by kernel_rfl) (by kernel_rfl) (fun _ _ _ h => h) (Or.inl ⟨by rfl, ?_⟩) (by assumption) ?_
  rotate_left
  · (intro wq hSw; (try dsimp only at hSw); go_simp; try with_reducible rfl)
  try simp only [Act.put, List.getElem_toArray, List.getElem_cons_succ, List.getElem_cons_zero, List.setIfInBounds_toArray, List.set_cons_zero, List.set_cons_succ]
  refine wpAnyH_take (i := 15) (v := ?_) rfl (by kernel_rfl) (by kernel_rfl) (by kernel_rfl) (fun _ _ _ h => h) (Or.inl ⟨by rfl, ?_⟩) (by assumption) ?_
  rotate_left
  · (intro wq hSw; (try dsimp only at hSw); go_simp; try with_reducible rfl)
  try simp only [Act.put, List.getElem_toArray, List.getElem_cons_succ, List.getElem_cons_zero, List.setIfInBounds_toArray, List.set_cons_zero, List.set_cons_succ]
  refine wpAnyH_take (i := 16) (v := ?_) rfl (by kernel_rfl) (by kernel_rfl) (by kernel_rfl) (fun _ _ _ h => h) (Or.inl ⟨by rfl, ?_⟩) (by assumption) ?_
  rotate_left
  · (intro wq hSw; (try dsimp only at hSw); go_simp; try with_reducible rfl)
  try simp only [Act.put, List.getElem_toArray, List.getElem_cons_succ, List.getElem_cons_zero, List.setIfInBounds_toArray, List.set_cons_zero, List.set_cons_succ]
  refine wpAnyH_take (i := 17) (v := ?_) rfl (by kernel_rfl) (by kernel_rfl) (by kernel_rfl) (fun _ _ _ h => h) (Or.inl ⟨by rfl, ?_⟩) (by assumption) ?_
  rotate_left
  · (intro wq hSw; (try dsimp only at hSw); go_simp; try with_reducible rfl)
  try simp only [Act.put, List.getElem_toArray, List.getElem_cons_succ, List.getElem_cons_zero, List.setIfInBounds_toArray, List.set_cons_zero, List.set_cons_succ]
  refine wpAnyH_ready (rs := [14]) (by kernel_rfl) (by simp) ?_
  refine AllReadyH.cons rfl (fun K hK => ?_) AllReadyH.nil
  go_simp
  refine (hUs.out x4 k4).mono ?_; rintro e x5 ⟨rfl, i5⟩; have k5 : Kept [] w10 x5 := k4.trans i5 (by simp)
  try go_wp2_with fail
  refine hK.out _ _ ?_ (fun hHeld => ?_)
  · (try dsimp only); (first | exact hF k5 | exact hF k4 | exact hF k3 | exact hF k2 | exact hF k1 | exact hF (Kept.refl [] w10).drew)
  clear hK K
  try simp only [Act.put, List.getElem_toArray, List.getElem_cons_succ, List.getElem_cons_zero, List.setIfInBounds_toArray, List.set_cons_zero, List.set_cons_succ]
  refine wpAnyH_take (i := 18) (v := ?_) rfl (by kernel_rfl) (by kernel_rfl) (by kernel_rfl) (fun _ _ _ h => h) (Or.inl ⟨by rfl, ?_⟩) (by assumption) ?_
  rotate_left
  · (intro wq hSw; (try dsimp only at hSw); go_simp; try with_reducible rfl)
  try simp only [Act.put, List.getElem_toArray, List.getElem_cons_succ, List.getElem_cons_zero, List.setIfInBounds_toArray, List.set_cons_zero, List.set_cons_succ]
  refine wpAnyH_take (i := 19) (v := ?_) rfl (by kernel_rfl) (by kernel_rfl) (by kernel_rfl) (fun _ _ _ h => h) (Or.inl ⟨by rfl, ?_⟩) (by assumption) ?_
  rotate_left
  · (intro wq hSw; (try dsimp only at hSw); go_simp; try with_reducible rfl)
  try simp only [Act.put, List.getElem_toArray, List.getElem_cons_succ, List.getElem_cons_zero, List.setIfInBounds_toArray, List.set_cons_zero, List.set_cons_succ]
  refine wpAnyH_done (by kernel_rfl) ?_ _
  clear hTx hTl hTv hUs
  have hbL15 := hide (hbL14.out.kept k5 (by simp))
  have hbX15 := hide (hbX14.out.kept k5 (by simp))
  have hbY15 := hide (hbY14.out.kept k5 (by simp))
  have hbZ15 := hide (hbZ14.out.kept k5 (by simp))
  have hbV15 := hide (hbV14.out.kept k5 (by simp))
  have hrl15 := hide (hrl14.out.kept k5 (by simp))
  have hrm15 := hide (hrm14.out.kept k5 (by simp))
  have hrx15 := hide (hrx14.out.kept k5 (by simp))
  have hry15 := hide (hry14.out.kept k5 (by simp))
  have hrz15 := hide (hrz14.out.kept k5 (by simp))
  have hrv15 := hide (hrv14.out.kept k5 (by simp))
  have hw15 := hw14.trans k5 (by simp)
  clear hbL14 hbX14 hbY14 hbZ14 hbV14 hrl14 hrm14 hrx14 hry14 hrz14 hrv14 hw14
  obtain ⟨qL0, qL1⟩ := hbL15.out.at
  go_wp2_with fail
  have hC := Put6_any a n c l s at' a2 n2 c2 l2 x5 (ht0.out.kept hw15) hrl15.out (by omega) hnc hcm hrm15.out (by omega) hA hB
  rcases hew.out with ⟨x, hx, hE⟩ | ⟨at0, rfl, hat, hrow, hE⟩
  · rw [hE] at hC
    refine hC.mono ?_
    rintro e u7 ⟨a7, n7, c7, rfl, ho7, hc7, hd7, hj7'⟩
    clear hC hE hew
    clear qL0 qL1
    have hbL16 := hide (hbL15.out.kept hj7' (by simp))
    have hbX16 := hide (hbX15.out.kept hj7' (by simp))
    have hbY16 := hide (hbY15.out.kept hj7' (by simp))
    have hbZ16 := hide (hbZ15.out.kept hj7' (by simp))
    have hbV16 := hide (hbV15.out.kept hj7' (by simp))
    have hrl16 := hide (hrl15.out.kept hj7' (by simp))
    have hrm16 := hide (hrm15.out.kept hj7' (by simp))
    have hrx16 := hide (hrx15.out.kept hj7' (by simp))
    have hry16 := hide (hry15.out.kept hj7' (by simp))
    have hrz16 := hide (hrz15.out.kept hj7' (by simp))
    have hrv16 := hide (hrv15.out.kept hj7' (by simp))
    have hw16 := hw15.trans hj7' (by simp)
    clear hbL15 hbX15 hbY15 hbZ15 hbV15 hrl15 hrm15 hrx15 hry15 hrz15 hrv15 hw15
    have hrp := hide ho7.rd
    obtain rfl : 0 = n7 := by have h1 : ([] : List Cl).length = n7 := ho7.rd.clen; exact h1
    clear ho7
    have hxx : (x != 0) = true := by simpa using hx
    replace hx := hide hx
    go_wp2_with (refine wpList_store_lin rfl rfl rfl u7.heap.size rfl (LinIn.new u7 none 0 0 false) a7 0 c7 false rfl ?_; intro v7 hbn7 hjn7; have hkn7 : Kept [] u7 v7 := ((Kept.refl [] u7).alloc (.cells #[.slice none 0 0, .bool false] 27)).trans hjn7 (by simp); obtain ⟨qP0, qP1⟩ := hbn7.at)
    have hbL17 := hide (hbL16.out.kept hkn7 (by simp))
    have hbX17 := hide (hbX16.out.kept hkn7 (by simp))
    have hbY17 := hide (hbY16.out.kept hkn7 (by simp))
    have hbZ17 := hide (hbZ16.out.kept hkn7 (by simp))
    have hbV17 := hide (hbV16.out.kept hkn7 (by simp))
    have hrl17 := hide (hrl16.out.kept hkn7 (by simp))
    have hrm17 := hide (hrm16.out.kept hkn7 (by simp))
    have hrx17 := hide (hrx16.out.kept hkn7 (by simp))
    have hry17 := hide (hry16.out.kept hkn7 (by simp))
    have hrz17 := hide (hrz16.out.kept hkn7 (by simp))
    have hrv17 := hide (hrv16.out.kept hkn7 (by simp))
    have hrp17 := hide (hrp.out.kept hkn7 (by simp))
    have hw17 := hw16.trans hkn7 (by simp)
    clear hbL16 hbX16 hbY16 hbZ16 hbV16 hrl16 hrm16 hrx16 hry16 hrz16 hrv16 hrp hw16
    replace hbn7 := hide hbn7
    clear hjn7
    refine (same_same false [] a7 0 c7 none 0 0 v7 hrp17.out (Rd.nil _ _ _) (by omega)).mono ?_
    rintro e w11 ⟨rfl, hj11⟩
    have hbL18 := hide (hbL17.out.kept hj11 (by simp))
    have hbX18 := hide (hbX17.out.kept hj11 (by simp))
    have hbY18 := hide (hbY17.out.kept hj11 (by simp))
    have hbZ18 := hide (hbZ17.out.kept hj11 (by simp))
    have hbV18 := hide (hbV17.out.kept hj11 (by simp))
    have hbP18 := hide (hbn7.out.kept hj11 (by simp))
    have hrl18 := hide (hrl17.out.kept hj11 (by simp))
    have hrm18 := hide (hrm17.out.kept hj11 (by simp))
    have hrx18 := hide (hrx17.out.kept hj11 (by simp))
    have hry18 := hide (hry17.out.kept hj11 (by simp))
    have hrz18 := hide (hrz17.out.kept hj11 (by simp))
    have hrv18 := hide (hrv17.out.kept hj11 (by simp))
    have hrp18 := hide (hrp17.out.kept hj11 (by simp))
    have hw18 := hw17.trans hj11 (by simp)
    clear hbL17 hbX17 hbY17 hbZ17 hbV17 hbn7 hrl17 hrm17 hrx17 hry17 hrz17 hrv17 hrp17 hw17
    go_wp2_with fail
    refine (hK.out w11 hw18).mono ?_
    rintro e w12 ⟨rfl, hj12⟩
    go_wp2_with fail
    go_ret
    exact ⟨rfl, hw18.trans hj12 (by simp)⟩
  · rw [hE] at hC
    refine hC.mono ?_
    rintro e u7 ⟨a7, n7, c7, rfl, ho7, hc7, hd7, hj7'⟩
    clear hC hE hew
    clear qL0 qL1
    have hbL16 := hide (hbL15.out.kept hj7' (by simp))
    have hbX16 := hide (hbX15.out.kept hj7' (by simp))
    have hbY16 := hide (hbY15.out.kept hj7' (by simp))
    have hbZ16 := hide (hbZ15.out.kept hj7' (by simp))
    have hbV16 := hide (hbV15.out.kept hj7' (by simp))
    have hrl16 := hide (hrl15.out.kept hj7' (by simp))
    have hrm16 := hide (hrm15.out.kept hj7' (by simp))
    have hrx16 := hide (hrx15.out.kept hj7' (by simp))
    have hry16 := hide (hry15.out.kept hj7' (by simp))
    have hrz16 := hide (hrz15.out.kept hj7' (by simp))
    have hrv16 := hide (hrv15.out.kept hj7' (by simp))
    have hw16 := hw15.trans hj7' (by simp)
    clear hbL15 hbX15 hbY15 hbZ15 hbV15 hrl15 hrm15 hrx15 hry15 hrz15 hrv15 hw15
    have hrp := hide ho7.rd
    rw [hl.out, hl2.out] at hat
    obtain rfl : n = n7 := by have h1 : (putL l at0 l2).length = n7 := ho7.rd.clen; rw [put_len (by rw [hl.out, hl2.out]; exact hat)] at h1; have := hl.out; omega
    clear ho7
    have hVp := hide (show validL (putL l at0 l2) = true from valid_of (by rw [put_len (by rw [hl.out, hl2.out]; exact hat), hl.out]; omega) (put_row (valid_row hVl.out) hrow))
    have hcutL := hide (show ((putL l at0 l2).take (at0 + n2)).drop at0 = l2 by rw [← hl2.out]; exact there_cut (by rw [hl.out, hl2.out]; exact hat))
    obtain ⟨a8, c8, _, _, hcut, hcr⟩ := cut_lh a7 n c7 at0 (at0 + n2) (by omega) hat hc7 hd7
    rw [Nat.add_sub_cancel_left, show ((at0 + n2 : Nat) : Int) = (at0 : Int) + (n2 : Int) by push_cast; rfl] at hcut
    rw [Nat.add_sub_cancel_left] at hcr
    replace hcr := hide hcr
    have hnn2 : ((n : Int) != (n : Int)) = false := by simp
    have hw1 : IntKind.i64.wrap ((n : Int) - (n2 : Int)) = (n : Int) - (n2 : Int) := by rw [IntKind.wrap_i64]; omega
    have hw2 : IntKind.i64.wrap ((at0 : Int) + (n2 : Int)) = (at0 : Int) + (n2 : Int) := by rw [IntKind.wrap_i64]; omega
    have hd1 : ¬ ((at0 : Int) < 0) := by omega
    have hd2 : ¬ ((n : Int) - (n2 : Int) < (at0 : Int)) := by omega
    go_wp2_with (refine wpList_store_lin rfl rfl rfl u7.heap.size rfl (LinIn.new u7 none 0 0 false) a7 n c7 s rfl ?_; intro v7 hbn7 hjn7; have hkn7 : Kept [] u7 v7 := ((Kept.refl [] u7).alloc (.cells #[.slice none 0 0, .bool false] 27)).trans hjn7 (by simp); obtain ⟨qP0, qP1⟩ := hbn7.at; obtain ⟨qL0, qL1⟩ := (hbL16.out.kept hkn7 (by simp)).at)
    have hbL17 := hide (hbL16.out.kept hkn7 (by simp))
    have hbX17 := hide (hbX16.out.kept hkn7 (by simp))
    have hbY17 := hide (hbY16.out.kept hkn7 (by simp))
    have hbZ17 := hide (hbZ16.out.kept hkn7 (by simp))
    have hbV17 := hide (hbV16.out.kept hkn7 (by simp))
    have hrl17 := hide (hrl16.out.kept hkn7 (by simp))
    have hrm17 := hide (hrm16.out.kept hkn7 (by simp))
    have hrx17 := hide (hrx16.out.kept hkn7 (by simp))
    have hry17 := hide (hry16.out.kept hkn7 (by simp))
    have hrz17 := hide (hrz16.out.kept hkn7 (by simp))
    have hrv17 := hide (hrv16.out.kept hkn7 (by simp))
    have hrp17 := hide (hrp.out.kept hkn7 (by simp))
    have hw17 := hw16.trans hkn7 (by simp)
    clear hbL16 hbX16 hbY16 hbZ16 hbV16 hrl16 hrm16 hrx16 hry16 hrz16 hrv16 hrp hw16
    replace hbn7 := hide hbn7
    clear hjn7
    refine (Valid6_any a7 n c7 (putL l at0 l2) s v7 (ht0.out.kept hw17) hrp17.out (by omega)).mono ?_
    rintro e w11 ⟨rfl, hj11⟩
    rw [hVp.out]
    clear qP0 qP1 qL0 qL1
    have hbL18 := hide (hbL17.out.kept hj11 (by simp))
    have hbX18 := hide (hbX17.out.kept hj11 (by simp))
    have hbY18 := hide (hbY17.out.kept hj11 (by simp))
    have hbZ18 := hide (hbZ17.out.kept hj11 (by simp))
    have hbV18 := hide (hbV17.out.kept hj11 (by simp))
    have hbP18 := hide (hbn7.out.kept hj11 (by simp))
    have hrl18 := hide (hrl17.out.kept hj11 (by simp))
    have hrm18 := hide (hrm17.out.kept hj11 (by simp))
    have hrx18 := hide (hrx17.out.kept hj11 (by simp))
    have hry18 := hide (hry17.out.kept hj11 (by simp))
    have hrz18 := hide (hrz17.out.kept hj11 (by simp))
    have hrv18 := hide (hrv17.out.kept hj11 (by simp))
    have hrp18 := hide (hrp17.out.kept hj11 (by simp))
    have hw18 := hw17.trans hj11 (by simp)
    clear hbL17 hbX17 hbY17 hbZ17 hbV17 hbn7 hrl17 hrm17 hrx17 hry17 hrz17 hrv17 hrp17 hw17
    obtain ⟨qP0, qP1⟩ := hbP18.out.at
    obtain ⟨qL0, qL1⟩ := hbL18.out.at
    go_wp2_with fail
    have hSc := Same_any a8 n2 c8 _ a2 n2 c2 l2 w11 (hcr.out w11 _ hrp18.out) hrm18.out (by omega)
    rw [hcutL.out, show decide (l2 = l2) = true by simp] at hSc
    refine hSc.mono ?_
    rintro e w12 ⟨rfl, hj12⟩
    clear hSc
    clear qP0 qP1 qL0 qL1
    have hbL19 := hide (hbL18.out.kept hj12 (by simp))
    have hbX19 := hide (hbX18.out.kept hj12 (by simp))
    have hbY19 := hide (hbY18.out.kept hj12 (by simp))
    have hbZ19 := hide (hbZ18.out.kept hj12 (by simp))
    have hbV19 := hide (hbV18.out.kept hj12 (by simp))
    have hbP19 := hide (hbP18.out.kept hj12 (by simp))
    have hrl19 := hide (hrl18.out.kept hj12 (by simp))
    have hrm19 := hide (hrm18.out.kept hj12 (by simp))
    have hrx19 := hide (hrx18.out.kept hj12 (by simp))
    have hry19 := hide (hry18.out.kept hj12 (by simp))
    have hrz19 := hide (hrz18.out.kept hj12 (by simp))
    have hrv19 := hide (hrv18.out.kept hj12 (by simp))
    have hrp19 := hide (hrp18.out.kept hj12 (by simp))
    have hw19 := hw18.trans hj12 (by simp)
    clear hbL18 hbX18 hbY18 hbZ18 hbV18 hbP18 hrl18 hrm18 hrx18 hry18 hrz18 hrv18 hrp18 hw18
    obtain ⟨qP0, qP1⟩ := hbP19.out.at
    obtain ⟨qL0, qL1⟩ := hbL19.out.at
    go_wp2_with fail
    refine (hK.out w12 hw19).mono ?_
    rintro e w13 ⟨rfl, hj13⟩
    go_wp2_with fail
    go_ret
    exact ⟨rfl, hw19.trans hj13 (by simp)⟩


theorem LineHolds_walk (KN : Known6Is) (a : Option Addr) (n c : Nat) (l : List Cl) (s : Bool) (at' : Int) (a2 : Option Addr) (n2 c2 : Nat) (l2 : List Cl) (m : Nat) (w : World) (ht : Tabs w) (hr : Rd w a n 16 (cellsV l)) (hnc : n ≤ c) (hcm : c ≤ maxLen) (hr2 : Rd w a2 n2 16 (cellsV l2)) (hA : -9223372036854775808 ≤ at') (hB : at' ≤ 9223372036854775807) :
    Calls Tryd.prog 8 #[.agg #[.slice a n c, .bool s], .int .i64 at', .slice a2 n2 c2, .int .u8 (m : Int)] w fun e w' => e = .returned (.bool true) ∧ Kept [] w w' := by
  by_cases hn : n ≤ 40
  · by_cases hn2 : n2 ≤ 40
    · by_cases hm : m ≤ 100
      · cases hv : validL l with
        | true => exact LineHolds_main KN a n c l s at' a2 n2 c2 l2 m w ht hr hn hnc hcm hr2 hn2 hm hA hB hv
        | false => exact LineHolds_bad KN a n c l s at' a2 n2 c2 l2 m w ht hr hn hn2 hm hv
      · exact LineHolds_wide3 KN a n c l s at' a2 n2 c2 l2 m w ht hn hn2 (by omega)
    · exact LineHolds_wide2 KN a n c l s at' a2 n2 c2 l2 m w ht hn hn2
  · exact LineHolds_wide KN a n c l s at' a2 n2 c2 l2 m w ht hn
end Go.Proofs.YtkhdnaopdhnkaaaDoor
