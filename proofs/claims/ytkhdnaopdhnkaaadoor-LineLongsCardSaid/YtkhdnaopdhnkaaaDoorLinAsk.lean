/- Layer 6: the law's helpers is, hard, list, small, news, of, trims, fits, puts. The asks stand under the contracts of the program's functions. -/
import Derived.Test.YtkhdnaopdhnkaaaDoorLinRef4
namespace Go.Proofs.YtkhdnaopdhnkaaaDoor
open Go.RowKit
set_option linter.unusedVariables false
set_option maxRecDepth 100000

theorem list6_any (a : Option Addr) (n c : Nat) (w : World) : Calls Tryd.prog 38 #[.slice a n c] w fun e w' => e = .returned (.slice a n c) ∧ w' = w := by
  go_enter Tryd.func38, Tryd.ntmps38
  go_wp2_with fail
  go_ret
  exact ⟨rfl, rfl⟩

theorem small_any (a : Option Addr) (n c : Nat) (s : Bool) (w : World) : Calls Tryd.prog 19 #[.agg #[.slice a n c, .bool s]] w fun e w' => e = .returned (.bool (decide (n ≤ 40))) ∧ Kept [] w w' := by
  have hk0 : Kept [] w (w.alloc (.cells #[.slice a n c, .bool s] 27)) := (Kept.refl [] w).alloc _
  go_enter Tryd.func19, Tryd.ntmps19
  go_wp2_with fail
  go_ret
  exact ⟨ret_bool (by simp; omega), hk0⟩

theorem hard_any (a : Option Addr) (n c : Nat) (w : World) : Calls Tryd.prog 37 #[.slice a n c] w fun e w' => e = .returned (.agg #[.slice a n c, .bool false]) ∧ Kept [] w w' := by
  have hz2 : LinIn (w.alloc (.cells #[.slice none 0 0, .bool false] 27)) w.heap.size none 0 0 false := LinIn.new w none 0 0 false
  have hk0 : Kept [] w (w.alloc (.cells #[.slice none 0 0, .bool false] 27)) := (Kept.refl [] w).alloc _
  go_enter Tryd.func37, Tryd.ntmps37
  go_wp2_with (refine wpList_store_lin rfl rfl rfl w.heap.size rfl hz2 a n c false rfl ?_; intro w7 hb7 hk7)
  refine bodyPost_ret (results_lin rfl rfl hb7) rfl ?_
  exact ⟨rfl, hk0.trans hk7 (by simp)⟩

set_option maxHeartbeats 2000000 in
theorem is_any (a : Option Addr) (n c : Nat) (s : Bool) (l : List Cl) (x : Int) (a2 : Option Addr) (n2 c2 : Nat) (s2 : Bool) (m : List Cl) (no : Int) (w : World) (hr : Rd w a n 16 (cellsV l)) (hr2 : Rd w a2 n2 16 (cellsV m)) (hn : n ≤ 1000000) :
    Calls Tryd.prog 18 #[.agg #[.slice a n c, .bool s], .int .i64 x, .agg #[.slice a2 n2 c2, .bool s2], .int .i64 no] w fun e w' => e = .returned (.bool (decide (s = s2 ∧ l = m) && decide (x = no))) ∧ Kept [] w w' := by
  have hS := hide (fun w1 (hk : Kept [] w w1) => rSame6_any a n c s l a2 n2 c2 s2 m w1 (hr.kept hk (by simp)) (hr2.kept hk (by simp)) hn)
  have hk0 : Kept [] w ((w.alloc (.cells #[.slice a n c, .bool s] 27)).alloc (.cells #[.slice a2 n2 c2, .bool s2] 27)) := ((Kept.refl [] w).alloc _).alloc _
  clear hr hr2
  generalize decide (s = s2 ∧ l = m) = b at *
  by_cases hx0 : x = no
  · have ex : (x == no) = true := by simpa using hx0
    rw [decide_eq_true hx0]
    clear hx0
    go_enter Tryd.func18, Tryd.ntmps18
    go_wp2_with fail
    refine (hS.out _ hk0).mono ?_
    rintro e w1 ⟨rfl, hk1⟩
    cases b <;> (go_wp2_with fail; go_ret; exact ⟨rfl, hk0.trans hk1 (by simp)⟩)
  · have ex : (x == no) = false := by simpa using hx0
    rw [decide_eq_false hx0]
    clear hx0
    go_enter Tryd.func18, Tryd.ntmps18
    go_wp2_with fail
    refine (hS.out _ hk0).mono ?_
    rintro e w1 ⟨rfl, hk1⟩
    cases b <;> (go_wp2_with fail; go_ret; exact ⟨rfl, hk0.trans hk1 (by simp)⟩)

/-- What the program's functions of layer 6 are asked to do. -/
def newR (n : Int) : (List Cl × Bool) × Int := (((newE n).1, false), (newE n).2)
def LNewIs : Prop := ∀ (n : Int) (w : World), Calls Tryd.prog 40 #[.int .i64 n] w (LinRet2 w (newR n))
def LOfIs : Prop := ∀ (a : Option Addr) (n c : Nat) (l : List Cl) (s : Bool) (w : World), Tabs w → Rd w a n 16 (cellsV l) → n ≤ 2000 → n ≤ c → c ≤ maxLen → Calls Tryd.prog 16 #[.slice a n c, .bool s] w (LinRet2 w (ofL l s))
def LTrimIs : Prop := ∀ (a : Option Addr) (n c : Nat) (l : List Cl) (s : Bool) (w : World), Tabs w → Rd w a n 16 (cellsV l) → n ≤ 2000 → n ≤ c → c ≤ maxLen → Calls Tryd.prog 30 #[.agg #[.slice a n c, .bool s]] w (LinRet2 w (trimE l s))
def LFitIs : Prop := ∀ (a : Option Addr) (n c : Nat) (l : List Cl) (s : Bool) (k : Int) (w : World), Tabs w → Rd w a n 16 (cellsV l) → n ≤ 2000 → n ≤ c → c ≤ maxLen → Calls Tryd.prog 32 #[.agg #[.slice a n c, .bool s], .int .i64 k] w (LinRet2 w (fitE l s k))
def LPutIs : Prop := ∀ (a : Option Addr) (n c : Nat) (l : List Cl) (s : Bool) (at' : Int) (a2 : Option Addr) (n2 c2 : Nat) (l2 : List Cl) (w : World), Tabs w → Rd w a n 16 (cellsV l) → n ≤ 1000 → n ≤ c → c ≤ maxLen → Rd w a2 n2 16 (cellsV l2) → n2 ≤ 1000 → -9223372036854775808 ≤ at' → at' ≤ 9223372036854775807 → Calls Tryd.prog 35 #[.agg #[.slice a n c, .bool s], .int .i64 at', .slice a2 n2 c2] w (LinRet2 w (putE l s at' l2))

theorem newE_len (n : Int) : (newE n).1.length ≤ 1000 := by unfold newE; split <;> simp [newL]; omega
theorem newE_le (n : Int) : (newE n).1.length ≤ 1000000 := by have := newE_len n; omega
theorem newR_len (n : Int) : (newR n).1.1.length ≤ 1000000 := newE_le n
theorem ofL_len (l : List Cl) (s : Bool) (h : l.length ≤ 2000) : (ofL l s).1.1.length ≤ 1000000 := by unfold ofL; split <;> simp; omega
theorem trimE_len (l : List Cl) (s : Bool) (h : l.length ≤ 2000) : (trimE l s).1.1.length ≤ 1000000 := by
  unfold trimE
  split
  · have : (trimL l).length ≤ l.length := by unfold trimL; rw [List.length_take]; omega
    simp only; omega
  · simp
theorem fitE_len (l : List Cl) (s : Bool) (k : Int) : (fitE l s k).1.1.length ≤ 1000000 := by
  unfold fitE
  split
  · rename_i h
    simp only [fitL, List.length_append, fixI_len', List.length_take, List.length_replicate]; omega
  · simp
theorem putE_len (l : List Cl) (s : Bool) (at' : Int) (l2 : List Cl) (h : l.length ≤ 1000) (h2 : l2.length ≤ 1000) : (putE l s at' l2).1.1.length ≤ 1000000 := by
  unfold putE
  split
  · simp
  · split
    · simp
    · simp only [putL, List.length_append, fixI_len', List.length_take, List.length_drop]; omega

set_option maxHeartbeats 4000000 in
theorem news_ask (LN : LNewIs) (k : Int) (a2 : Option Addr) (n2 c2 : Nat) (s2 : Bool) (m : List Cl) (no : Int) (v : Bool) (w : World)  (hr2 : Rd w a2 n2 16 (cellsV m)) (hv : (decide ((newR k).1.2 = s2 ∧ (newR k).1.1 = m) && decide ((newR k).2 = no)) = v) :
    Calls Tryd.prog 11 #[.int .i64 k, .agg #[.slice a2 n2 c2, .bool s2], .int .i64 no] w fun e w' => e = .returned (.bool v) ∧ Kept [] w w' := by
  obtain ⟨W0, hW0⟩ : ∃ z : World, z = (w.alloc (.cells #[.slice a2 n2 c2, .bool s2] 27)) := ⟨_, rfl⟩
  have hk0 : Kept [] w W0 := by rw [hW0]; exact (Kept.refl [] w).alloc _
  have hL := hide (LN k W0)
  have hr2' := hide (hr2.kept hk0 (by simp))
  have hbw : Hid (LinIn W0 w.heap.size a2 n2 c2 s2) := hide (by rw [hW0]; exact heap_new_at (by simp))
  have hv := hide hv
  have hlen := hide (newR_len k)
  clear hr2 LN 
  generalize (newR k) = E at *
  obtain ⟨⟨l', s'⟩, x⟩ := E
  go_enter Tryd.func11, Tryd.ntmps11
  go_upto_region 1 with fail
  rw [← hW0]
  clear hW0
  go_wp2_with fail
  refine hL.out.mono ?_
  rintro e w1 ⟨a', n', c', rfl, ho1, _, _, hk1⟩
  have hr1 := ho1.rd
  have hn : n' ≤ 1000000 := by have := hr1.clen; have := hlen.out; simp only at *; omega
  have hI := hide (fun w2 (hk : Kept [] w1 w2) => is_any a' n' c' s' l' x a2 n2 c2 s2 m no w2 (hr1.kept hk (by simp)) ((hr2'.out.kept hk1 (by simp)).kept hk (by simp)) hn)
  clear hr1
  have hka : Kept [] w1 (w1.alloc (.cells #[.slice a' n' c', .bool s'] 27)) := (Kept.refl [] w1).alloc _
  obtain ⟨q0, q1⟩ := (hbw.out.kept (hk1.trans hka (by simp)) (by simp)).at
  go_wp2_with fail
  refine (hI.out _ hka).mono ?_
  rintro e w2 ⟨rfl, hk2⟩
  go_wp2_with fail
  go_ret
  exact ⟨ret_bool (by rw [← hv.out]; simp only [Bool.decide_and]), ((hk0.trans hk1 (by simp)).trans hka (by simp)).trans hk2 (by simp)⟩

set_option maxHeartbeats 4000000 in
theorem of6_ask (LN : LOfIs) (a : Option Addr) (n c : Nat) (l : List Cl) (s : Bool) (a2 : Option Addr) (n2 c2 : Nat) (s2 : Bool) (m : List Cl) (no : Int) (v : Bool) (w : World) (ht : Tabs w) (hr : Rd w a n 16 (cellsV l)) (hn2 : n ≤ 2000) (hnc : n ≤ c) (hcm : c ≤ maxLen) (hr2 : Rd w a2 n2 16 (cellsV m)) (hv : (decide ((ofL l s).1.2 = s2 ∧ (ofL l s).1.1 = m) && decide ((ofL l s).2 = no)) = v) :
    Calls Tryd.prog 15 #[.slice a n c, .bool s, .agg #[.slice a2 n2 c2, .bool s2], .int .i64 no] w fun e w' => e = .returned (.bool v) ∧ Kept [] w w' := by
  obtain ⟨W0, hW0⟩ : ∃ z : World, z = (w.alloc (.cells #[.slice a2 n2 c2, .bool s2] 27)) := ⟨_, rfl⟩
  have hk0 : Kept [] w W0 := by rw [hW0]; exact (Kept.refl [] w).alloc _
  have hL := hide (LN a n c l s W0 (ht.kept hk0) (hr.kept hk0 (by simp)) hn2 hnc hcm)
  have hr2' := hide (hr2.kept hk0 (by simp))
  have hbw : Hid (LinIn W0 w.heap.size a2 n2 c2 s2) := hide (by rw [hW0]; exact heap_new_at (by simp))
  have hv := hide hv
  have hlen := hide (ofL_len l s (by rw [hr.clen]; exact hn2))
  clear hr2 LN 
  generalize (ofL l s) = E at *
  obtain ⟨⟨l', s'⟩, x⟩ := E
  go_enter Tryd.func15, Tryd.ntmps15
  go_upto_region 1 with fail
  rw [← hW0]
  clear hW0
  go_wp2_with fail
  refine hL.out.mono ?_
  rintro e w1 ⟨a', n', c', rfl, ho1, _, _, hk1⟩
  have hr1 := ho1.rd
  have hn : n' ≤ 1000000 := by have := hr1.clen; have := hlen.out; simp only at *; omega
  have hI := hide (fun w2 (hk : Kept [] w1 w2) => is_any a' n' c' s' l' x a2 n2 c2 s2 m no w2 (hr1.kept hk (by simp)) ((hr2'.out.kept hk1 (by simp)).kept hk (by simp)) hn)
  clear hr1
  have hka : Kept [] w1 (w1.alloc (.cells #[.slice a' n' c', .bool s'] 27)) := (Kept.refl [] w1).alloc _
  obtain ⟨q0, q1⟩ := (hbw.out.kept (hk1.trans hka (by simp)) (by simp)).at
  go_wp2_with fail
  refine (hI.out _ hka).mono ?_
  rintro e w2 ⟨rfl, hk2⟩
  go_wp2_with fail
  go_ret
  exact ⟨ret_bool (by rw [← hv.out]; simp only [Bool.decide_and]), ((hk0.trans hk1 (by simp)).trans hka (by simp)).trans hk2 (by simp)⟩

set_option maxHeartbeats 4000000 in
theorem trims_ask (LN : LTrimIs) (a : Option Addr) (n c : Nat) (l : List Cl) (s : Bool) (a2 : Option Addr) (n2 c2 : Nat) (s2 : Bool) (m : List Cl) (no : Int) (v : Bool) (w : World) (ht : Tabs w) (hr : Rd w a n 16 (cellsV l)) (hn2 : n ≤ 2000) (hnc : n ≤ c) (hcm : c ≤ maxLen) (hr2 : Rd w a2 n2 16 (cellsV m)) (hv : (decide ((trimE l s).1.2 = s2 ∧ (trimE l s).1.1 = m) && decide ((trimE l s).2 = no)) = v) :
    Calls Tryd.prog 28 #[.agg #[.slice a n c, .bool s], .agg #[.slice a2 n2 c2, .bool s2], .int .i64 no] w fun e w' => e = .returned (.bool v) ∧ Kept [] w w' := by
  obtain ⟨W0, hW0⟩ : ∃ z : World, z = ((w.alloc (.cells #[.slice a n c, .bool s] 27)).alloc (.cells #[.slice a2 n2 c2, .bool s2] 27)) := ⟨_, rfl⟩
  have hk0 : Kept [] w W0 := by rw [hW0]; exact ((Kept.refl [] w).alloc _).alloc _
  have hL := hide (LN a n c l s W0 (ht.kept hk0) (hr.kept hk0 (by simp)) hn2 hnc hcm)
  have hr2' := hide (hr2.kept hk0 (by simp))
  have hbw : Hid (LinIn W0 (w.heap.size + 1) a2 n2 c2 s2) := hide (by rw [hW0]; exact heap_new_at (by simp))
  have hbl : Hid (LinIn W0 w.heap.size a n c s) := hide (by rw [hW0]; exact (LinIn.new w a n c s).kept ((Kept.refl [] _).alloc _) (by simp))
  have hv := hide hv
  have hlen := hide (trimE_len l s (by rw [hr.clen]; exact hn2))
  clear hr2 LN 
  generalize (trimE l s) = E at *
  obtain ⟨⟨l', s'⟩, x⟩ := E
  go_enter Tryd.func28, Tryd.ntmps28
  go_upto_region 1 with fail
  rw [← hW0]
  clear hW0
  obtain ⟨f0, f1⟩ := hbl.out.at
  go_wp2_with fail
  refine hL.out.mono ?_
  rintro e w1 ⟨a', n', c', rfl, ho1, _, _, hk1⟩
  have hr1 := ho1.rd
  have hn : n' ≤ 1000000 := by have := hr1.clen; have := hlen.out; simp only at *; omega
  have hI := hide (fun w2 (hk : Kept [] w1 w2) => is_any a' n' c' s' l' x a2 n2 c2 s2 m no w2 (hr1.kept hk (by simp)) ((hr2'.out.kept hk1 (by simp)).kept hk (by simp)) hn)
  clear hr1
  have hka : Kept [] w1 (w1.alloc (.cells #[.slice a' n' c', .bool s'] 27)) := (Kept.refl [] w1).alloc _
  obtain ⟨q0, q1⟩ := (hbw.out.kept (hk1.trans hka (by simp)) (by simp)).at
  go_wp2_with fail
  refine (hI.out _ hka).mono ?_
  rintro e w2 ⟨rfl, hk2⟩
  go_wp2_with fail
  go_ret
  exact ⟨ret_bool (by rw [← hv.out]; simp only [Bool.decide_and]), ((hk0.trans hk1 (by simp)).trans hka (by simp)).trans hk2 (by simp)⟩

set_option maxHeartbeats 4000000 in
theorem fits_ask (LN : LFitIs) (a : Option Addr) (n c : Nat) (l : List Cl) (s : Bool) (k : Int) (a2 : Option Addr) (n2 c2 : Nat) (s2 : Bool) (m : List Cl) (no : Int) (v : Bool) (w : World) (ht : Tabs w) (hr : Rd w a n 16 (cellsV l)) (hn2 : n ≤ 2000) (hnc : n ≤ c) (hcm : c ≤ maxLen) (hr2 : Rd w a2 n2 16 (cellsV m)) (hv : (decide ((fitE l s k).1.2 = s2 ∧ (fitE l s k).1.1 = m) && decide ((fitE l s k).2 = no)) = v) :
    Calls Tryd.prog 29 #[.agg #[.slice a n c, .bool s], .int .i64 k, .agg #[.slice a2 n2 c2, .bool s2], .int .i64 no] w fun e w' => e = .returned (.bool v) ∧ Kept [] w w' := by
  obtain ⟨W0, hW0⟩ : ∃ z : World, z = ((w.alloc (.cells #[.slice a n c, .bool s] 27)).alloc (.cells #[.slice a2 n2 c2, .bool s2] 27)) := ⟨_, rfl⟩
  have hk0 : Kept [] w W0 := by rw [hW0]; exact ((Kept.refl [] w).alloc _).alloc _
  have hL := hide (LN a n c l s k W0 (ht.kept hk0) (hr.kept hk0 (by simp)) hn2 hnc hcm)
  have hr2' := hide (hr2.kept hk0 (by simp))
  have hbw : Hid (LinIn W0 (w.heap.size + 1) a2 n2 c2 s2) := hide (by rw [hW0]; exact heap_new_at (by simp))
  have hbl : Hid (LinIn W0 w.heap.size a n c s) := hide (by rw [hW0]; exact (LinIn.new w a n c s).kept ((Kept.refl [] _).alloc _) (by simp))
  have hv := hide hv
  have hlen := hide (fitE_len l s k)
  clear hr2 LN 
  generalize (fitE l s k) = E at *
  obtain ⟨⟨l', s'⟩, x⟩ := E
  go_enter Tryd.func29, Tryd.ntmps29
  go_upto_region 1 with fail
  rw [← hW0]
  clear hW0
  obtain ⟨f0, f1⟩ := hbl.out.at
  go_wp2_with fail
  refine hL.out.mono ?_
  rintro e w1 ⟨a', n', c', rfl, ho1, _, _, hk1⟩
  have hr1 := ho1.rd
  have hn : n' ≤ 1000000 := by have := hr1.clen; have := hlen.out; simp only at *; omega
  have hI := hide (fun w2 (hk : Kept [] w1 w2) => is_any a' n' c' s' l' x a2 n2 c2 s2 m no w2 (hr1.kept hk (by simp)) ((hr2'.out.kept hk1 (by simp)).kept hk (by simp)) hn)
  clear hr1
  have hka : Kept [] w1 (w1.alloc (.cells #[.slice a' n' c', .bool s'] 27)) := (Kept.refl [] w1).alloc _
  obtain ⟨q0, q1⟩ := (hbw.out.kept (hk1.trans hka (by simp)) (by simp)).at
  go_wp2_with fail
  refine (hI.out _ hka).mono ?_
  rintro e w2 ⟨rfl, hk2⟩
  go_wp2_with fail
  go_ret
  exact ⟨ret_bool (by rw [← hv.out]; simp only [Bool.decide_and]), ((hk0.trans hk1 (by simp)).trans hka (by simp)).trans hk2 (by simp)⟩

set_option maxHeartbeats 4000000 in
theorem puts_ask (LN : LPutIs) (a : Option Addr) (n c : Nat) (l : List Cl) (s : Bool) (at' : Int) (a3 : Option Addr) (n3 c3 : Nat) (l3 : List Cl) (a2 : Option Addr) (n2 c2 : Nat) (s2 : Bool) (m : List Cl) (no : Int) (v : Bool) (w : World) (ht : Tabs w) (hr : Rd w a n 16 (cellsV l)) (hn2 : n ≤ 1000) (hnc : n ≤ c) (hcm : c ≤ maxLen) (hr3 : Rd w a3 n3 16 (cellsV l3)) (hn3 : n3 ≤ 1000) (hA : -9223372036854775808 ≤ at') (hB : at' ≤ 9223372036854775807) (hr2 : Rd w a2 n2 16 (cellsV m)) (hv : (decide ((putE l s at' l3).1.2 = s2 ∧ (putE l s at' l3).1.1 = m) && decide ((putE l s at' l3).2 = no)) = v) :
    Calls Tryd.prog 39 #[.agg #[.slice a n c, .bool s], .int .i64 at', .slice a3 n3 c3, .agg #[.slice a2 n2 c2, .bool s2], .int .i64 no] w fun e w' => e = .returned (.bool v) ∧ Kept [] w w' := by
  obtain ⟨W0, hW0⟩ : ∃ z : World, z = ((w.alloc (.cells #[.slice a n c, .bool s] 27)).alloc (.cells #[.slice a2 n2 c2, .bool s2] 27)) := ⟨_, rfl⟩
  have hk0 : Kept [] w W0 := by rw [hW0]; exact ((Kept.refl [] w).alloc _).alloc _
  have hL := hide (LN a n c l s at' a3 n3 c3 l3 W0 (ht.kept hk0) (hr.kept hk0 (by simp)) hn2 hnc hcm (hr3.kept hk0 (by simp)) hn3 hA hB)
  have hr2' := hide (hr2.kept hk0 (by simp))
  have hbw : Hid (LinIn W0 (w.heap.size + 1) a2 n2 c2 s2) := hide (by rw [hW0]; exact heap_new_at (by simp))
  have hbl : Hid (LinIn W0 w.heap.size a n c s) := hide (by rw [hW0]; exact (LinIn.new w a n c s).kept ((Kept.refl [] _).alloc _) (by simp))
  have hv := hide hv
  have hlen := hide (putE_len l s at' l3 (by rw [hr.clen]; exact hn2) (by rw [hr3.clen]; exact hn3))
  clear hr2 LN 
  generalize (putE l s at' l3) = E at *
  obtain ⟨⟨l', s'⟩, x⟩ := E
  go_enter Tryd.func39, Tryd.ntmps39
  go_upto_region 1 with fail
  rw [← hW0]
  clear hW0
  obtain ⟨f0, f1⟩ := hbl.out.at
  go_wp2_with fail
  refine hL.out.mono ?_
  rintro e w1 ⟨a', n', c', rfl, ho1, _, _, hk1⟩
  have hr1 := ho1.rd
  have hn : n' ≤ 1000000 := by have := hr1.clen; have := hlen.out; simp only at *; omega
  have hI := hide (fun w2 (hk : Kept [] w1 w2) => is_any a' n' c' s' l' x a2 n2 c2 s2 m no w2 (hr1.kept hk (by simp)) ((hr2'.out.kept hk1 (by simp)).kept hk (by simp)) hn)
  clear hr1
  have hka : Kept [] w1 (w1.alloc (.cells #[.slice a' n' c', .bool s'] 27)) := (Kept.refl [] w1).alloc _
  obtain ⟨q0, q1⟩ := (hbw.out.kept (hk1.trans hka (by simp)) (by simp)).at
  go_wp2_with fail
  refine (hI.out _ hka).mono ?_
  rintro e w2 ⟨rfl, hk2⟩
  go_wp2_with fail
  go_ret
  exact ⟨ret_bool (by rw [← hv.out]; simp only [Bool.decide_and]), ((hk0.trans hk1 (by simp)).trans hka (by simp)).trans hk2 (by simp)⟩
end Go.Proofs.YtkhdnaopdhnkaaaDoor
