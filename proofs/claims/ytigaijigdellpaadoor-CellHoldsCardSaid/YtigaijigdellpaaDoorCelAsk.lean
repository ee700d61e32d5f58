/- The law's helpers: list, of, mark, fixes. -/
import Derived.Test.YtigaijigdellpaaDoorCelOf
import Derived.Test.YtigaijigdellpaaDoorCelMark
import Derived.Test.YtigaijigdellpaaDoorCelFix
import Derived.Test.YtigaijigdellpaaDoorCelSl
namespace Go.Proofs.YtigaijigdellpaaDoor
open Go.RowKit
set_option linter.unusedVariables false

theorem list_any (a : Option Addr) (n c : Nat) (w : World) : Calls Tryd.prog 37 #[.slice a n c] w fun e w' => e = .returned (.slice a n c) ∧ w' = w := by
  go_enter Tryd.func37, Tryd.ntmps37
  go_wp2_with fail
  go_ret
  exact ⟨rfl, rfl⟩

theorem fixes_any (a : Option Addr) (n c : Nat) (l : List Cl) (a2 : Option Addr) (n2 c2 : Nat) (m : List Cl) (v : Bool) (hv : decide (fixI l = m) = v) (w : World) (hr : Rd w a n 16 (cellsV l)) (hr2 : Rd w a2 n2 16 (cellsV m)) (hn : n ≤ 1000) :
    Calls Tryd.prog 38 #[.slice a n c, .slice a2 n2 c2] w fun e w' => e = .returned (.bool v) ∧ Kept [] w w' := by
  have hF := hide (Fix_any a n c l w hr hn)
  have hr2' := hide hr2
  have hv := hide hv
  clear hr hr2
  have hS := hide (fun a' c' w1 (ho : Own w1 w.heap.size 30 a' n c' 16 (cellsV (fixI l))) (hr2 : Rd w1 a2 n2 16 (cellsV m)) => Same_any a' n c' (fixI l) a2 n2 c2 m w1 ho.rd hr2 hn)
  go_enter Tryd.func38, Tryd.ntmps38
  go_wp2_with fail
  refine hF.out.mono ?_
  rintro e w1 ⟨a', c', rfl, ho1, hk1⟩
  have hR2 := hr2'.out.kept hk1 (by simp)
  have hS2 := hide (hS.out a' c' w1 ho1 hR2)
  go_wp2_with fail
  refine hS2.out.mono ?_
  rintro e w2 ⟨rfl, hk2⟩
  go_wp2_with fail
  go_ret
  exact ⟨by rw [← hv.out]; rfl, hk1.trans hk2 (by simp)⟩

theorem of_ask (r : Int) (p : Pn) (no : Int) (a2 : Option Addr) (n2 c2 : Nat) (m : List Cl) (v : Bool) (hv : (decide ((ofE r p).1 = m) && decide ((ofE r p).2 = no)) = v) (w : World) (ht : Tabs w) (hr2 : Rd w a2 n2 16 (cellsV m)) :
    Calls Tryd.prog 12 #[.int .i32 r, .agg #[.int .i64 p.f.k, .int .u8 p.f.i, .int .u8 p.f.r, .int .u8 p.f.g, .int .u8 p.f.b, .int .i64 p.b.k, .int .u8 p.b.i, .int .u8 p.b.r, .int .u8 p.b.g, .int .u8 p.b.b, .int .u8 p.fl], .int .i64 no, .slice a2 n2 c2] w fun e w' => e = .returned (.bool v) ∧ Kept [] w w' := by
  obtain ⟨W0, hW0⟩ : ∃ z : World, z = w.alloc (.cells #[.int .i64 p.f.k, .int .u8 p.f.i, .int .u8 p.f.r, .int .u8 p.f.g, .int .u8 p.f.b, .int .i64 p.b.k, .int .u8 p.b.i, .int .u8 p.b.r, .int .u8 p.b.g, .int .u8 p.b.b, .int .u8 p.fl] 27) := ⟨_, rfl⟩
  have hk0 : Kept [] w W0 := by rw [hW0]; exact (Kept.refl [] w).alloc _
  have hp0 : PenIn W0 w.heap.size p := by rw [hW0]; exact PenIn.new w p
  have hO := hide (Of4_any r p W0 (ht.kept hk0))
  have hr2' := hide (hr2.kept hk0 (by simp))
  have hv := hide hv
  have hlen : (ofE r p).1.length ≤ 2 := by unfold ofE; split; split <;> simp; simp
  have hlen := hide hlen
  clear hr2 ht
  generalize ofE r p = E at *
  obtain ⟨l, x⟩ := E
  have rp := hp0.range
  go_enter Tryd.func12, Tryd.ntmps12
  go_upto_region 1 with fail
  rw [← hW0]
  clear hW0
  go_wp2_with (refine wpList_load_pen rfl rfl w.heap.size 0 rfl rp ?_)
  refine hO.out.mono ?_
  rintro e w1 ⟨a, n, c, rfl, hr1, _, hk1⟩
  have hR2 := hr2'.out.kept hk1 (by simp)
  have hn : n ≤ 1000 := by have := hr1.clen; have := hlen.out; omega
  have hS := hide (Same_any a n c l a2 n2 c2 m w1 hr1 hR2 hn)
  clear hr1 hR2
  go_wp2_with fail
  refine hS.out.mono ?_
  rintro e w2 ⟨rfl, hk2⟩
  by_cases hx0 : x = no
  · have ex : (x == no) = true := by simpa using hx0
    have hx := hide hx0
    clear hx0
    by_cases hm0 : l = m
    · have dm : decide (l = m) = true := decide_eq_true hm0
      have hm := hide hm0
      clear hm0
      go_wp2_with fail
      go_ret
      exact ⟨ret_bool (by rw [← hv.out]; simp [hx.out, hm.out]), (hk0.trans hk1 (by simp)).trans hk2 (by simp)⟩
    · have dm : decide (l = m) = false := decide_eq_false hm0
      have hm := hide hm0
      clear hm0
      go_wp2_with fail
      go_ret
      exact ⟨ret_bool (by rw [← hv.out]; simp [hm.out]), (hk0.trans hk1 (by simp)).trans hk2 (by simp)⟩
  · have ex : (x == no) = false := by simpa using hx0
    have hx := hide hx0
    clear hx0
    by_cases hm0 : l = m
    · have dm : decide (l = m) = true := decide_eq_true hm0
      have hm := hide hm0
      clear hm0
      go_wp2_with fail
      go_ret
      exact ⟨ret_bool (by rw [← hv.out]; simp [hx.out]), (hk0.trans hk1 (by simp)).trans hk2 (by simp)⟩
    · have dm : decide (l = m) = false := decide_eq_false hm0
      have hm := hide hm0
      clear hm0
      go_wp2_with fail
      go_ret
      exact ⟨ret_bool (by rw [← hv.out]; simp [hm.out]), (hk0.trans hk1 (by simp)).trans hk2 (by simp)⟩

set_option maxHeartbeats 1000000 in
theorem mark_ask (c : Cl) (r : Int) (d : Cl) (no : Int) (v : Bool) (hv : (decide ((markE c r).1 = d) && decide ((markE c r).2 = no)) = v) (w : World) (ht : Tabs w) :
    Calls Tryd.prog 21 #[.agg #[.int .i32 c.r, .int .i32 c.m0, .int .i32 c.m1, .int .i32 c.m2, .int .i64 c.w, .int .i64 c.p.f.k, .int .u8 c.p.f.i, .int .u8 c.p.f.r, .int .u8 c.p.f.g, .int .u8 c.p.f.b, .int .i64 c.p.b.k, .int .u8 c.p.b.i, .int .u8 c.p.b.r, .int .u8 c.p.b.g, .int .u8 c.p.b.b, .int .u8 c.p.fl], .int .i32 r, .agg #[.int .i32 d.r, .int .i32 d.m0, .int .i32 d.m1, .int .i32 d.m2, .int .i64 d.w, .int .i64 d.p.f.k, .int .u8 d.p.f.i, .int .u8 d.p.f.r, .int .u8 d.p.f.g, .int .u8 d.p.f.b, .int .i64 d.p.b.k, .int .u8 d.p.b.i, .int .u8 d.p.b.r, .int .u8 d.p.b.g, .int .u8 d.p.b.b, .int .u8 d.p.fl], .int .i64 no] w fun e w' => e = .returned (.bool v) ∧ Kept [] w w' := by
  obtain ⟨W0, hW0⟩ : ∃ z : World, z = (w.alloc (.cells #[.int .i32 c.r, .int .i32 c.m0, .int .i32 c.m1, .int .i32 c.m2, .int .i64 c.w, .int .i64 c.p.f.k, .int .u8 c.p.f.i, .int .u8 c.p.f.r, .int .u8 c.p.f.g, .int .u8 c.p.f.b, .int .i64 c.p.b.k, .int .u8 c.p.b.i, .int .u8 c.p.b.r, .int .u8 c.p.b.g, .int .u8 c.p.b.b, .int .u8 c.p.fl] 30)).alloc (.cells #[.int .i32 d.r, .int .i32 d.m0, .int .i32 d.m1, .int .i32 d.m2, .int .i64 d.w, .int .i64 d.p.f.k, .int .u8 d.p.f.i, .int .u8 d.p.f.r, .int .u8 d.p.f.g, .int .u8 d.p.f.b, .int .i64 d.p.b.k, .int .u8 d.p.b.i, .int .u8 d.p.b.r, .int .u8 d.p.b.g, .int .u8 d.p.b.b, .int .u8 d.p.fl] 30) := ⟨_, rfl⟩
  have hk0 : Kept [] w W0 := by rw [hW0]; exact ((Kept.refl [] w).alloc _).alloc _
  have hc0 : CelIn W0 w.heap.size c := by rw [hW0]; exact (CelIn.new w c).kept ((Kept.refl [] _).alloc _) (by simp)
  have hd0 : Hid (CelIn W0 (w.heap.size + 1) d) := hide (by rw [hW0]; exact heap_new_at (by simp))
  have hM := hide (Mark_any c r W0 (ht.kept hk0))
  have hv := hide hv
  clear ht
  generalize markE c r = E at *
  obtain ⟨y, x⟩ := E
  have rc := hc0.range
  go_enter Tryd.func21, Tryd.ntmps21
  go_upto_region 1 with fail
  rw [← hW0]
  clear hW0
  go_wp2_with (refine wpList_load_cel rfl rfl w.heap.size 0 rfl rc ?_)
  refine hM.out.mono ?_
  rintro e w1 ⟨rfl, hk1⟩
  have hz1 : CelIn (w1.alloc (.cells #[.int .i32 0, .int .i32 0, .int .i32 0, .int .i32 0, .int .i64 0, .int .i64 0, .int .u8 0, .int .u8 0, .int .u8 0, .int .u8 0, .int .i64 0, .int .u8 0, .int .u8 0, .int .u8 0, .int .u8 0, .int .u8 0] 30)) w1.heap.size zeroK := heap_alloc_new w1 _
  go_upto_region 2 with (refine wpList_store_cel rfl rfl rfl w1.heap.size rfl hz1 y rfl ?_; intro w2 hy2 hk2)
  have hk2' : Kept [] w1 w2 := ((Kept.refl [] w1).alloc _).trans hk2 (by intro z hz; simp at hz; omega)
  have ry := hy2.range
  have rd := ((hd0.out.kept hk1 (by simp)).kept hk2' (by simp)).range
  clear rc hz1
  by_cases hx0 : x = no
  · have ex : (x == no) = true := by simpa using hx0
    have hx := hide hx0
    clear hx0
    by_cases hm0 : y = d
    · have hq : ∀ w, (binOp .eql 30 (.agg #[.int .i32 y.r, .int .i32 y.m0, .int .i32 y.m1, .int .i32 y.m2, .int .i64 y.w, .int .i64 y.p.f.k, .int .u8 y.p.f.i, .int .u8 y.p.f.r, .int .u8 y.p.f.g, .int .u8 y.p.f.b, .int .i64 y.p.b.k, .int .u8 y.p.b.i, .int .u8 y.p.b.r, .int .u8 y.p.b.g, .int .u8 y.p.b.b, .int .u8 y.p.fl]) (.agg #[.int .i32 d.r, .int .i32 d.m0, .int .i32 d.m1, .int .i32 d.m2, .int .i64 d.w, .int .i64 d.p.f.k, .int .u8 d.p.f.i, .int .u8 d.p.f.r, .int .u8 d.p.f.g, .int .u8 d.p.f.b, .int .i64 d.p.b.k, .int .u8 d.p.b.i, .int .u8 d.p.b.r, .int .u8 d.p.b.g, .int .u8 d.p.b.b, .int .u8 d.p.fl])).run Tryd.prog w = .ok (.bool true) w := fun w => (eql_K y d w).trans (by rw [decide_eq_true hm0])
      have hm := hide hm0
      clear hm0
      go_wp2_with (first | refine wpList_load_cel rfl rfl w1.heap.size 0 rfl ry ?_ | refine wpList_load_cel rfl rfl (w.heap.size + 1) 0 rfl rd ?_)
      go_ret
      exact ⟨ret_bool (by rw [← hv.out]; simp [hx.out, hm.out]), (hk0.trans hk1 (by simp)).trans hk2' (by simp)⟩
    · have hq : ∀ w, (binOp .eql 30 (.agg #[.int .i32 y.r, .int .i32 y.m0, .int .i32 y.m1, .int .i32 y.m2, .int .i64 y.w, .int .i64 y.p.f.k, .int .u8 y.p.f.i, .int .u8 y.p.f.r, .int .u8 y.p.f.g, .int .u8 y.p.f.b, .int .i64 y.p.b.k, .int .u8 y.p.b.i, .int .u8 y.p.b.r, .int .u8 y.p.b.g, .int .u8 y.p.b.b, .int .u8 y.p.fl]) (.agg #[.int .i32 d.r, .int .i32 d.m0, .int .i32 d.m1, .int .i32 d.m2, .int .i64 d.w, .int .i64 d.p.f.k, .int .u8 d.p.f.i, .int .u8 d.p.f.r, .int .u8 d.p.f.g, .int .u8 d.p.f.b, .int .i64 d.p.b.k, .int .u8 d.p.b.i, .int .u8 d.p.b.r, .int .u8 d.p.b.g, .int .u8 d.p.b.b, .int .u8 d.p.fl])).run Tryd.prog w = .ok (.bool false) w := fun w => (eql_K y d w).trans (by rw [decide_eq_false hm0])
      have hm := hide hm0
      clear hm0
      go_wp2_with (first | refine wpList_load_cel rfl rfl w1.heap.size 0 rfl ry ?_ | refine wpList_load_cel rfl rfl (w.heap.size + 1) 0 rfl rd ?_)
      go_ret
      exact ⟨ret_bool (by rw [← hv.out]; simp [hm.out]), (hk0.trans hk1 (by simp)).trans hk2' (by simp)⟩
  · have ex : (x == no) = false := by simpa using hx0
    have hx := hide hx0
    clear hx0
    by_cases hm0 : y = d
    · have hq : ∀ w, (binOp .eql 30 (.agg #[.int .i32 y.r, .int .i32 y.m0, .int .i32 y.m1, .int .i32 y.m2, .int .i64 y.w, .int .i64 y.p.f.k, .int .u8 y.p.f.i, .int .u8 y.p.f.r, .int .u8 y.p.f.g, .int .u8 y.p.f.b, .int .i64 y.p.b.k, .int .u8 y.p.b.i, .int .u8 y.p.b.r, .int .u8 y.p.b.g, .int .u8 y.p.b.b, .int .u8 y.p.fl]) (.agg #[.int .i32 d.r, .int .i32 d.m0, .int .i32 d.m1, .int .i32 d.m2, .int .i64 d.w, .int .i64 d.p.f.k, .int .u8 d.p.f.i, .int .u8 d.p.f.r, .int .u8 d.p.f.g, .int .u8 d.p.f.b, .int .i64 d.p.b.k, .int .u8 d.p.b.i, .int .u8 d.p.b.r, .int .u8 d.p.b.g, .int .u8 d.p.b.b, .int .u8 d.p.fl])).run Tryd.prog w = .ok (.bool true) w := fun w => (eql_K y d w).trans (by rw [decide_eq_true hm0])
      have hm := hide hm0
      clear hm0
      go_wp2_with (first | refine wpList_load_cel rfl rfl w1.heap.size 0 rfl ry ?_ | refine wpList_load_cel rfl rfl (w.heap.size + 1) 0 rfl rd ?_)
      go_ret
      exact ⟨ret_bool (by rw [← hv.out]; simp [hx.out]), (hk0.trans hk1 (by simp)).trans hk2' (by simp)⟩
    · have hq : ∀ w, (binOp .eql 30 (.agg #[.int .i32 y.r, .int .i32 y.m0, .int .i32 y.m1, .int .i32 y.m2, .int .i64 y.w, .int .i64 y.p.f.k, .int .u8 y.p.f.i, .int .u8 y.p.f.r, .int .u8 y.p.f.g, .int .u8 y.p.f.b, .int .i64 y.p.b.k, .int .u8 y.p.b.i, .int .u8 y.p.b.r, .int .u8 y.p.b.g, .int .u8 y.p.b.b, .int .u8 y.p.fl]) (.agg #[.int .i32 d.r, .int .i32 d.m0, .int .i32 d.m1, .int .i32 d.m2, .int .i64 d.w, .int .i64 d.p.f.k, .int .u8 d.p.f.i, .int .u8 d.p.f.r, .int .u8 d.p.f.g, .int .u8 d.p.f.b, .int .i64 d.p.b.k, .int .u8 d.p.b.i, .int .u8 d.p.b.r, .int .u8 d.p.b.g, .int .u8 d.p.b.b, .int .u8 d.p.fl])).run Tryd.prog w = .ok (.bool false) w := fun w => (eql_K y d w).trans (by rw [decide_eq_false hm0])
      have hm := hide hm0
      clear hm0
      go_wp2_with (first | refine wpList_load_cel rfl rfl w1.heap.size 0 rfl ry ?_ | refine wpList_load_cel rfl rfl (w.heap.size + 1) 0 rfl rd ?_)
      go_ret
      exact ⟨ret_bool (by rw [← hv.out]; simp [hm.out]), (hk0.trans hk1 (by simp)).trans hk2' (by simp)⟩
end Go.Proofs.YtigaijigdellpaaDoor
