/- The law's helpers: words, cell, packs, unpacks, joins, run, runs, few. -/
import Derived.Test.YtpdjlollijbdeaaDoorPakRc
import Derived.Test.YtpdjlollijbdeaaDoorPakRp
import Derived.Test.YtpdjlollijbdeaaDoorPakJn
import Derived.Test.YtpdjlollijbdeaaDoorCelOp
namespace Go.Proofs.YtpdjlollijbdeaaDoor
open Go.RowKit
set_option linter.unusedVariables false
set_option maxRecDepth 10000

theorem runs_any (a : Option Addr) (n c : Nat) (w : World) : Calls Tryd.prog 30 #[.slice a n c] w fun e w' => e = .returned (.slice a n c) ∧ w' = w := by
  go_enter Tryd.func30, Tryd.ntmps30
  go_wp2_with fail
  go_ret
  exact ⟨rfl, rfl⟩
theorem results_run {fn : Func} {p : Tmp} {tmps : Array Value} {W : World} {b : Nat} {c : Ru} (h : fn.results = #[.cell p 67]) (hp : tmps.getD p undef = .pointer (some ⟨b, 0, none⟩)) (hc : RunIn W b c) :
    (results fn tmps).run Tryd.prog W = .ok (.agg #[.int .i64 c.n, .int .u64 c.w.a, .int .u64 c.w.b, .int .u64 c.w.c]) W := by
  have hl := run_loadVar_mid (P := Tryd.prog) W b 0 67 (runL c) _ hc.range Tryd.underlying67 rfl (by kernel_rfl)
  rw [Array.getD_eq_getD_getElem?] at hp
  simp [results, h, hp, asAddr, hl, runL]
theorem oneR5 (c : Ru) : (#[.int .i64 c.n, .int .u64 c.w.a, .int .u64 c.w.b, .int .u64 c.w.c] : Array Value).all (·.oneCell') = true := by simp [Value.oneCell']
theorem wpList_store_ru {ops : Array Oper} {rest : List Oper} {op : Oper} {a : Act} {w : World} {Q : Exit → Act → World → Prop} {x y : Operand} (ho : op.op = .store 67 x y) (hgd : op.guard = none) (hd : op.dst = none) (b : Nat) (hx : a.eval x = .pointer (some ⟨b, 0, none⟩)) {c : Ru} (hb : RunIn w b c)
    (d : Ru) (hy : a.eval y = .agg #[.int .i64 d.n, .int .u64 d.w.a, .int .u64 d.w.b, .int .u64 d.w.c]) (h : ∀ w', RunIn w' b d → Kept [b] w w' → wpList Tryd.prog ops Q rest a w') : wpList Tryd.prog ops Q (op :: rest) a w :=
  wpList_store_rowTo hgd 67 x y ho hd b #[.int .i64 d.n, .int .u64 d.w.a, .int .u64 d.w.b, .int .u64 d.w.c] hx hy 67 _ hb (by kernel_rfl) rfl (oneR5 d) (h _ (setRow_heap w b _ _ _ _ hb) ((Kept.refl [b] w).setRow (.inl (by simp)) _))
def zeroR : Ru := ⟨0, zeroW⟩
theorem run_any (n : Int) (v : W3) (w : World) : Calls Tryd.prog 31 #[.int .i64 n, .agg #[.int .u64 v.a, .int .u64 v.b, .int .u64 v.c]] w fun e w' => e = .returned (.agg #[.int .i64 n, .int .u64 v.a, .int .u64 v.b, .int .u64 v.c]) ∧ Kept [] w w' := by
  have hz : RunIn ((w.alloc (.cells #[.int .u64 v.a, .int .u64 v.b, .int .u64 v.c] 34)).alloc (.cells #[.int .i64 0, .int .u64 0, .int .u64 0, .int .u64 0] 67)) (w.heap.size + 1) zeroR := heap_new_at (by simp)
  have hk0 : Kept [] w ((w.alloc (.cells #[.int .u64 v.a, .int .u64 v.b, .int .u64 v.c] 34)).alloc (.cells #[.int .i64 0, .int .u64 0, .int .u64 0, .int .u64 0] 67)) := ((Kept.refl [] w).alloc _).alloc _
  go_enter Tryd.func31, Tryd.ntmps31
  go_wp2_with (refine wpList_store_ru rfl rfl rfl (w.heap.size + 1) rfl hz ⟨n, v⟩ rfl ?_; intro w1 hc1 hk1)
  refine bodyPost_ret (results_run rfl rfl hc1) rfl ?_
  exact ⟨rfl, hk0.trans hk1 (by simp)⟩

theorem and_case (p q : Prop) [Decidable p] [Decidable q] (v : Bool) (hv : (decide p && decide q) = v) : (p ∧ q ∧ v = true) ∨ (p ∧ ¬ q ∧ v = false) ∨ (¬ p ∧ v = false) := by
  by_cases h1 : p <;> by_cases h2 : q <;> simp_all

set_option maxHeartbeats 2000000 in
theorem words_ask (c : Cl) (hb : PnB c.p) (m : W3) (no : Int) (v : Bool) (hv : (decide ((wordsE c).1 = m) && decide ((wordsE c).2 = no)) = v) (w : World) (ht : Tabs w) :
    Calls Tryd.prog 10 #[.agg #[.int .i32 c.r, .int .i32 c.m0, .int .i32 c.m1, .int .i32 c.m2, .int .i64 c.w, .int .i64 c.p.f.k, .int .u8 c.p.f.i, .int .u8 c.p.f.r, .int .u8 c.p.f.g, .int .u8 c.p.f.b, .int .i64 c.p.b.k, .int .u8 c.p.b.i, .int .u8 c.p.b.r, .int .u8 c.p.b.g, .int .u8 c.p.b.b, .int .u8 c.p.fl], .agg #[.int .u64 m.a, .int .u64 m.b, .int .u64 m.c], .int .i64 no] w fun e w' => e = .returned (.bool v) ∧ Kept [] w w' := by
  obtain ⟨W0, hW0⟩ : ∃ z : World, z = (w.alloc (.cells #[.int .i32 c.r, .int .i32 c.m0, .int .i32 c.m1, .int .i32 c.m2, .int .i64 c.w, .int .i64 c.p.f.k, .int .u8 c.p.f.i, .int .u8 c.p.f.r, .int .u8 c.p.f.g, .int .u8 c.p.f.b, .int .i64 c.p.b.k, .int .u8 c.p.b.i, .int .u8 c.p.b.r, .int .u8 c.p.b.g, .int .u8 c.p.b.b, .int .u8 c.p.fl] 30)).alloc (.cells #[.int .u64 m.a, .int .u64 m.b, .int .u64 m.c] 34) := ⟨_, rfl⟩
  have hk0 : Kept [] w W0 := by rw [hW0]; exact ((Kept.refl [] w).alloc _).alloc _
  have hc0 : CelIn W0 w.heap.size c := by rw [hW0]; exact (CelIn.new w c).kept ((Kept.refl [] _).alloc _) (by simp)
  have hm0 : Hid (W3In W0 (w.heap.size + 1) m) := hide (by rw [hW0]; exact heap_new_at (by simp))
  have hX := hide (Words_any c hb W0 (ht.kept hk0))
  have hv := and_case _ _ v hv
  clear ht
  generalize wordsE c = E at *
  obtain ⟨y, x⟩ := E
  simp only at hX hv
  have rc := hc0.range
  have hq := fun w => eql_W y m w
  go_enter Tryd.func10, Tryd.ntmps10
  go_upto_region 1 with fail
  rw [← hW0]
  clear hW0
  go_wp2_with (refine wpList_load_cel rfl rfl w.heap.size 0 rfl rc ?_)
  refine hX.out.mono ?_
  rintro e w1 ⟨rfl, hk1⟩
  have hk2 : Kept [] W0 (w1.alloc (.cells #[.int .u64 y.a, .int .u64 y.b, .int .u64 y.c] 34)) := hk1.alloc _
  obtain ⟨q0, q1, q2⟩ := (hm0.out.kept hk2 (by simp)).at
  clear rc
  rcases hv with ⟨h1, h2, rfl⟩ | ⟨h1, h2, rfl⟩ | ⟨h1, rfl⟩
  · rw [decide_eq_true h1] at hq
    have e2 : (x == no) = true := by simpa using h2
    clear h1 h2
    go_wp2_with fail
    go_ret
    exact ⟨rfl, hk0.trans hk2 (by simp)⟩
  · rw [decide_eq_true h1] at hq
    have e2 : (x == no) = false := by simpa using h2
    clear h1 h2
    go_wp2_with fail
    go_ret
    exact ⟨rfl, hk0.trans hk2 (by simp)⟩
  · rw [decide_eq_false h1] at hq
    clear h1
    go_wp2_with fail
    go_ret
    exact ⟨rfl, hk0.trans hk2 (by simp)⟩

set_option maxHeartbeats 2000000 in
theorem cell_ask (c : W3) (hb : W3B c) (m : Cl) (no : Int) (v : Bool) (hv : (decide ((cellE c).1 = m) && decide ((cellE c).2 = no)) = v) (w : World) (ht : Tabs w) :
    Calls Tryd.prog 13 #[.agg #[.int .u64 c.a, .int .u64 c.b, .int .u64 c.c], .agg #[.int .i32 m.r, .int .i32 m.m0, .int .i32 m.m1, .int .i32 m.m2, .int .i64 m.w, .int .i64 m.p.f.k, .int .u8 m.p.f.i, .int .u8 m.p.f.r, .int .u8 m.p.f.g, .int .u8 m.p.f.b, .int .i64 m.p.b.k, .int .u8 m.p.b.i, .int .u8 m.p.b.r, .int .u8 m.p.b.g, .int .u8 m.p.b.b, .int .u8 m.p.fl], .int .i64 no] w fun e w' => e = .returned (.bool v) ∧ Kept [] w w' := by
  obtain ⟨W0, hW0⟩ : ∃ z : World, z = (w.alloc (.cells #[.int .u64 c.a, .int .u64 c.b, .int .u64 c.c] 34)).alloc (.cells #[.int .i32 m.r, .int .i32 m.m0, .int .i32 m.m1, .int .i32 m.m2, .int .i64 m.w, .int .i64 m.p.f.k, .int .u8 m.p.f.i, .int .u8 m.p.f.r, .int .u8 m.p.f.g, .int .u8 m.p.f.b, .int .i64 m.p.b.k, .int .u8 m.p.b.i, .int .u8 m.p.b.r, .int .u8 m.p.b.g, .int .u8 m.p.b.b, .int .u8 m.p.fl] 30) := ⟨_, rfl⟩
  have hk0 : Kept [] w W0 := by rw [hW0]; exact ((Kept.refl [] w).alloc _).alloc _
  have hc0 : W3At W0 w.heap.size c := by rw [hW0]; exact (W3At.new w c).kept ((Kept.refl [] _).alloc _) (by simp)
  have hm0 : Hid (CelIn W0 (w.heap.size + 1) m) := hide (by rw [hW0]; exact heap_new_at (by simp))
  have hX := hide (Cell_any c hb W0 (ht.kept hk0))
  have hv := and_case _ _ v hv
  clear ht
  generalize cellE c = E at *
  obtain ⟨y, x⟩ := E
  simp only at hX hv
  have hq := fun w => eql_K y m w
  obtain ⟨q0, q1, q2⟩ := hc0
  go_enter Tryd.func13, Tryd.ntmps13
  go_upto_region 1 with fail
  rw [← hW0]
  clear hW0
  go_wp2_with fail
  refine hX.out.mono ?_
  rintro e w1 ⟨rfl, hk1⟩
  have hz1 := CelIn.new w1 zeroK
  go_upto_region 2 with (refine wpList_store_cel rfl rfl rfl w1.heap.size rfl hz1 y rfl ?_; intro w2 hc2 hj2)
  have hk12 : Kept [] w1 w2 := ((Kept.refl [] w1).alloc _).trans hj2 (by intro z hz; simp at hz; omega)
  have hk2 : Kept [] W0 w2 := hk1.trans hk12 (by simp)
  have r1 := hc2.range
  have r2 := (hm0.out.kept hk2 (by simp)).range
  clear q0 q1 q2 hz1 hj2
  rcases hv with ⟨h1, h2, rfl⟩ | ⟨h1, h2, rfl⟩ | ⟨h1, rfl⟩
  · rw [decide_eq_true h1] at hq
    have e2 : (x == no) = true := by simpa using h2
    clear h1 h2
    go_wp2_with (first | refine wpList_load_cel rfl rfl w1.heap.size 0 rfl r1 ?_ | refine wpList_load_cel rfl rfl (w.heap.size + 1) 0 rfl r2 ?_)
    go_ret
    exact ⟨rfl, hk0.trans hk2 (by simp)⟩
  · rw [decide_eq_true h1] at hq
    have e2 : (x == no) = false := by simpa using h2
    clear h1 h2
    go_wp2_with (first | refine wpList_load_cel rfl rfl w1.heap.size 0 rfl r1 ?_ | refine wpList_load_cel rfl rfl (w.heap.size + 1) 0 rfl r2 ?_)
    go_ret
    exact ⟨rfl, hk0.trans hk2 (by simp)⟩
  · rw [decide_eq_false h1] at hq
    clear h1
    go_wp2_with (first | refine wpList_load_cel rfl rfl w1.heap.size 0 rfl r1 ?_ | refine wpList_load_cel rfl rfl (w.heap.size + 1) 0 rfl r2 ?_)
    go_ret
    exact ⟨rfl, hk0.trans hk2 (by simp)⟩

set_option maxHeartbeats 2000000 in
theorem packs_ask (a : Option Addr) (n c : Nat) (l : List Cl) (hB : ∀ x ∈ l, PnB x.p) (no : Int) (a2 : Option Addr) (n2 c2 : Nat) (m : List Ru) (v : Bool) (hv : (decide ((packR l).1 = m) && decide ((packR l).2 = no)) = v) (w : World) (ht : Tabs w) (hr : Rd w a n 16 (cellsV l)) (hn : n ≤ 1000000) (hr2 : Rd w a2 n2 4 (runsV m)) :
    Calls Tryd.prog 16 #[.slice a n c, .int .i64 no, .slice a2 n2 c2] w fun e w' => e = .returned (.bool v) ∧ Kept [] w w' := by
  have hX := hide (Pack5_any a n c l hB w ht hr hn)
  have hv := and_case _ _ v hv
  have hlen : (packR l).1.length ≤ 1000000 := by
    have := hr.clen
    have := pack_len' l
    unfold packR
    split
    · simp
    · split
      · simp only; omega
      · simp
  have hlen := hide hlen
  have hr2 := hide hr2
  clear hr ht hB
  generalize packR l = E at *
  obtain ⟨y, x⟩ := E
  go_enter Tryd.func16, Tryd.ntmps16
  go_wp2_with fail
  refine hX.out.mono ?_
  rintro e w1 ⟨a1, n1, c1, rfl, ho1, hk1⟩
  simp only at hv ho1
  have hn1 : n1 ≤ 1000000 := by have := ho1.rd.runs; have := hlen.out; omega
  have hS := hide (RSame_any a1 n1 c1 y a2 n2 c2 m w1 ho1.rd (hr2.out.kept hk1 (by simp)) hn1)
  clear ho1
  go_wp2_with fail
  refine hS.out.mono ?_
  rintro e w2 ⟨rfl, hk2⟩
  rcases hv with ⟨h1, h2, rfl⟩ | ⟨h1, h2, rfl⟩ | ⟨h1, rfl⟩
  · have e1 := decide_eq_true h1
    have e2 : (x == no) = true := by simpa using h2
    clear h1 h2
    go_wp2_with fail
    go_ret
    exact ⟨rfl, hk1.trans hk2 (by simp)⟩
  · have e1 := decide_eq_true h1
    have e2 : (x == no) = false := by simpa using h2
    clear h1 h2
    go_wp2_with fail
    go_ret
    exact ⟨rfl, hk1.trans hk2 (by simp)⟩
  · have e1 := decide_eq_false h1
    clear h1
    go_wp2_with fail
    go_ret
    exact ⟨rfl, hk1.trans hk2 (by simp)⟩
theorem unpack_len (l : List Ru) : (unpackR l).1.length ≤ 1000000 := by
  unfold unpackR
  split
  · rename_i h
    obtain ⟨p, hp⟩ := totI_true h
    have := expand_take_len hp l.length
    rw [List.take_length] at this
    simp only
    omega
  · simp
set_option maxHeartbeats 2000000 in
theorem unpacks_ask (a : Option Addr) (n c : Nat) (l : List Ru) (hB : ∀ x ∈ l, RuB x) (no : Int) (a2 : Option Addr) (n2 c2 : Nat) (m : List Cl) (v : Bool) (hv : (decide ((unpackR l).1 = m) && decide ((unpackR l).2 = no)) = v) (w : World) (ht : Tabs w) (hr : Rd w a n 4 (runsV l)) (hn : n ≤ 1000000) (hr2 : Rd w a2 n2 16 (cellsV m)) :
    Calls Tryd.prog 22 #[.slice a n c, .int .i64 no, .slice a2 n2 c2] w fun e w' => e = .returned (.bool v) ∧ Kept [] w w' := by
  have hX := hide (Unpack5_any a n c l hB w ht hr hn)
  have hv := and_case _ _ v hv
  have hlen := hide (unpack_len l)
  have hr2 := hide hr2
  clear hr ht hB
  generalize unpackR l = E at *
  obtain ⟨y, x⟩ := E
  go_enter Tryd.func22, Tryd.ntmps22
  go_wp2_with fail
  refine hX.out.mono ?_
  rintro e w1 ⟨a1, n1, c1, rfl, ho1, hk1⟩
  simp only at hv ho1
  have hn1 : n1 ≤ 1000000 := by have := ho1.rd.clen; have := hlen.out; omega
  have hS := hide (Same_big a1 n1 c1 y a2 n2 c2 m w1 ho1.rd (hr2.out.kept hk1 (by simp)) hn1)
  clear ho1
  go_wp2_with fail
  refine hS.out.mono ?_
  rintro e w2 ⟨rfl, hk2⟩
  rcases hv with ⟨h1, h2, rfl⟩ | ⟨h1, h2, rfl⟩ | ⟨h1, rfl⟩
  · have e1 := decide_eq_true h1
    have e2 : (x == no) = true := by simpa using h2
    clear h1 h2
    go_wp2_with fail
    go_ret
    exact ⟨rfl, hk1.trans hk2 (by simp)⟩
  · have e1 := decide_eq_true h1
    have e2 : (x == no) = false := by simpa using h2
    clear h1 h2
    go_wp2_with fail
    go_ret
    exact ⟨rfl, hk1.trans hk2 (by simp)⟩
  · have e1 := decide_eq_false h1
    clear h1
    go_wp2_with fail
    go_ret
    exact ⟨rfl, hk1.trans hk2 (by simp)⟩
theorem join_fits {x y : List Ru} (h : x.length + y.length ≤ 1000000) : (joinR x y).1.length ≤ 1000000 := by
  unfold joinR
  split
  · simp
  · split
    · simp
    · have := join_len (x := x) (y := y) y.length (Nat.le_refl _)
      rw [List.take_length] at this
      simp only
      omega
set_option maxHeartbeats 2000000 in
theorem joins_ask (a : Option Addr) (n c : Nat) (l : List Ru) (ab : Option Addr) (nb cb : Nat) (lb : List Ru) (hB : ∀ x ∈ l, RuB x) (hBb : ∀ x ∈ lb, RuB x) (no : Int) (a2 : Option Addr) (n2 c2 : Nat) (m : List Ru) (v : Bool) (hv : (decide ((joinR l lb).1 = m) && decide ((joinR l lb).2 = no)) = v) (w : World) (ht : Tabs w) (hr : Rd w a n 4 (runsV l)) (hrb : Rd w ab nb 4 (runsV lb)) (hn : n ≤ 100000) (hnb : nb ≤ 100000) (hr2 : Rd w a2 n2 4 (runsV m)) :
    Calls Tryd.prog 23 #[.slice a n c, .slice ab nb cb, .int .i64 no, .slice a2 n2 c2] w fun e w' => e = .returned (.bool v) ∧ Kept [] w w' := by
  have hX := hide (Join5_any a n c l ab nb cb lb hB hBb w ht hr hrb hn hnb)
  have hv := and_case _ _ v hv
  have hlen := hide (join_fits (x := l) (y := lb) (by have := hr.runs; have := hrb.runs; omega))
  have hr2 := hide hr2
  clear hr hrb ht hB hBb
  generalize joinR l lb = E at *
  obtain ⟨y, x⟩ := E
  go_enter Tryd.func23, Tryd.ntmps23
  go_wp2_with fail
  refine hX.out.mono ?_
  rintro e w1 ⟨a1, n1, c1, rfl, ho1, hk1⟩
  simp only at hv ho1
  have hn1 : n1 ≤ 1000000 := by have := ho1.rd.runs; have := hlen.out; omega
  have hS := hide (RSame_any a1 n1 c1 y a2 n2 c2 m w1 ho1.rd (hr2.out.kept hk1 (by simp)) hn1)
  clear ho1
  go_wp2_with fail
  refine hS.out.mono ?_
  rintro e w2 ⟨rfl, hk2⟩
  rcases hv with ⟨h1, h2, rfl⟩ | ⟨h1, h2, rfl⟩ | ⟨h1, rfl⟩
  · have e1 := decide_eq_true h1
    have e2 : (x == no) = true := by simpa using h2
    clear h1 h2
    go_wp2_with fail
    go_ret
    exact ⟨rfl, hk1.trans hk2 (by simp)⟩
  · have e1 := decide_eq_true h1
    have e2 : (x == no) = false := by simpa using h2
    clear h1 h2
    go_wp2_with fail
    go_ret
    exact ⟨rfl, hk1.trans hk2 (by simp)⟩
  · have e1 := decide_eq_false h1
    clear h1
    go_wp2_with fail
    go_ret
    exact ⟨rfl, hk1.trans hk2 (by simp)⟩
end Go.Proofs.YtpdjlollijbdeaaDoor
