/- The reference's rings in boxes; its functions Next, copy. The reference's evict of layer 8. The reference's functions of layer 8: at, Get, Between, Limited, Clear. The reference's functions of layer 8: Clear, Pop. -/
import Derived.Test.YtnkddhmhjnhgcaaGreatDoorRnMem
import Derived.Test.YtnkddhmhjnhgcaaGreatDoorQuick
namespace Go.Proofs.YtnkddhmhjnhgcaaGreatDoor
open Go.RowKit
set_option linter.unusedVariables false
set_option maxRecDepth 100000

def paV (p : Pa) : List Value := [.int .i64 (p.gone : Nat), .int .i64 (p.n : Nat)]
theorem rowPa : RowOf paV 2 := ⟨by decide, fun _ => rfl, fun v u hu => by
  simp only [paV, List.mem_cons, List.not_mem_nil, or_false] at hu
  rcases hu with rfl | rfl <;> rfl⟩
theorem elPage : ElemT Tryz.prog 31 94 (.agg #[.int .i64 0, .int .i64 0]) 2 16 := ⟨Tryz.underlying31, by kernel_rfl, rfl, by decide, by decide⟩
theorem szPa : ∀ w, (sizeOf (Tryz.prog.elem 31)).run Tryz.prog w = .ok 2 w := fun w => by kernel_rfl
/-- A ring's cells. -/
def rgL (lim pl fi : Int) (a : Option Addr) (n c : Nat) (ap : Option Addr) (np cp : Nat) : List Value := [.int .i64 lim, .int .i64 pl, .int .i64 fi, .slice a n c, .slice ap np cp]
/-- A ring of the reference in a box. -/
def RgIn (W : World) (b : Nat) (lim pl fi : Int) (a : Option Addr) (n c : Nat) (ap : Option Addr) (np cp : Nat) : Prop := W.heap[b]? = some (.cells #[.int .i64 lim, .int .i64 pl, .int .i64 fi, .slice a n c, .slice ap np cp] 33 (0, 0))
section
variable {w w' : World} {b : Nat} {lim pl fi : Int} {a : Option Addr} {n c : Nat} {ap : Option Addr} {np cp : Nat}
theorem RgIn.new (w : World) (lim pl fi : Int) (a : Option Addr) (n c : Nat) (ap : Option Addr) (np cp : Nat) : RgIn (w.alloc (.cells #[.int .i64 lim, .int .i64 pl, .int .i64 fi, .slice a n c, .slice ap np cp] 33)) w.heap.size lim pl fi a n c ap np cp := heap_alloc_new w _
theorem RgIn.kept {S : List Nat} (h : RgIn w b lim pl fi a n c ap np cp) (hk : Kept S w w') (hb : b ∉ S) : RgIn w' b lim pl fi a n c ap np cp := hk.heap h hb
theorem RgIn.at (h : RgIn w b lim pl fi a n c ap np cp) : w.cell? ⟨b, 0, none⟩ = some (.int .i64 lim) ∧ w.cell? ⟨b, 1, none⟩ = some (.int .i64 pl) ∧ w.cell? ⟨b, 2, none⟩ = some (.int .i64 fi) ∧ w.cell? ⟨b, 3, none⟩ = some (.slice a n c) ∧ w.cell? ⟨b, 4, none⟩ = some (.slice ap np cp) := by
  have e := fun j => cell_of_row w b j _ _ _ h
  exact ⟨e 0, e 1, e 2, e 3, e 4⟩
theorem RgIn.froz (h : RgIn w b lim pl fi a n c ap np cp) (j : Nat) : w.frozen? ⟨b, j, none⟩ = false := frozen_of_row h j
theorem RgIn.lt (h : RgIn w b lim pl fi a n c ap np cp) : b < w.heap.size := World.block_lt_of_cell? w _ h.at.1
theorem RgIn.setL (h : RgIn w b lim pl fi a n c ap np cp) (a' : Option Addr) (n' c' : Nat) : RgIn (w.setCell ⟨b, 3, none⟩ (.slice a' n' c')) b lim pl fi a' n' c' ap np cp := by
  unfold RgIn at *
  have := heap_setAt w b 3 (.slice a' n' c') _ _ h
  simpa using this
theorem RgIn.setP (h : RgIn w b lim pl fi a n c ap np cp) (a' : Option Addr) (n' c' : Nat) : RgIn (w.setCell ⟨b, 4, none⟩ (.slice a' n' c')) b lim pl fi a n c a' n' c' := by
  unfold RgIn at *
  have := heap_setAt w b 4 (.slice a' n' c') _ _ h
  simpa using this
theorem RgIn.setF (h : RgIn w b lim pl fi a n c ap np cp) (fi' : Int) : RgIn (w.setCell ⟨b, 2, none⟩ (.int .i64 fi')) b lim pl fi' a n c ap np cp := by
  unfold RgIn at *
  have := heap_setAt w b 2 (.int .i64 fi') _ _ h
  simpa using this
theorem RgIn.setM (h : RgIn w b lim pl fi a n c ap np cp) (lim' : Int) : RgIn (w.setCell ⟨b, 0, none⟩ (.int .i64 lim')) b lim' pl fi a n c ap np cp := by
  unfold RgIn at *
  have := heap_setAt w b 0 (.int .i64 lim') _ _ h
  simpa using this
theorem RgIn.range (h : RgIn w b lim pl fi a n c ap np cp) : w.rangeAt b 0 (rgL lim pl fi a n c ap np cp) := fun j v hv => by
  rw [cell_of_row w b (0 + j) _ _ _ h, Nat.zero_add]
  simpa [rgL] using hv
end
theorem oneRg (lim pl fi : Int) (a : Option Addr) (n c : Nat) (ap : Option Addr) (np cp : Nat) : (#[Value.int .i64 lim, Value.int .i64 pl, Value.int .i64 fi, Value.slice a n c, Value.slice ap np cp] : Array Value).all (·.oneCell') = true := by simp [Value.oneCell']
theorem wpList_store_rg {ops : Array Oper} {rest : List Oper} {op : Oper} {A : Act} {w : World} {Q : Exit → Act → World → Prop} {x y : Operand} (ho : op.op = .store 33 x y) (hgd : op.guard = none) (hd : op.dst = none) (b : Nat) (hx : A.eval x = .pointer (some ⟨b, 0, none⟩)) {lim pl fi : Int} {a : Option Addr} {n c : Nat} {ap : Option Addr} {np cp : Nat} (hb : RgIn w b lim pl fi a n c ap np cp)
    (lim' pl' fi' : Int) (a' : Option Addr) (n' c' : Nat) (ap' : Option Addr) (np' cp' : Nat) (hy : A.eval y = .agg #[.int .i64 lim', .int .i64 pl', .int .i64 fi', .slice a' n' c', .slice ap' np' cp']) (h : ∀ w', RgIn w' b lim' pl' fi' a' n' c' ap' np' cp' → Kept [b] w w' → wpList Tryz.prog ops Q rest A w') : wpList Tryz.prog ops Q (op :: rest) A w :=
  wpList_store_rowTo hgd 33 x y ho hd b #[.int .i64 lim', .int .i64 pl', .int .i64 fi', .slice a' n' c', .slice ap' np' cp'] hx hy 33 _ hb (by kernel_rfl) rfl (oneRg lim' pl' fi' a' n' c' ap' np' cp') (h _ (setRow_heap w b _ _ _ _ hb) ((Kept.refl [b] w).setRow (.inl (by simp)) _))
theorem results_rg {fn : Func} {q : Tmp} {tmps : Array Value} {W : World} {b : Nat} {lim pl fi : Int} {a : Option Addr} {n c : Nat} {ap : Option Addr} {np cp : Nat} (h : fn.results = #[.cell q 33]) (hp : tmps.getD q undef = .pointer (some ⟨b, 0, none⟩)) (hc : RgIn W b lim pl fi a n c ap np cp) :
    (results fn tmps).run Tryz.prog W = .ok (.agg #[.int .i64 lim, .int .i64 pl, .int .i64 fi, .slice a n c, .slice ap np cp]) W := by
  have hl := run_loadVar_mid (P := Tryz.prog) W b 0 33 (rgL lim pl fi a n c ap np cp) _ hc.range Tryz.underlying33 rfl (by kernel_rfl)
  rw [Array.getD_eq_getD_getElem?] at hp
  simp [results, h, hp, asAddr, hl, rgL]
theorem results_rg2 {fn : Func} {q u : Tmp} {tmps : Array Value} {W : World} {b : Nat} {lim pl fi : Int} {a : Option Addr} {n c : Nat} {ap : Option Addr} {np cp : Nat} (h : fn.results = #[.cell q 33, .tmp u]) (hp : tmps.getD q undef = .pointer (some ⟨b, 0, none⟩)) (hc : RgIn W b lim pl fi a n c ap np cp) {v : Value} (hu : tmps.getD u undef = v) :
    (results fn tmps).run Tryz.prog W = .ok (.tuple #[.agg #[.int .i64 lim, .int .i64 pl, .int .i64 fi, .slice a n c, .slice ap np cp], v]) W := by
  have hl := run_loadVar_mid (P := Tryz.prog) W b 0 33 (rgL lim pl fi a n c ap np cp) _ hc.range Tryz.underlying33 rfl (by kernel_rfl)
  rw [Array.getD_eq_getD_getElem?] at hp hu
  simp [results, h, hp, hu, asAddr, hl, rgL]

set_option maxHeartbeats 1000000 in
theorem rNext8_any (lim pl : Int) (fi : Nat) (a : Option Addr) (n c : Nat) (ap : Option Addr) (np cp : Nat) (w : World) (hb : fi + n ≤ 1000000000) :
    Calls Tryz.prog 27 #[.agg #[.int .i64 lim, .int .i64 pl, .int .i64 (fi : Nat), .slice a n c, .slice ap np cp]] w fun e w' => e = .returned (.int .i64 ((fi + n : Nat) : Int)) ∧ Kept [] w w' := by
  have hk0 : Kept [] w (w.alloc (.cells #[.int .i64 lim, .int .i64 pl, .int .i64 (fi : Nat), .slice a n c, .slice ap np cp] 33)) := (Kept.refl [] w).alloc _
  have h1 : IntKind.i64.wrap ((fi : Int) + (n : Int)) = (fi : Int) + (n : Int) := by rw [IntKind.wrap_i64]; omega
  have h3 : ((fi + n : Nat) : Int) = (fi : Int) + (n : Int) := by omega
  rw [h3]
  clear h3
  go_enter Tryz.func27, Tryz.ntmps27
  go_wp2_with fail
  go_ret
  exact ⟨rfl, hk0⟩
/-- append to a nil slice. -/
theorem wpList_app0 {P : Program} {w : World} {ops : Array Oper} {rest : List Oper} {o : Oper} {A : Act} {Q : Exit → Act → World → Prop} {s x : Operand} {base : Nat} {t e : TypeId} {z : Value} {size bytes : Nat} {b : Option Addr} {m d : Nat} {ys : List Value}
    (h : ∀ a' c' w', Own w' base e a' m c' size ys → Kept [] w w' → (∀ g ∈ blk a', w.heap.size ≤ g) → wpList P ops Q rest (A.put o.dst (.slice a' m c')) w')
    (hgd : o.guard = none) (T : ElemT P t e z size bytes) (ho : o.op = .call { callee := .builtin .append, args := #[s, x], argTypes := #[t, t] })
    (hs : A.eval s = .slice none 0 0) (hx : A.eval x = .slice b m d) (hr : Rd w b m size ys) (h1 : ∀ u ∈ ys, u.oneCell' = true)
    (hbytes : m * bytes ≤ 140737488355328) (hbase : base ≤ w.heap.size) : wpList P ops Q (o :: rest) A w := by
  refine wpList_app (n := 0) (xs := []) (fun a' c' w' q1 q2 q3 => ?_) hgd T ho hs (Own.nil w base e size) hx hr h1 (by rw [Nat.zero_add]; exact hbytes) hbase
  rw [Nat.zero_add, List.nil_append] at q1
  rw [Nat.zero_add]
  exact h a' c' w' q1 q2 (fun g hg => (q3 g hg).elim (fun h0 => by simp [blk] at h0) id)
theorem Rd.keptB {w w' : World} {b : Nat} {a : Option Addr} {n size : Nat} {xs : List Value} (h : Rd w a n size xs) (hk : Kept [b] w w') (hS : b ∉ blkN a n) : Rd w' a n size xs := h.keptN hk (fun g hg hm => by simp at hm; subst hm; exact hS hg)
/-- What copy returns: the same lines and pages, in slices of its own. -/
def RcRet (lim pl fi : Int) (n np : Nat) (vs : List LnA) (ps : List Pa) (w : World) (e : Ending) (w' : World) : Prop :=
  ∃ a' c' ap' cp', e = .returned (.agg #[.int .i64 lim, .int .i64 pl, .int .i64 fi, .slice a' n c', .slice ap' np cp']) ∧ Own w' w.heap.size 36 a' n c' 2 (rowsV lnV vs) ∧ Own w' w.heap.size 94 ap' np cp' 2 (rowsV paV ps) ∧ (∀ y ∈ blk a', y ∉ blk ap') ∧ Kept [] w w'
set_option maxHeartbeats 4000000 in
theorem rcopy8_any (lim pl fi : Int) (a : Option Addr) (n c : Nat) (ap : Option Addr) (np cp : Nat) (vs : List LnA) (ps : List Pa) (w : World) (hr : Rd w a n 2 (rowsV lnV vs)) (hp : Rd w ap np 2 (rowsV paV ps)) (hn : n ≤ 10000000) (hnp : np ≤ 10000000) :
    Calls Tryz.prog 50 #[.agg #[.int .i64 lim, .int .i64 pl, .int .i64 fi, .slice a n c, .slice ap np cp]] w (RcRet lim pl fi n np vs ps w) := by
  obtain ⟨W0, hW0⟩ : ∃ z : World, z = (w.alloc (.cells #[.int .i64 lim, .int .i64 pl, .int .i64 fi, .slice a n c, .slice ap np cp] 33)).alloc (.cells #[.int .i64 0, .int .i64 0, .int .i64 0, .slice none 0 0, .slice none 0 0] 33) := ⟨_, rfl⟩
  have hk0 : Kept [] w W0 := by rw [hW0]; exact ((Kept.refl [] w).alloc _).alloc _
  have hb0 : Hid (RgIn W0 w.heap.size lim pl fi a n c ap np cp) := hide (by rw [hW0]; exact (RgIn.new w lim pl fi a n c ap np cp).kept ((Kept.refl [] _).alloc _) (by simp))
  have hz0 : Hid (RgIn W0 (w.heap.size + 1) 0 0 0 none 0 0 none 0 0) := hide (by rw [hW0]; exact heap_new_at (by simp))
  have hs0 : w.heap.size + 1 < W0.heap.size := hz0.out.lt
  have hR := hide (hr.kept hk0 (by simp))
  have hP := hide (hp.kept hk0 (by simp))
  have hbP : Hid (w.heap.size ∉ blkN ap np) := hide (fun hm => by
    unfold blkN at hm
    split at hm
    · cases hm
    · rename_i h0
      have := hp.lt (fun e => by have := hp.1; rw [e] at this; simp at this; omega) _ hm
      omega)
  clear hr hp
  go_enter Tryz.func50, Tryz.ntmps50
  go_upto_region 1 with fail
  rw [← hW0]
  clear hW0
  obtain ⟨q0, q1, q2, q3, q4⟩ := hb0.out.at
  have f3 := fun (w1 : World) (hk : Kept [] W0 w1) => (hb0.out.kept hk (by simp)).froz 3
  have g3 := fun (w1 : World) (hk : Kept [] W0 w1) => (hb0.out.kept hk (by simp)).at.2.2.2.1
  go_upto_region 2 with (at_builtin; refine wpList_app0 (base := W0.heap.size) ?_ rfl elLine rfl rfl rfl hR.out (rowsV_oneCell rowLn vs) (by omega) (Nat.le_refl _); intro a1 c1 w1 ho1 hj1 hat1; have p3 := f3 w1 hj1; have r3 := g3 w1 hj1)
  have hb2 := (hb0.out.kept hj1 (by simp)).setL a1 n c1
  have hj2 : Kept [w.heap.size] w1 (w1.setCell ⟨w.heap.size, 3, none⟩ (.slice a1 n c1)) := (Kept.refl _ _).setCell (.inl (by simp)) _
  have hk2 : Kept [w.heap.size] W0 (w1.setCell ⟨w.heap.size, 3, none⟩ (.slice a1 n c1)) := (hj1.mono (by simp)).trans hj2 (fun y hy => .inl hy)
  have hge1 : ∀ y ∈ blk a1, W0.heap.size ≤ y := fun y hy => (ho1.ge y hy).1
  have ho2 := ho1.kept hj2 (fun y hy hm => by simp at hm; have := hge1 y hy; omega)
  clear p3 r3 q0 q1 q2 q3 q4 f3 g3 ho1
  generalize w1.setCell ⟨w.heap.size, 3, none⟩ (.slice a1 n c1) = w2 at *
  obtain ⟨q0, q1, q2, q3, q4⟩ := hb2.at
  have f4 := fun (w3 : World) (hk : Kept [] w2 w3) => (hb2.kept hk (by simp)).froz 4
  have g4 := fun (w3 : World) (hk : Kept [] w2 w3) => (hb2.kept hk (by simp)).at.2.2.2.2
  have hP2 := hP.out.keptB hk2 hbP.out
  have hs2 := hk2.size
  go_upto_region 3 with (at_builtin; refine wpList_app0 (base := W0.heap.size) ?_ rfl elPage rfl rfl rfl hP2 (rowsV_oneCell rowPa ps) (by omega) hs2; intro a3 c3 w3 ho3 hj3 hat3; have p4 := f4 w3 hj3; have r4 := g4 w3 hj3)
  have hb4 := (hb2.kept hj3 (by simp)).setP a3 np c3
  have hj4 : Kept [w.heap.size] w3 (w3.setCell ⟨w.heap.size, 4, none⟩ (.slice a3 np c3)) := (Kept.refl _ _).setCell (.inl (by simp)) _
  have hk24 : Kept [w.heap.size] w2 (w3.setCell ⟨w.heap.size, 4, none⟩ (.slice a3 np c3)) := (hj3.mono (by simp)).trans hj4 (fun y hy => .inl hy)
  have hge3 : ∀ y ∈ blk a3, W0.heap.size ≤ y := fun y hy => (ho3.ge y hy).1
  have ho4 := ho3.kept hj4 (fun y hy hm => by simp at hm; have := hge3 y hy; omega)
  clear p4 r4 q0 q1 q2 q3 q4 f4 g4 ho3
  generalize w3.setCell ⟨w.heap.size, 4, none⟩ (.slice a3 np c3) = w4 at *
  obtain ⟨q0, q1, q2, q3, q4⟩ := hb4.at
  have hk4 : Kept [w.heap.size] W0 w4 := hk2.trans hk24 (fun y hy => .inl hy)
  have hz4 := hz0.out.kept hk4 (by simp)
  go_wp2_with (refine wpList_store_rg rfl rfl rfl (w.heap.size + 1) rfl hz4 lim pl fi a1 n c1 a3 np c3 rfl ?_; intro w5 hb5 j5)
  refine bodyPost_ret (results_rg rfl rfl hb5) rfl ?_
  refine ⟨a1, c1, a3, c3, rfl, ((ho2.kept hk24 (fun y hy hm => by simp at hm; have := hge1 y hy; omega)).kept j5 (fun y hy hm => by simp at hm; have := hge1 y hy; omega)).base (by omega), (ho4.kept j5 (fun y hy hm => by simp at hm; have := hge3 y hy; omega)).base (by omega), fun y hy hm => ?_, (hk0.trans hk4 (by intro y hy; simp at hy; omega)).trans j5 (by intro y hy; simp at hy; omega)⟩
  have h1 := (ho2.ge y hy).2
  have h2 := hat3 y hm
  omega
end Go.Proofs.YtnkddhmhjnhgcaaGreatDoor
namespace Go.Proofs.YtnkddhmhjnhgcaaGreatDoor
open Go.RowKit
set_option linter.unusedVariables false
set_option maxRecDepth 100000

theorem szLr : ∀ w, (sizeOf (Tryz.prog.elem 30)).run Tryz.prog w = .ok 2 w := fun w => by kernel_rfl
/-- What a function returns that returns a ring of its own: lines that were there, in new slices. -/
def RgGive (w : World) (vs : List LnA) (r : Rg) (e : Ending) (w' : World) : Prop :=
  ∃ a' n' c' vs' ap' np' cp', e = .returned (.agg #[.int .i64 (r.limit : Nat), .int .i64 (r.places : Nat), .int .i64 (r.first : Nat), .slice a' n' c', .slice ap' np' cp']) ∧ LnsR w' a' n' vs' r.ls ∧ Rd w' ap' np' 2 (rowsV paV r.ps) ∧ n' ≤ c' ∧ c' ≤ maxLen ∧ np' ≤ cp' ∧ cp' ≤ maxLen ∧ Kept [] w w' ∧ (∀ y ∈ blkN a' n', w.heap.size ≤ y) ∧ (∀ y ∈ blkN ap' np', w.heap.size ≤ y) ∧ (∀ v ∈ vs', v ∈ vs)
set_option maxHeartbeats 20000000 in
theorem revict8_any (r : Rg) (a : Option Addr) (n c : Nat) (vs : List LnA) (ap : Option Addr) (np cp : Nat) (w : World) (hr : LnsR w a n vs r.ls) (hp : Rd w ap np 2 (rowsV paV r.ps)) (hs : sumP r.ps = r.ls.length) (hf : fullP r.places r.ps) (hn : n ≤ 10000000) (hnp : np ≤ 10000000) (hfi : r.first ≤ 1000000000) (hpl : r.places ≤ 1024) :
    Calls Tryz.prog 51 #[.agg #[.int .i64 (r.limit : Nat), .int .i64 (r.places : Nat), .int .i64 (r.first : Nat), .slice a n c, .slice ap np cp]] w (RgGive w vs r.evict) := by
  obtain ⟨W0, hW0⟩ : ∃ z : World, z = (w.alloc (.cells #[.int .i64 (r.limit : Nat), .int .i64 (r.places : Nat), .int .i64 (r.first : Nat), .slice a n c, .slice ap np cp] 33)).alloc (.cells #[.int .i64 0, .int .i64 0, .int .i64 0, .slice none 0 0, .slice none 0 0] 33) := ⟨_, rfl⟩
  have hk0 : Kept [] w W0 := by rw [hW0]; exact ((Kept.refl [] w).alloc _).alloc _
  have hb0 : Hid (RgIn W0 w.heap.size r.limit r.places r.first a n c ap np cp) := hide (by rw [hW0]; exact (RgIn.new w r.limit r.places r.first a n c ap np cp).kept ((Kept.refl [] _).alloc _) (by simp))
  have hz0 : Hid (RgIn W0 (w.heap.size + 1) 0 0 0 none 0 0 none 0 0) := hide (by rw [hW0]; exact heap_new_at (by simp))
  have hs0 : w.heap.size + 1 < W0.heap.size := hz0.out.lt
  have hR := hide (hr.kept hk0 (by simp) (by simp))
  have hC := hide (rcopy8_any r.limit r.places r.first a n c ap np cp vs r.ps W0 hR.out.rd (hp.kept hk0 (by simp)) hn hnp)
  have hl := hide hr.len
  have hvl := hide hr.vlen
  have hA0 := hide hr.at'
  have hsum := hide hs
  have hful := hide hf
  clear hr hp hs hf
  go_enter Tryz.func51, Tryz.ntmps51
  go_upto_region 1 with fail
  rw [← hW0]
  clear hW0
  obtain ⟨q0, q1, q2, q3, q4⟩ := hb0.out.at
  go_wp2_with fail
  refine hC.out.mono ?_
  rintro e w1 ⟨a1, c1, a3, c3, rfl, ho1, ho3, hdis, hk1⟩
  clear q0 q1 q2 q3 q4
  go_wp2_with (refine wpList_store_rg rfl rfl rfl w.heap.size rfl (hb0.out.kept hk1 (by simp)) r.limit r.places r.first a1 n c1 a3 np c3 rfl ?_; intro w2 hb2 j2)
  have hge1 := hide (fun y (hy : y ∈ blk a1) => (ho1.ge y hy).1)
  have hge3 := hide (fun y (hy : y ∈ blk a3) => (ho3.ge y hy).1)
  have hm1 : Hid (Mid w2 a1 n c1 2 (rowsV lnV vs)) := hide (ho1.kept j2 (fun y hy hm => by simp at hm; have := hge1.out y hy; omega)).mid
  have hm3 : Hid (Mid w2 a3 np c3 2 (rowsV paV r.ps)) := hide (ho3.kept j2 (fun y hy hm => by simp at hm; have := hge3.out y hy; omega)).mid
  have hk2 : Hid (Kept [] w w2) := hide ((hk0.trans hk1 (by simp)).trans j2 (by intro y hy; simp at hy; omega))
  have hz2 := hide ((hz0.out.kept hk1 (by simp)).kept j2 (by simp))
  have hb2 := hide hb2
  have hdis := hide hdis
  have hsub : ∀ {x : Option Addr} {k : Nat} {y : Nat}, y ∈ blkC x k → y ∈ blk x := fun hy => by unfold blkC at hy; split at hy; cases hy; exact hy
  clear ho1 ho3 hC hb0 hz0 j2 hk1
  go_loopg [5, 6, 7, 8, 9, 10, 11, 12, 13, 14, 15, 16, 17, 18, 19, 20, 21, 22, 23, 24, 25, 26, 27, 28, 29, 30, 31, 32, 33, 34, 35, 36, 37, 38, 39, 40, 41, 42, 43, 44] n (fun kx s5 s6 s7 s8 s9 s10 s11 s12 s13 s14 s15 s16 s17 s18 s19 s20 s21 s22 s23 s24 s25 s26 s27 s28 s29 s30 s31 s32 s33 s34 s35 s36 s37 s38 s39 s40 s41 s42 s43 s44 wr => ∃ (k : Nat) (a2 : Option Addr) (c2 : Nat) (ap2 : Option Addr) (np2 cp2 : Nat), k ≤ n - r.limit ∧ n - k ≤ kx ∧ Hid (RgIn wr w.heap.size r.limit r.places ((r.first + k : Nat) : Int) a2 (n - k) c2 ap2 np2 cp2 ∧ Mid wr a2 (n - k) c2 2 (rowsV lnV (vs.drop k)) ∧ Mid wr ap2 np2 cp2 2 (rowsV paV (dropPs k r.ps)) ∧ (∀ y ∈ blkC a2 c2, y ∈ blk a1) ∧ (∀ y ∈ blkC ap2 cp2, y ∈ blk a3)) ∧ Hid (Kept [] w wr ∧ RgIn wr (w.heap.size + 1) 0 0 0 none 0 0 none 0 0))
  case atStart => exact ⟨0, a1, c1, a3, np, c3, Nat.zero_le _, by omega, hide ⟨hb2.out, hm1.out, hm3.out, fun y hy => hsub hy, fun y hy => hsub hy⟩, hide ⟨hk2.out, hz2.out⟩⟩
  case round =>
    obtain ⟨k, a2, c2, ap2, np2, cp2, hk, hg, hI, hJ⟩ := hrel
    obtain ⟨b0, b1, b2, b3, b4⟩ := hI.out.1.at
    obtain ⟨F, hF⟩ : ∃ F : Nat, r.first + k = F := ⟨_, rfl⟩
    obtain ⟨m, hm⟩ : ∃ m : Nat, n - k = m := ⟨_, rfl⟩
    rw [hF, hm] at hI
    clear b0 b1 b2 b3 b4
    obtain ⟨b0, b1, b2, b3, b4⟩ := hI.out.1.at
    replace hF := hide hF
    replace hm := hide hm
    by_cases hlt : r.limit < m
    · have hgt : (m : Int) > (r.limit : Int) := by omega
      have hlk : m ≤ c2 := hI.out.2.1.caps.1
      have hcm : c2 ≤ maxLen := hI.out.2.1.caps.2
      obtain ⟨a4, hcut, hsubC, hmid⟩ := mid_slice_l (P := Tryz.prog) rowLn Tryz.underlying30 szLr a2 m c2 1 (by omega) hlk hcm
      have hcut1 : ∀ w1, (Instr.slice 30 (.slice a2 m c2) (some (.int .i64 1)) none none).run Tryz.prog w1 = .ok (.slice a4 (m - 1) (c2 - 1)) w1 := hcut
      clear hcut
      have hsubC := hide hsubC
      have hmid := hide hmid
      obtain ⟨p, ps, hps, hp1, hp2⟩ : ∃ p ps, dropPs k r.ps = p :: ps ∧ 1 ≤ p.n ∧ p.gone + p.n ≤ 1024 := by
        have h1 := dropPs_sum k hful.out
        have h2 := dropPs_full k hful.out
        have h3 := hsum.out
        have h4 := hl.out
        have h5 := hm.out
        cases hps : dropPs k r.ps with
        | nil =>
          rw [hps] at h1
          have h6 : sumP ([] : List Pa) = 0 := rfl
          omega
        | cons p ps => rw [hps] at h2; exact ⟨p, ps, rfl, (fullP_head h2).1, by have := (fullP_head h2).2; omega⟩
      have hMP : Mid wr ap2 np2 cp2 2 (rowsV paV (p :: ps)) := by rw [← hps]; exact hI.out.2.2.1
      have hnp2 : ps.length + 1 = np2 := by have := hMP.rowLen rowPa; simpa using this
      obtain ⟨g, o, rfl⟩ := hMP.rd.rowAddr rowPa (by simp)
      have hgB : g ∈ blk a3 := hI.out.2.2.2.2 g (by unfold blkC; rw [if_neg (by have := hMP.caps.1; omega)]; simp [blk])
      have hgw : w.heap.size ≠ g := by have := hge3.out g hgB; omega
      have hf3 := hI.out.1.froz 3
      have hMP := hide hMP
      have hps := hide hps
      have i0 : (0 : Int) < (np2 : Int) := by omega
      have t1 : IntKind.i64.wrap ((F : Int) + 1) = (F : Int) + 1 := by rw [IntKind.wrap_i64]; have := hF.out; omega
      have t2 : IntKind.i64.wrap ((p.gone : Int) + 1) = (p.gone : Int) + 1 := by rw [IntKind.wrap_i64]; omega
      have t3 : IntKind.i64.wrap ((p.n : Int) - 1) = ((p.n - 1 : Nat) : Int) := by rw [IntKind.wrap_i64]; omega
      go_upto_region 4 with fail
      have i4 := hI.out.1.setL a4 (m - 1) (c2 - 1)
      have j4 : Kept [w.heap.size] wr (wr.setCell ⟨w.heap.size, 3, none⟩ (.slice a4 (m - 1) (c2 - 1))) := (Kept.refl _ _).setCell (.inl (by simp)) _
      clear b0 b1 b2 b3 b4 hf3
      generalize wr.setCell ⟨w.heap.size, 3, none⟩ (.slice a4 (m - 1) (c2 - 1)) = w4 at *
      obtain ⟨b0, b1, b2, b3, b4⟩ := i4.at
      have hf2 := i4.froz 2
      go_upto_region 5 with fail
      have i5 := i4.setF ((F : Int) + 1)
      have j5 : Kept [w.heap.size] w4 (w4.setCell ⟨w.heap.size, 2, none⟩ (.int .i64 ((F : Int) + 1))) := (Kept.refl _ _).setCell (.inl (by simp)) _
      have j45 := j4.trans j5 (fun y hy => .inl hy)
      clear b0 b1 b2 b3 b4 hf2 i4 j4 j5
      generalize w4.setCell ⟨w.heap.size, 2, none⟩ (.int .i64 ((F : Int) + 1)) = w5 at *
      have hP5 := hMP.out.kept j45 (fun y hy hm => by simp at hm; have := hge3.out y (hI.out.2.2.2.2 y hy); omega)
      obtain ⟨d0, z0⟩ := hP5.cellAt rowPa (i := 0) (j := 0) (u := .int .i64 (p.gone : Nat)) (by simp) rfl
      simp only [Nat.zero_mul, Nat.add_zero] at d0 z0
      obtain ⟨b0, b1, b2, b3, b4⟩ := i5.at
      go_upto_region 6 with fail
      have hP6 := hP5.setOne rowPa (i := 0) (j := 0) (v := .int .i64 ((p.gone : Int) + 1)) (d := ⟨p.gone + 1, p.n⟩) (by simp) (by decide) (by simp [paV])
      simp only [Nat.zero_mul, Nat.add_zero, List.set_cons_zero] at hP6
      have j6 : Kept [g] w5 (w5.setCell ⟨g, o, none⟩ (.int .i64 ((p.gone : Int) + 1))) := (Kept.refl _ _).setCell (.inl (by simp)) _
      have i6 := i5.kept j6 (by simpa using hgw)
      clear b0 b1 b2 b3 b4 d0 z0 hP5 i5
      generalize w5.setCell ⟨g, o, none⟩ (.int .i64 ((p.gone : Int) + 1)) = w6 at *
      obtain ⟨d1, z1⟩ := hP6.cellAt rowPa (i := 0) (j := 1) (u := .int .i64 (p.n : Nat)) (by simp) rfl
      simp only [Nat.zero_mul, Nat.zero_add] at d1 z1
      obtain ⟨b0, b1, b2, b3, b4⟩ := i6.at
      go_upto_region 7 with fail
      have hP7 := hP6.setOne rowPa (i := 0) (j := 1) (v := .int .i64 ((p.n - 1 : Nat) : Int)) (d := ⟨p.gone + 1, p.n - 1⟩) (by simp) (by decide) (by simp [paV])
      simp only [Nat.zero_mul, Nat.zero_add, List.set_cons_zero] at hP7
      have j7 : Kept [g] w6 (w6.setCell ⟨g, o + 1, none⟩ (.int .i64 ((p.n - 1 : Nat) : Int))) := (Kept.refl _ _).setCell (.inl (by simp)) _
      have i7 := i6.kept j7 (by simpa using hgw)
      clear b0 b1 b2 b3 b4 d1 z1 hP6 i6
      generalize w6.setCell ⟨g, o + 1, none⟩ (.int .i64 ((p.n - 1 : Nat) : Int)) = w7 at *
      have j47 : Kept [w.heap.size, g] wr w7 := ((j45.mono (fun y hy => .inl (by simp at hy; simp [hy]))).trans j6 (fun y hy => .inl (by simp at hy; simp [hy]))).trans j7 (fun y hy => .inl (by simp at hy; simp [hy]))
      clear j45 j6 j7
      obtain ⟨d1, z1⟩ := hP7.cellAt rowPa (i := 0) (j := 1) (u := .int .i64 ((p.n - 1 : Nat) : Int)) (by simp) rfl
      simp only [Nat.zero_mul, Nat.zero_add] at d1 z1
      obtain ⟨b0, b1, b2, b3, b4⟩ := i7.at
      have hdp : dropPs (k + 1) r.ps = if p.n - 1 = 0 then ps else ⟨p.gone + 1, p.n - 1⟩ :: ps := by rw [dropPs_succ, hps.out, dropP_cons]
      have hk7 : Kept [] w w7 := hJ.out.1.trans j47 (fun y hy => .inr (by simp at hy; rcases hy with rfl | rfl; exact Nat.le_refl _; have := hge3.out y hgB; omega))
      have hz7 := hJ.out.2.kept j47 (fun hm => by simp at hm; have := hge3.out g hgB; omega)
      have hL7 : Mid w7 a4 (m - 1) (c2 - 1) 2 (rowsV lnV (vs.drop (k + 1))) := by
        have h1 := hmid.out wr _ hI.out.2.1
        rw [List.drop_drop] at h1
        exact h1.kept j47 (fun y hy hm => by
          have h2 := hI.out.2.2.2.1 y (hsubC.out y hy)
          have h3 := hge1.out y h2
          simp at hm
          rcases hm with rfl | rfl
          · omega
          · exact hdis.out _ h2 hgB)
      have hsL : ∀ y ∈ blkC a4 (c2 - 1), y ∈ blk a1 := fun y hy => hI.out.2.2.2.1 y (hsubC.out y hy)
      have hsP : ∀ y ∈ blkC (some ⟨g, o, none⟩) cp2, y ∈ blk a3 := hI.out.2.2.2.2
      have hFk : ((r.first + (k + 1) : Nat) : Int) = (F : Int) + 1 := by have := hF.out; omega
      have hmk : n - (k + 1) = m - 1 := by have := hm.out; omega
      by_cases hp0 : p.n - 1 = 0
      · have e0 : ((((p.n - 1 : Nat) : Int)) == 0) = true := by simp [hp0]
        rw [if_pos hp0] at hdp
        replace hp0 := hide hp0
        have hcp := hP7.caps
        obtain ⟨a5, hcut5, hsub5, hmid5⟩ := mid_slice_l (P := Tryz.prog) rowPa Tryz.underlying31 szPa (some ⟨g, o, none⟩) np2 cp2 1 (by omega) hcp.1 hcp.2
        have hcut6 : ∀ w1, (Instr.slice 31 (.slice (some ⟨g, o, none⟩) np2 cp2) (some (.int .i64 1)) none none).run Tryz.prog w1 = .ok (.slice a5 (np2 - 1) (cp2 - 1)) w1 := hcut5
        clear hcut5
        have hP8 := hmid5 w7 _ hP7
        simp only [List.drop_succ_cons, List.drop_zero] at hP8
        have hf4 := i7.froz 4
        have i8 := i7.setP a5 (np2 - 1) (cp2 - 1)
        have j8 : Kept [w.heap.size] w7 (w7.setCell ⟨w.heap.size, 4, none⟩ (.slice a5 (np2 - 1) (cp2 - 1))) := (Kept.refl _ _).setCell (.inl (by simp)) _
        have hP9 := hP8.kept j8 (fun y hy hm => by simp at hm; have := hge3.out y (hsP y (hsub5 y hy)); omega)
        have hL9 := hL7.kept j8 (fun y hy hm => by simp at hm; have := hge1.out y (hsL y hy); omega)
        have hk9 := hk7.trans j8 (by simp)
        have hz9 := hz7.kept j8 (by simp)
        replace i8 := hide i8
        replace hP9 := hide hP9
        replace hL9 := hide hL9
        replace hk9 := hide hk9
        replace hz9 := hide hz9
        clear j8 hP8
        go_wp2_with fail
        go_roundg (n - (k + 1))
        case measure => have := hm.out; omega
        case rel =>
          refine ⟨k + 1, a4, c2 - 1, a5, np2 - 1, cp2 - 1, by have := hm.out; omega, Nat.le_refl _, hide ⟨?_, ?_, ?_, hsL, fun y hy => hsP y (hsub5 y hy)⟩, hide ⟨hk9.out, hz9.out⟩⟩
          · rw [hmk, hFk]; exact i8.out
          · rw [hmk]; exact hL9.out
          · rw [hdp]; exact hP9.out
      · have e0 : ((((p.n - 1 : Nat) : Int)) == 0) = false := by simp; omega
        rw [if_neg hp0] at hdp
        replace hp0 := hide hp0
        go_wp2_with fail
        go_roundg (n - (k + 1))
        case measure => have := hm.out; omega
        case rel =>
          refine ⟨k + 1, a4, c2 - 1, some ⟨g, o, none⟩, np2, cp2, by have := hm.out; omega, Nat.le_refl _, hide ⟨?_, ?_, ?_, hsL, hsP⟩, hide ⟨hk7, hz7⟩⟩
          · rw [hmk, hFk]; exact i7
          · rw [hmk]; exact hL7
          · rw [hdp]; exact hP7
    · have hgt : ¬ ((m : Int) > (r.limit : Int)) := by omega
      have hkk : k = n - r.limit := by have := hm.out; omega
      go_wp2_with (refine wpList_store_rg rfl rfl rfl (w.heap.size + 1) rfl hJ.out.2 r.limit r.places (F : Int) a2 m c2 ap2 np2 cp2 rfl ?_; intro w5 hb5 j5)
      refine bodyPost_ret (results_rg rfl rfl hb5) rfl ?_
      have hk5 := hJ.out.1.trans j5 (by intro y hy; simp at hy; omega)
      have hbl : ∀ y, W0.heap.size ≤ y → y ∉ [w.heap.size + 1] := fun y hy hm => by simp at hm; omega
      have hL5 := hI.out.2.1.kept j5 (fun y hy => hbl y (hge1.out y (hI.out.2.2.2.1 y hy)))
      have hP5 := hI.out.2.2.1.kept j5 (fun y hy => hbl y (hge3.out y (hI.out.2.2.2.2 y hy)))
      have hC1 : ∀ y ∈ blkN a2 m, y ∈ blk a1 := fun y hy => hI.out.2.2.2.1 y (by unfold blkN at hy; split at hy; cases hy; unfold blkC; rw [if_neg (by have := hL5.caps.1; omega)]; exact hy)
      have hC3 : ∀ y ∈ blkN ap2 np2, y ∈ blk a3 := fun y hy => hI.out.2.2.2.2 y (by unfold blkN at hy; split at hy; cases hy; unfold blkC; rw [if_neg (by have := hP5.caps.1; omega)]; exact hy)
      unfold Rg.evict
      rw [evictN_is, hl.out, ← hkk]
      refine ⟨a2, m, c2, vs.drop k, ap2, np2, cp2, by rw [hF.out], ⟨hL5.rd, ?_⟩, hP5.rd, hL5.caps.1, hL5.caps.2, hP5.caps.1, hP5.caps.2, hk5, fun y hy => ?_, fun y hy => ?_, fun v hv => List.mem_of_mem_drop hv⟩
      · exact (hA0.out.kept hk5 (by simp)).drop k
      · have := hge1.out y (hC1 y hy); have := hk0.size; omega
      · have := hge3.out y (hC3 y hy); have := hk0.size; omega
end Go.Proofs.YtnkddhmhjnhgcaaGreatDoor
namespace Go.Proofs.YtnkddhmhjnhgcaaGreatDoor
open Go.RowKit
set_option linter.unusedVariables false
set_option maxRecDepth 100000

set_option maxHeartbeats 4000000 in
theorem rat8_any (r : Rg) (k : Int) (a : Option Addr) (n c : Nat) (ap : Option Addr) (np cp : Nat) (w : World) (hn : r.ls.length = n) (hb : r.first + n ≤ 1000000000) :
    Calls Tryz.prog 38 #[.agg #[.int .i64 (r.limit : Nat), .int .i64 (r.places : Nat), .int .i64 (r.first : Nat), .slice a n c, .slice ap np cp], .int .i64 k] w fun e w' => e = .returned (.int .i64 (atG r k)) ∧ Kept [] w w' := by
  obtain ⟨W0, hW0⟩ : ∃ z : World, z = w.alloc (.cells #[.int .i64 (r.limit : Nat), .int .i64 (r.places : Nat), .int .i64 (r.first : Nat), .slice a n c, .slice ap np cp] 33) := ⟨_, rfl⟩
  have hk0 : Kept [] w W0 := by rw [hW0]; exact (Kept.refl [] w).alloc _
  have hb0 : Hid (RgIn W0 w.heap.size r.limit r.places r.first a n c ap np cp) := hide (by rw [hW0]; exact RgIn.new w r.limit r.places r.first a n c ap np cp)
  have hN := rNext8_any r.limit r.places r.first a n c ap np cp W0 hb
  have hnx : r.next = r.first + n := by unfold Rg.next; rw [hn]
  rw [← hnx] at hN
  have hN := hide hN
  have hfn : r.first ≤ r.next := by omega
  have hnx := hide hnx
  obtain ⟨q0, q1, q2, q3, q4⟩ := hb0.out.at
  by_cases h0 : k < 0
  · have e0 : atG r k = 3 := by unfold atG; rw [if_pos (.inl h0)]
    rw [e0]
    clear e0
    go_enter Tryz.func38, Tryz.ntmps38
    go_upto_region 1 with fail
    rw [← hW0]
    clear hW0
    go_wp2_with fail
    go_ret
    exact ⟨rfl, hk0⟩
  · obtain ⟨M, hM⟩ : ∃ M : Nat, r.next = M := ⟨_, rfl⟩
    rw [hM] at hN
    by_cases h1 : k ≥ (M : Int)
    · have e0 : atG r k = 3 := by unfold atG; rw [hM, if_pos (.inr h1)]
      rw [e0]
      clear e0
      replace hM := hide hM
      go_enter Tryz.func38, Tryz.ntmps38
      go_upto_region 1 with fail
      rw [← hW0]
      clear hW0
      go_wp2_with fail
      refine hN.out.mono ?_
      rintro e w1 ⟨rfl, hk1⟩
      go_wp2_with fail
      go_ret
      exact ⟨rfl, hk0.trans hk1 (by simp)⟩
    · by_cases h2 : k < (r.first : Int)
      · have e0 : atG r k = 14 := by unfold atG; rw [hM, if_neg (by omega), if_pos h2]
        rw [e0]
        clear e0
        replace hM := hide hM
        go_enter Tryz.func38, Tryz.ntmps38
        go_upto_region 1 with fail
        rw [← hW0]
        clear hW0
        go_wp2_with fail
        refine hN.out.mono ?_
        rintro e w1 ⟨rfl, hk1⟩
        clear q0 q1 q2 q3 q4
        obtain ⟨q0, q1, q2, q3, q4⟩ := (hb0.out.kept hk1 (by simp)).at
        go_wp2_with fail
        go_ret
        exact ⟨rfl, hk0.trans hk1 (by simp)⟩
      · have e0 : atG r k = 0 := by unfold atG; rw [hM, if_neg (by omega), if_neg h2]
        rw [e0]
        clear e0
        replace hM := hide hM
        go_enter Tryz.func38, Tryz.ntmps38
        go_upto_region 1 with fail
        rw [← hW0]
        clear hW0
        go_wp2_with fail
        refine hN.out.mono ?_
        rintro e w1 ⟨rfl, hk1⟩
        clear q0 q1 q2 q3 q4
        obtain ⟨q0, q1, q2, q3, q4⟩ := (hb0.out.kept hk1 (by simp)).at
        go_wp2_with fail
        go_ret
        exact ⟨rfl, hk0.trans hk1 (by simp)⟩
theorem at_zero {r : Rg} {k : Int} (h : atG r k = 0) : 0 ≤ k ∧ k < (r.next : Int) ∧ (r.first : Int) ≤ k := by
  unfold atG at h
  split at h
  · cases h
  · split at h
    · cases h
    · omega
/-- What Get returns: a line that lies where it lay. -/
def RgGetRet (r : Rg) (k : Int) (vs : List LnA) (w : World) (e : Ending) (w' : World) : Prop := ∃ v, e = .returned (.tuple #[.agg #[.slice v.a v.n v.c, .bool v.s], .int .i64 (getG r k).2]) ∧ LnAt w' v (getG r k).1 ∧ (∀ y ∈ blkN v.a v.n, y ∈ blks vs) ∧ Kept [] w w'
set_option maxHeartbeats 4000000 in
theorem rGet8_any (r : Rg) (k : Int) (a : Option Addr) (n c : Nat) (vs : List LnA) (ap : Option Addr) (np cp : Nat) (w : World) (hr : LnsR w a n vs r.ls) (hb : r.first + n ≤ 1000000000) :
    Calls Tryz.prog 10 #[.agg #[.int .i64 (r.limit : Nat), .int .i64 (r.places : Nat), .int .i64 (r.first : Nat), .slice a n c, .slice ap np cp], .int .i64 k] w (RgGetRet r k vs w) := by
  obtain ⟨W0, hW0⟩ : ∃ z : World, z = (w.alloc (.cells #[.int .i64 (r.limit : Nat), .int .i64 (r.places : Nat), .int .i64 (r.first : Nat), .slice a n c, .slice ap np cp] 33)).alloc (.cells #[.slice none 0 0, .bool false] 36) := ⟨_, rfl⟩
  have hk0 : Kept [] w W0 := by rw [hW0]; exact ((Kept.refl [] w).alloc _).alloc _
  have hb0 : Hid (RgIn W0 w.heap.size r.limit r.places r.first a n c ap np cp) := hide (by rw [hW0]; exact (RgIn.new w r.limit r.places r.first a n c ap np cp).kept ((Kept.refl [] _).alloc _) (by simp))
  have hz0 : Hid (LinIn W0 (w.heap.size + 1) none 0 0 false) := hide (by rw [hW0]; exact heap_new_at (by simp))
  have hl := hr.len
  have hvl := hr.vlen
  have hAt := hide (rat8_any r k a n c ap np cp W0 hl hb)
  have hR := hide (hr.kept hk0 (by simp) (by simp))
  have hLt := hide hr.at'.lt
  obtain ⟨q0, q1, q2, q3, q4⟩ := hb0.out.at
  by_cases h0 : atG r k = 0
  · have hg : getG r k = (r.ls.getD (k.toNat - r.first) noLn, 0) := by unfold getG; rw [if_pos h0]
    obtain ⟨z1, z2, z3⟩ := at_zero h0
    have hnx : r.next = r.first + n := by unfold Rg.next; rw [hl]
    obtain ⟨d, hd⟩ : ∃ d : Nat, k.toNat - r.first = d := ⟨_, rfl⟩
    have hdn : d < n := by omega
    have hdl : d < r.ls.length := by omega
    have hdv : d < vs.length := by omega
    have hkd : IntKind.i64.wrap (k - (r.first : Int)) = (d : Int) := by rw [IntKind.wrap_i64]; omega
    have hdi : (d : Int) < (n : Int) := by omega
    obtain ⟨g, o, rfl⟩ := hr.rd.rowAddr rowLn (by omega)
    have hrow := hide (fun w1 (hk : Kept [] W0 w1) => (hR.out.kept hk (by simp) (by simp)).rd.row rowLn d hdv)
    have hat := hide (fun w1 (hk : Kept [] W0 w1) => (hR.out.kept hk (by simp) (by simp)).at'.get d hdv hdl)
    have hmem := hide (List.getElem_mem hdv)
    rw [hd, List.getD_eq_getElem?_getD, List.getElem?_eq_getElem hdl, Option.getD_some] at hg
    unfold RgGetRet
    rw [hg]
    rw [h0] at hAt
    generalize r.ls[d] = y at *
    generalize hvv : vs[d] = v at *
    replace hvv := hide hvv
    clear hr hg h0 hd hnx z1 z2 z3
    go_enter Tryz.func10, Tryz.ntmps10
    go_upto_region 1 with fail
    rw [← hW0]
    clear hW0
    go_wp2_with fail
    refine hAt.out.mono ?_
    rintro e w1 ⟨rfl, hk1⟩
    clear q0 q1 q2 q3 q4
    obtain ⟨q0, q1, q2, q3, q4⟩ := (hb0.out.kept hk1 (by simp)).at
    go_upto_region 4 with fail
    go_wp2_with (first | refine wpList_load_mid rfl 36 _ rfl g (o + d * 2) rfl (lnV v) _ (hrow.out w1 hk1) Tryz.underlying36 rfl (by kernel_rfl) ?_ | refine wpList_store_lin rfl rfl rfl (w.heap.size + 1) rfl (hz0.out.kept hk1 (by simp)) v.a v.n v.c v.s rfl ?_; intro w7 hb7 hk7)
    refine bodyPost_ret (results_lin2 rfl rfl hb7 rfl) rfl ?_
    have hkW : Kept [w.heap.size + 1] W0 w7 := (hk1.mono (by simp)).trans hk7 (fun y hy => .inl hy)
    have hk : Kept [] w w7 := hk0.trans hkW (by intro y hy; simp at hy; omega)
    have hbl : ∀ y ∈ blkN v.a v.n, y ∈ blks vs := blks_mem hmem.out
    exact ⟨v, rfl, (hat.out w1 hk1).kept hk7 (fun y hy hm => by simp at hm; have := hLt.out y (hbl y hy); omega), hbl, hk⟩
  · have hg : getG r k = (noLn, atG r k) := by unfold getG; rw [if_neg h0]
    obtain ⟨z, hz⟩ : ∃ z : Int, atG r k = z := ⟨_, rfl⟩
    rw [hz] at hg hAt
    have hz1 : (z != 0) = true := by rw [hz] at h0; simp [h0]
    unfold RgGetRet
    rw [hg]
    replace hz := hide hz
    clear hr hg h0
    go_enter Tryz.func10, Tryz.ntmps10
    go_upto_region 1 with fail
    rw [← hW0]
    clear hW0
    go_wp2_with fail
    refine hAt.out.mono ?_
    rintro e w1 ⟨rfl, hk1⟩
    go_wp2_with (refine wpList_store_lin rfl rfl rfl (w.heap.size + 1) rfl (hz0.out.kept hk1 (by simp)) none 0 0 false rfl ?_; intro w7 hb7 hk7)
    refine bodyPost_ret (results_lin2 rfl rfl hb7 rfl) rfl ?_
    have hkW : Kept [w.heap.size + 1] W0 w7 := (hk1.mono (by simp)).trans hk7 (fun y hy => .inl hy)
    exact ⟨noA, rfl, noA_at _, fun y hy => by simp [blkN, noA] at hy, hk0.trans hkW (by intro y hy; simp at hy; omega)⟩
/-- What Between returns: a part of the lines. -/
def RgBetRet (r : Rg) (f t : Int) (vs : List LnA) (w : World) (e : Ending) (w' : World) : Prop := ∃ a' n' c' vs', e = .returned (.tuple #[.slice a' n' c', .int .i64 (rangeG r f t).2]) ∧ LnsR w' a' n' vs' (rangeG r f t).1 ∧ n' ≤ c' ∧ c' ≤ maxLen ∧ (∀ v ∈ vs', v ∈ vs) ∧ Kept [] w w'
set_option maxHeartbeats 4000000 in
theorem rBetween8_any (r : Rg) (f t : Int) (a : Option Addr) (n c : Nat) (vs : List LnA) (ap : Option Addr) (np cp : Nat) (w : World) (hr : LnsR w a n vs r.ls) (hnc : n ≤ c) (hcm : c ≤ maxLen) (hb : r.first + n ≤ 1000000000) :
    Calls Tryz.prog 11 #[.agg #[.int .i64 (r.limit : Nat), .int .i64 (r.places : Nat), .int .i64 (r.first : Nat), .slice a n c, .slice ap np cp], .int .i64 f, .int .i64 t] w (RgBetRet r f t vs w) := by
  obtain ⟨W0, hW0⟩ : ∃ z : World, z = w.alloc (.cells #[.int .i64 (r.limit : Nat), .int .i64 (r.places : Nat), .int .i64 (r.first : Nat), .slice a n c, .slice ap np cp] 33) := ⟨_, rfl⟩
  have hk0 : Kept [] w W0 := by rw [hW0]; exact (Kept.refl [] w).alloc _
  have hb0 : Hid (RgIn W0 w.heap.size r.limit r.places r.first a n c ap np cp) := hide (by rw [hW0]; exact RgIn.new w r.limit r.places r.first a n c ap np cp)
  have hN := rNext8_any r.limit r.places r.first a n c ap np cp W0 hb
  have hl := hr.len
  have hnx : r.next = r.first + n := by unfold Rg.next; rw [hl]
  rw [← hnx] at hN
  obtain ⟨M, hM⟩ : ∃ M : Nat, r.next = M := ⟨_, rfl⟩
  rw [hM] at hN hnx
  have hN := hide hN
  have hR := hide (hr.kept hk0 (by simp) (by simp))
  obtain ⟨q0, q1, q2, q3, q4⟩ := hb0.out.at
  have R2 : ∀ (z : Int) (w' : World), rangeG r f t = ([], z) → Kept [] w w' → RgBetRet r f t vs w (.returned (.tuple #[.slice none 0 0, .int .i64 z])) w' := fun z w' he hk => ⟨none, 0, 0, [], by rw [he], by rw [he]; exact LnsR.nil _ _, Nat.le_refl _, Nat.zero_le _, fun v hv => (by cases hv), hk⟩
  have R2 := hide R2
  by_cases h0 : f < 0
  · have e0 : rangeG r f t = ([], 3) := by unfold rangeG; rw [if_pos (.inl h0)]
    go_enter Tryz.func11, Tryz.ntmps11
    go_upto_region 1 with fail
    rw [← hW0]
    clear hW0
    go_wp2_with fail
    refine bodyPost_ret (v := .tuple #[.slice none 0 0, .int .i64 3]) (by simp [results, Tryz.results11, go_sem]) rfl ?_
    exact R2.out 3 _ e0 hk0
  · by_cases h1 : f > t
    · have e0 : rangeG r f t = ([], 3) := by unfold rangeG; rw [if_pos (.inr (.inl h1))]
      go_enter Tryz.func11, Tryz.ntmps11
      go_upto_region 1 with fail
      rw [← hW0]
      clear hW0
      go_wp2_with fail
      refine bodyPost_ret (v := .tuple #[.slice none 0 0, .int .i64 3]) (by simp [results, Tryz.results11, go_sem]) rfl ?_
      exact R2.out 3 _ e0 hk0
    · by_cases h2 : t > (M : Int)
      · have e0 : rangeG r f t = ([], 3) := by unfold rangeG; rw [hM, if_pos (.inr (.inr h2))]
        replace hM := hide hM
        replace hnx := hide hnx
        go_enter Tryz.func11, Tryz.ntmps11
        go_upto_region 1 with fail
        rw [← hW0]
        clear hW0
        go_wp2_with fail
        refine hN.out.mono ?_
        rintro e w1 ⟨rfl, hk1⟩
        go_wp2_with fail
        refine bodyPost_ret (v := .tuple #[.slice none 0 0, .int .i64 3]) (by simp [results, Tryz.results11, go_sem]) rfl ?_
        exact R2.out 3 _ e0 (hk0.trans hk1 (by simp))
      · by_cases h3 : f < (r.first : Int)
        · have e0 : rangeG r f t = ([], 14) := by unfold rangeG; rw [hM, if_neg (by omega), if_pos h3]
          replace hM := hide hM
          replace hnx := hide hnx
          go_enter Tryz.func11, Tryz.ntmps11
          go_upto_region 1 with fail
          rw [← hW0]
          clear hW0
          go_wp2_with fail
          refine hN.out.mono ?_
          rintro e w1 ⟨rfl, hk1⟩
          clear q0 q1 q2 q3 q4
          obtain ⟨q0, q1, q2, q3, q4⟩ := (hb0.out.kept hk1 (by simp)).at
          go_wp2_with fail
          refine bodyPost_ret (v := .tuple #[.slice none 0 0, .int .i64 14]) (by simp [results, Tryz.results11, go_sem]) rfl ?_
          exact R2.out 14 _ e0 (hk0.trans hk1 (by simp))
        · obtain ⟨x, hx⟩ : ∃ x : Nat, f.toNat - r.first = x := ⟨_, rfl⟩
          obtain ⟨y, hy⟩ : ∃ y : Nat, t.toNat - r.first = y := ⟨_, rfl⟩
          have hxy : x ≤ y := by omega
          have hyn : y ≤ n := by omega
          have e0 : rangeG r f t = ((r.ls.take y).drop x, 0) := by unfold rangeG; rw [hM, if_neg (by omega), if_neg h3, hx, hy]
          have hfx : IntKind.i64.wrap (f - (r.first : Int)) = (x : Int) := by rw [IntKind.wrap_i64]; omega
          have hty : IntKind.i64.wrap (t - (r.first : Int)) = (y : Int) := by rw [IntKind.wrap_i64]; omega
          obtain ⟨a2, c2, hc1, hc2, hcut, hcr⟩ := rows_slice_lh (P := Tryz.prog) rowLn Tryz.underlying30 szLr a n c x y hxy hyn hnc hcm
          have hcr := hide hcr
          have hA0 := hide hr.at'
          replace hM := hide hM
          replace hnx := hide hnx
          replace hx := hide hx
          replace hy := hide hy
          have e0 := hide e0
          go_enter Tryz.func11, Tryz.ntmps11
          go_upto_region 1 with fail
          rw [← hW0]
          clear hW0
          go_wp2_with fail
          refine hN.out.mono ?_
          rintro e w1 ⟨rfl, hk1⟩
          clear q0 q1 q2 q3 q4
          obtain ⟨q0, q1, q2, q3, q4⟩ := (hb0.out.kept hk1 (by simp)).at
          go_wp2_with fail
          refine bodyPost_ret (v := .tuple #[.slice a2 (y - x) c2, .int .i64 0]) (by simp [results, Tryz.results11, go_sem]) rfl ?_
          have hk := hk0.trans hk1 (by simp)
          exact ⟨a2, y - x, c2, (vs.take y).drop x, by rw [e0.out], by rw [e0.out]; exact ⟨hcr.out _ _ (hR.out.kept hk1 (by simp) (by simp)).rd, ((hA0.out.kept hk (by simp)).take y).drop x⟩, hc1, hc2, fun v hv => List.mem_of_mem_take (List.mem_of_mem_drop hv), hk⟩
/-- What a function returns that returns a ring and a number: lines and pages lie where they lay, or in new blocks. -/
def RgGive2 (w : World) (a : Option Addr) (n : Nat) (vs : List LnA) (ap : Option Addr) (np : Nat) (r : Rg) (z : Int) (e : Ending) (w' : World) : Prop :=
  ∃ a' n' c' vs' ap' np' cp', e = .returned (.tuple #[.agg #[.int .i64 (r.limit : Nat), .int .i64 (r.places : Nat), .int .i64 (r.first : Nat), .slice a' n' c', .slice ap' np' cp'], .int .i64 z]) ∧ LnsR w' a' n' vs' r.ls ∧ Rd w' ap' np' 2 (rowsV paV r.ps) ∧ n' ≤ c' ∧ c' ≤ maxLen ∧ np' ≤ cp' ∧ cp' ≤ maxLen ∧ Kept [] w w' ∧ (∀ y ∈ blkN a' n', y ∈ blkN a n ∨ w.heap.size ≤ y) ∧ (∀ y ∈ blkN ap' np', y ∈ blkN ap np ∨ w.heap.size ≤ y) ∧ (∀ y ∈ blks vs', y ∈ blks vs ∨ w.heap.size ≤ y)
set_option maxHeartbeats 4000000 in
theorem rLimited8_any (r : Rg) (k : Int) (a : Option Addr) (n c : Nat) (vs : List LnA) (ap : Option Addr) (np cp : Nat) (w : World) (hr : LnsR w a n vs r.ls) (hp : Rd w ap np 2 (rowsV paV r.ps)) (hnc : n ≤ c) (hcm : c ≤ maxLen) (hnc2 : np ≤ cp) (hcm2 : cp ≤ maxLen) (hs : sumP r.ps = r.ls.length) (hf : fullP r.places r.ps) (hn : n ≤ 10000000) (hnp : np ≤ 10000000) (hfi : r.first ≤ 1000000000) (hpl : r.places ≤ 1024) :
    Calls Tryz.prog 31 #[.agg #[.int .i64 (r.limit : Nat), .int .i64 (r.places : Nat), .int .i64 (r.first : Nat), .slice a n c, .slice ap np cp], .int .i64 k] w (RgGive2 w a n vs ap np (limitG r k).1 (limitG r k).2) := by
  obtain ⟨W0, hW0⟩ : ∃ z : World, z = (w.alloc (.cells #[.int .i64 (r.limit : Nat), .int .i64 (r.places : Nat), .int .i64 (r.first : Nat), .slice a n c, .slice ap np cp] 33)).alloc (.cells #[.int .i64 0, .int .i64 0, .int .i64 0, .slice none 0 0, .slice none 0 0] 33) := ⟨_, rfl⟩
  have hk0 : Kept [] w W0 := by rw [hW0]; exact ((Kept.refl [] w).alloc _).alloc _
  have hb0 : Hid (RgIn W0 w.heap.size r.limit r.places r.first a n c ap np cp) := hide (by rw [hW0]; exact (RgIn.new w r.limit r.places r.first a n c ap np cp).kept ((Kept.refl [] _).alloc _) (by simp))
  have hz0 : Hid (RgIn W0 (w.heap.size + 1) 0 0 0 none 0 0 none 0 0) := hide (by rw [hW0]; exact heap_new_at (by simp))
  have hs0 : w.heap.size + 1 < W0.heap.size := hz0.out.lt
  have hH := hide (And.intro hr hp)
  have bad : limitG r k = (r, 2) → ∀ w5, Kept [] w w5 → RgGive2 w a n vs ap np (limitG r k).1 (limitG r k).2 (.returned (.tuple #[.agg #[.int .i64 (r.limit : Nat), .int .i64 (r.places : Nat), .int .i64 (r.first : Nat), .slice a n c, .slice ap np cp], .int .i64 2])) w5 := fun he w5 hk => by
    rw [he]
    exact ⟨a, n, c, vs, ap, np, cp, rfl, hr.kept hk (by simp) (by simp), hp.kept hk (by simp), hnc, hcm, hnc2, hcm2, hk, fun y hy => .inl hy, fun y hy => .inl hy, fun y hy => .inl hy⟩
  have bad := hide bad
  obtain ⟨q0, q1, q2, q3, q4⟩ := hb0.out.at
  by_cases h0 : k < 0
  · have e0 := hide (show limitG r k = (r, 2) by unfold limitG; rw [if_pos (.inl h0)])
    go_enter Tryz.func31, Tryz.ntmps31
    go_upto_region 1 with fail
    rw [← hW0]
    clear hW0
    go_wp2_with (refine wpList_store_rg rfl rfl rfl (w.heap.size + 1) rfl hz0.out r.limit r.places r.first a n c ap np cp rfl ?_; intro w5 hb5 j5)
    refine bodyPost_ret (results_rg2 rfl rfl hb5 rfl) rfl ?_
    exact bad.out e0.out _ (hk0.trans j5 (by simp))
  · by_cases h1 : k > 1048576
    · have e0 := hide (show limitG r k = (r, 2) by unfold limitG; rw [if_pos (.inr h1)])
      go_enter Tryz.func31, Tryz.ntmps31
      go_upto_region 1 with fail
      rw [← hW0]
      clear hW0
      go_wp2_with (refine wpList_store_rg rfl rfl rfl (w.heap.size + 1) rfl hz0.out r.limit r.places r.first a n c ap np cp rfl ?_; intro w5 hb5 j5)
      refine bodyPost_ret (results_rg2 rfl rfl hb5 rfl) rfl ?_
      exact bad.out e0.out _ (hk0.trans j5 (by simp))
    · obtain ⟨K, rfl⟩ : ∃ K : Nat, k = K := ⟨k.toNat, by omega⟩
      have e0 := hide (show limitG r (K : Int) = ((⟨K, r.places, r.first, r.ls, r.ps⟩ : Rg).evict, 0) by unfold limitG; rw [if_neg (by omega)]; rfl)
      have f0 := hb0.out.froz 0
      rw [e0.out]
      go_enter Tryz.func31, Tryz.ntmps31
      go_upto_region 1 with fail
      rw [← hW0]
      clear hW0
      go_upto_region 4 with fail
      have i4 := hb0.out.setM (K : Int)
      have j4 : Kept [w.heap.size] W0 (W0.setCell ⟨w.heap.size, 0, none⟩ (.int .i64 (K : Int))) := (Kept.refl _ _).setCell (.inl (by simp)) _
      clear q0 q1 q2 q3 q4 f0
      generalize W0.setCell ⟨w.heap.size, 0, none⟩ (.int .i64 (K : Int)) = w4 at *
      obtain ⟨q0, q1, q2, q3, q4⟩ := i4.at
      have hk4 : Kept [] w w4 := hk0.trans j4 (by intro y hy; simp at hy; omega)
      have hz4 := hide (hz0.out.kept j4 (by simp))
      have hE := revict8_any ⟨K, r.places, r.first, r.ls, r.ps⟩ a n c vs ap np cp w4 (hH.out.1.kept hk4 (by simp) (by simp)) (hH.out.2.kept hk4 (by simp)) hs hf hn hnp hfi hpl
      have hE := hide hE
      go_wp2_with fail
      refine hE.out.mono ?_
      rintro e w6 ⟨a', n', c', vs', ap', np', cp', rfl, g1, g2, g3, g4, g5, g6, g7, g8, g9, g10⟩
      generalize (⟨K, r.places, r.first, r.ls, r.ps⟩ : Rg).evict = R at *
      go_wp2_with (refine wpList_store_rg rfl rfl rfl (w.heap.size + 1) rfl (hz4.out.kept g7 (by simp)) R.limit R.places R.first a' n' c' ap' np' cp' rfl ?_; intro w5 hb5 j5)
      refine bodyPost_ret (results_rg2 rfl rfl hb5 rfl) rfl ?_
      have hw4 := j4.size
      have hbs : ∀ y ∈ blks vs', y ∈ blks vs := blks_sub g10
      have hlt := hH.out.1.at'.lt
      have hn1 : w.heap.size + 1 ∉ blkN a' n' := fun hm => by have := g8 _ hm; omega
      have hn2 : w.heap.size + 1 ∉ blks vs' := fun hm => by have := hlt _ (hbs _ hm); omega
      have hn3 : w.heap.size + 1 ∉ blkN ap' np' := fun hm => by have := g9 _ hm; omega
      exact ⟨a', n', c', vs', ap', np', cp', rfl, ⟨g1.rd.keptB j5 hn1, g1.at'.kept j5 (fun y hy hm => by simp at hm; subst hm; exact hn2 hy)⟩, g2.keptB j5 hn3, g3, g4, g5, g6, (hk4.trans g7 (by simp)).trans j5 (by intro y hy; simp at hy; omega), fun y hy => .inr (by have := g8 y hy; have := hk4.size; omega), fun y hy => .inr (by have := g9 y hy; have := hk4.size; omega), fun y hy => .inl (hbs y hy)⟩
end Go.Proofs.YtnkddhmhjnhgcaaGreatDoor
namespace Go.Proofs.YtnkddhmhjnhgcaaGreatDoor
open Go.RowKit
set_option linter.unusedVariables false
set_option maxRecDepth 100000

section
variable {α : Type} {f : α → List Value} {k : Nat}
theorem Mid.cellLast (h : RowOf f k) {w : World} {g o n c : Nat} {qs : List α} {q : α} (hm : Mid w (some ⟨g, o, none⟩) n c k (rowsV f (qs ++ [q]))) {j : Nat} {u : Value} (hu : (f q)[j]? = some u) : w.cell? ⟨g, o + (qs.length * k + j), none⟩ = some u ∧ w.frozen? ⟨g, o + (qs.length * k + j), none⟩ = false :=
  hm.cellAt h (i := qs.length) (by simp) (by simpa using hu)
theorem Mid.setLast (h : RowOf f k) {w : World} {g o n c : Nat} {qs : List α} {q : α} (hm : Mid w (some ⟨g, o, none⟩) n c k (rowsV f (qs ++ [q]))) {j : Nat} (hj : j < k) {v : Value} {d : α} (hd : f d = (f q).set j v) :
    Mid (w.setCell ⟨g, o + (qs.length * k + j), none⟩ v) (some ⟨g, o, none⟩) n c k (rowsV f (qs ++ [d])) := by
  have := hm.setOne h (i := qs.length) (j := j) (v := v) (d := d) (by simp) hj (by simpa using hd)
  simpa using this
end
theorem wp_store_rg {op : Oper} {A : Act} {w : World} {K : Act → World → Prop} {Q : Exit → Act → World → Prop} {x y : Operand} (ho : op.op = .store 33 x y) (hd : op.dst = none) (b : Nat) (hx : A.eval x = .pointer (some ⟨b, 0, none⟩)) {lim pl fi : Int} {a : Option Addr} {n c : Nat} {ap : Option Addr} {np cp : Nat} (hb : RgIn w b lim pl fi a n c ap np cp)
    (lim' pl' fi' : Int) (a' : Option Addr) (n' c' : Nat) (ap' : Option Addr) (np' cp' : Nat) (hy : A.eval y = .agg #[.int .i64 lim', .int .i64 pl', .int .i64 fi', .slice a' n' c', .slice ap' np' cp']) (h : ∀ w', RgIn w' b lim' pl' fi' a' n' c' ap' np' cp' → Kept [b] w w' → K A w') : op.wp Tryz.prog A w K Q :=
  wp_store_row 33 x y ho b #[.int .i64 lim', .int .i64 pl', .int .i64 fi', .slice a' n' c', .slice ap' np' cp'] hx hy 33 _ hb (by kernel_rfl) rfl (oneRg lim' pl' fi' a' n' c' ap' np' cp') (by rw [hd]; exact h _ (setRow_heap w b _ _ _ _ hb) ((Kept.refl [b] w).setRow (.inl (by simp)) _))
theorem results_rg3 {fn : Func} {q u t : Tmp} {tmps : Array Value} {W : World} {b b2 : Nat} {lim pl fi : Int} {a : Option Addr} {n c : Nat} {ap : Option Addr} {np cp : Nat} {a2 : Option Addr} {n2 c2 : Nat} {s2 : Bool} (h : fn.results = #[.cell q 33, .cell u 36, .tmp t]) (hp : tmps.getD q undef = .pointer (some ⟨b, 0, none⟩)) (hu : tmps.getD u undef = .pointer (some ⟨b2, 0, none⟩)) (hc : RgIn W b lim pl fi a n c ap np cp) (hc2 : LinIn W b2 a2 n2 c2 s2) {v : Value} (ht : tmps.getD t undef = v) :
    (results fn tmps).run Tryz.prog W = .ok (.tuple #[.agg #[.int .i64 lim, .int .i64 pl, .int .i64 fi, .slice a n c, .slice ap np cp], .agg #[.slice a2 n2 c2, .bool s2], v]) W := by
  have hl := run_loadVar_mid (P := Tryz.prog) W b 0 33 (rgL lim pl fi a n c ap np cp) _ hc.range Tryz.underlying33 rfl (by kernel_rfl)
  have hl2 := run_loadVar_mid (P := Tryz.prog) W b2 0 36 (linL a2 n2 c2 s2) _ hc2.range Tryz.underlying36 rfl (by kernel_rfl)
  rw [Array.getD_eq_getD_getElem?] at hp hu ht
  simp [results, h, hp, hu, ht, asAddr, hl, hl2, rgL, linL]
set_option maxHeartbeats 4000000 in
theorem rClear8_any (r : Rg) (a : Option Addr) (n c : Nat) (ap : Option Addr) (np cp : Nat) (w : World) (hn : r.ls.length = n) (hb : r.first + n ≤ 1000000000) :
    Calls Tryz.prog 32 #[.agg #[.int .i64 (r.limit : Nat), .int .i64 (r.places : Nat), .int .i64 (r.first : Nat), .slice a n c, .slice ap np cp]] w fun e w' => e = .returned (.agg #[.int .i64 ((clearG r).limit : Nat), .int .i64 ((clearG r).places : Nat), .int .i64 ((clearG r).first : Nat), .slice none 0 0, .slice none 0 0]) ∧ Kept [] w w' := by
  obtain ⟨W0, hW0⟩ : ∃ z : World, z = (w.alloc (.cells #[.int .i64 (r.limit : Nat), .int .i64 (r.places : Nat), .int .i64 (r.first : Nat), .slice a n c, .slice ap np cp] 33)).alloc (.cells #[.int .i64 0, .int .i64 0, .int .i64 0, .slice none 0 0, .slice none 0 0] 33) := ⟨_, rfl⟩
  have hk0 : Kept [] w W0 := by rw [hW0]; exact ((Kept.refl [] w).alloc _).alloc _
  have hb0 : Hid (RgIn W0 w.heap.size r.limit r.places r.first a n c ap np cp) := hide (by rw [hW0]; exact (RgIn.new w r.limit r.places r.first a n c ap np cp).kept ((Kept.refl [] _).alloc _) (by simp))
  have hz0 : Hid (RgIn W0 (w.heap.size + 1) 0 0 0 none 0 0 none 0 0) := hide (by rw [hW0]; exact heap_new_at (by simp))
  have hN := fun w1 => rNext8_any r.limit r.places r.first a n c ap np cp w1 hb
  have hnx : r.first + n = r.next := by unfold Rg.next; rw [hn]
  rw [hnx] at hN
  have hN := hide hN
  show Calls _ _ _ _ fun e w' => e = .returned (.agg #[.int .i64 (r.limit : Nat), .int .i64 (r.places : Nat), .int .i64 (r.next : Nat), .slice none 0 0, .slice none 0 0]) ∧ Kept [] w w'
  generalize r.next = M at *
  replace hnx := hide hnx
  have hF : ∀ {W : World}, Kept [] W0 W → RgIn W w.heap.size r.limit r.places r.first a n c ap np cp ∧ W.cell? ⟨w.heap.size, 0, none⟩ = some (.int .i64 (r.limit : Nat)) ∧ W.cell? ⟨w.heap.size, 1, none⟩ = some (.int .i64 (r.places : Nat)) := fun hk => ⟨hb0.out.kept hk (by simp), (hb0.out.kept hk (by simp)).at.1, (hb0.out.kept hk (by simp)).at.2.1⟩
  go_enter Tryz.func32, Tryz.ntmps32
  go_upto_region 1 with fail
  rw [← hW0]
  clear hW0
  refine wp_region_held_drew (S := (fun W => RgIn W w.heap.size r.limit r.places r.first a n c ap np cp ∧ W.cell? ⟨w.heap.size, 0, none⟩ = some (.int .i64 (r.limit : Nat)) ∧ W.cell? ⟨w.heap.size, 1, none⟩ = some (.int .i64 (r.places : Nat)))) (by kernel_rfl) ?_ (fun hHeld => ?_)
  · (try dsimp only); (first | exact hS9 | exact hF k2 | exact hF (Kept.refl [] W0).drew)
  refine wpAnyH_take (i := 0) (v := ?_) rfl (by kernel_rfl) (by kernel_rfl) (by kernel_rfl) (fun _ _ _ h => h) (Or.inl ⟨by rfl, ?_⟩) (by assumption) ?_
  rotate_left
  · (intro wq hSw; (try dsimp only at hSw); go_simp; try with_reducible rfl)
  try simp only [Act.put, List.getElem_toArray, List.getElem_cons_zero, List.setIfInBounds_toArray, List.set_cons_zero, List.set_cons_succ]
  refine wpAnyH_take (i := 1) (v := ?_) rfl (by kernel_rfl) (by kernel_rfl) (by kernel_rfl) (fun _ _ _ h => h) (Or.inl ⟨by rfl, ?_⟩) (by assumption) ?_
  rotate_left
  · (intro wq hSw; (try dsimp only at hSw); go_simp; try with_reducible rfl)
  try simp only [Act.put, List.getElem_toArray, List.getElem_cons_succ, List.getElem_cons_zero, List.setIfInBounds_toArray, List.set_cons_zero, List.set_cons_succ]
  refine wpAnyH_take (i := 2) (v := ?_) rfl (by kernel_rfl) (by kernel_rfl) (by kernel_rfl) (fun _ _ _ h => h) (Or.inl ⟨by rfl, ?_⟩) (by assumption) ?_
  rotate_left
  · (intro wq hSw; (try dsimp only at hSw); go_simp; try with_reducible rfl)
  try simp only [Act.put, List.getElem_toArray, List.getElem_cons_succ, List.getElem_cons_zero, List.setIfInBounds_toArray, List.set_cons_zero, List.set_cons_succ]
  refine wpAnyH_take (i := 3) (v := ?_) rfl (by kernel_rfl) (by kernel_rfl) (by kernel_rfl) (fun _ _ _ h => h) (Or.inl ⟨by rfl, ?_⟩) (by assumption) ?_
  rotate_left
  · (intro wq hSw; (try dsimp only at hSw); go_simp; try with_reducible rfl)
  try simp only [Act.put, List.getElem_toArray, List.getElem_cons_succ, List.getElem_cons_zero, List.setIfInBounds_toArray, List.set_cons_zero, List.set_cons_succ]
  refine wpAnyH_take (i := 4) (v := (.agg #[.int .i64 (r.limit : Nat), .int .i64 (r.places : Nat), .int .i64 (r.first : Nat), .slice a n c, .slice ap np cp])) rfl (by kernel_rfl) (by kernel_rfl) (by kernel_rfl) (fun _ _ _ h => h) (yieldsIf_load_mid (by rfl) 33 _ rfl w.heap.size 0 rfl (rgL r.limit r.places r.first a n c ap np cp) _ (fun _ h => h.1.range) Tryz.underlying33 rfl (by kernel_rfl)) (by assumption) ?_
  try simp only [Act.put, List.getElem_toArray, List.getElem_cons_succ, List.getElem_cons_zero, List.setIfInBounds_toArray, List.set_cons_zero, List.set_cons_succ]
  refine wpAnyH_ready (rs := [5]) (by kernel_rfl) (by simp) ?_
  refine AllReadyH.cons rfl (fun K hK => ?_) AllReadyH.nil
  go_simp
  refine (hN.out _).mono ?_; rintro e w2 ⟨rfl, j2⟩; have k2 : Kept [] W0 w2 := (Kept.refl [] W0).drew.trans j2 (by simp)
  try go_wp2_with fail
  refine hK.out _ _ ?_ (fun hHeld => ?_)
  · (try dsimp only); (first | exact hS9 | exact hF k2 | exact hF (Kept.refl [] W0).drew)
  clear hK K
  try simp only [Act.put, List.getElem_toArray, List.getElem_cons_succ, List.getElem_cons_zero, List.setIfInBounds_toArray, List.set_cons_zero, List.set_cons_succ]
  refine wpAnyH_take (i := 6) (v := ?_) rfl (by kernel_rfl) (by kernel_rfl) (by kernel_rfl) (fun _ _ _ h => h) (Or.inl ⟨by rfl, ?_⟩) (by assumption) ?_
  rotate_left
  · (intro wq hSw; (try dsimp only at hSw); go_simp; try with_reducible rfl)
  try simp only [Act.put, List.getElem_toArray, List.getElem_cons_succ, List.getElem_cons_zero, List.setIfInBounds_toArray, List.set_cons_zero, List.set_cons_succ]
  refine wpAnyH_ready (rs := [7]) (by kernel_rfl) (by simp) ?_
  refine AllReadyH.cons rfl (fun K hK => ?_) AllReadyH.nil
  rw [if_pos (by rfl)]
  refine wp_store_rg rfl rfl (w.heap.size + 1) rfl (hz0.out.kept k2 (by simp)) r.limit r.places (M : Nat) none 0 0 none 0 0 rfl ?_; intro w9 hb99 j9; have hS9 := And.intro ((hF k2).1.kept j9 (by simp)) (And.intro (j9.cell (hF k2).2.1 (by simp)) (j9.cell (hF k2).2.2 (by simp)))
  refine hK.out _ _ ?_ (fun hHeld => ?_)
  · (try dsimp only); (first | exact hS9 | exact hF k2 | exact hF (Kept.refl [] W0).drew)
  clear hK K
  try simp only [Act.put, List.getElem_toArray, List.getElem_cons_succ, List.getElem_cons_zero, List.setIfInBounds_toArray, List.set_cons_zero, List.set_cons_succ]
  refine wpAnyH_done (by kernel_rfl) ?_ _
  go_wp2_with fail
  refine bodyPost_ret (results_rg rfl rfl hb99) rfl ?_
  exact ⟨rfl, (hk0.trans k2 (by simp)).trans j9 (by intro y hy; simp at hy; omega)⟩
end Go.Proofs.YtnkddhmhjnhgcaaGreatDoor
