/- The reference's pages in boxes; its functions Room and with. -/
import Derived.Test.YtpeedjknjjbabaaDoorLnsMem
import Derived.Test.YtpeedjknjjbabaaDoorLinRef2
namespace Go.Proofs.YtpeedjknjjbabaaDoor
open Go.RowKit
set_option linter.unusedVariables false
set_option maxRecDepth 100000

/-- A page of the reference in a box. -/
def ShIn (W : World) (b : Nat) (p g : Int) (a : Option Addr) (n c : Nat) : Prop := W.heap[b]? = some (.cells #[.int .i64 p, .int .i64 g, .slice a n c] 32 (0, 0))
theorem ShIn.new (w : World) (p g : Int) (a : Option Addr) (n c : Nat) : ShIn (w.alloc (.cells #[.int .i64 p, .int .i64 g, .slice a n c] 32)) w.heap.size p g a n c := heap_alloc_new w _
theorem ShIn.kept {S : List Nat} {w w' : World} {b : Nat} {p g : Int} {a : Option Addr} {n c : Nat} (h : ShIn w b p g a n c) (hk : Kept S w w') (hb : b ∉ S) : ShIn w' b p g a n c := hk.heap h hb
theorem ShIn.at {w : World} {b : Nat} {p g : Int} {a : Option Addr} {n c : Nat} (h : ShIn w b p g a n c) : w.cell? ⟨b, 0, none⟩ = some (.int .i64 p) ∧ w.cell? ⟨b, 1, none⟩ = some (.int .i64 g) ∧ w.cell? ⟨b, 2, none⟩ = some (.slice a n c) := by
  have e := fun j => cell_of_row w b j _ _ _ h
  exact ⟨e 0, e 1, e 2⟩
theorem ShIn.lt {w : World} {b : Nat} {p g : Int} {a : Option Addr} {n c : Nat} (h : ShIn w b p g a n c) : b < w.heap.size := World.block_lt_of_cell? w _ h.at.1
def shL (p g : Int) (a : Option Addr) (n c : Nat) : List Value := [.int .i64 p, .int .i64 g, .slice a n c]
theorem ShIn.range {w : World} {b : Nat} {p g : Int} {a : Option Addr} {n c : Nat} (h : ShIn w b p g a n c) : w.rangeAt b 0 (shL p g a n c) := fun j v hv => by
  rw [cell_of_row w b (0 + j) _ _ _ h, Nat.zero_add]
  simpa [shL] using hv
theorem oneSh (p g : Int) (a : Option Addr) (n c : Nat) : (#[Value.int .i64 p, Value.int .i64 g, Value.slice a n c] : Array Value).all (·.oneCell') = true := by simp [Value.oneCell']
theorem wpList_store_sh {ops : Array Oper} {rest : List Oper} {op : Oper} {A : Act} {w : World} {Q : Exit → Act → World → Prop} {x y : Operand} (ho : op.op = .store 32 x y) (hgd : op.guard = none) (hd : op.dst = none) (b : Nat) (hx : A.eval x = .pointer (some ⟨b, 0, none⟩)) {p g : Int} {a : Option Addr} {n c : Nat} (hb : ShIn w b p g a n c)
    (p' g' : Int) (a' : Option Addr) (n' c' : Nat) (hy : A.eval y = .agg #[.int .i64 p', .int .i64 g', .slice a' n' c']) (h : ∀ w', ShIn w' b p' g' a' n' c' → Kept [b] w w' → wpList Tryd.prog ops Q rest A w') : wpList Tryd.prog ops Q (op :: rest) A w :=
  wpList_store_rowTo hgd 32 x y ho hd b #[.int .i64 p', .int .i64 g', .slice a' n' c'] hx hy 32 _ hb (by kernel_rfl) rfl (oneSh p' g' a' n' c') (h _ (setRow_heap w b _ _ _ _ hb) ((Kept.refl [b] w).setRow (.inl (by simp)) _))
theorem wp_store_sh {op : Oper} {A : Act} {w : World} {K : Act → World → Prop} {Q : Exit → Act → World → Prop} {x y : Operand} (ho : op.op = .store 32 x y) (hd : op.dst = none) (b : Nat) (hx : A.eval x = .pointer (some ⟨b, 0, none⟩)) {p g : Int} {a : Option Addr} {n c : Nat} (hb : ShIn w b p g a n c)
    (p' g' : Int) (a' : Option Addr) (n' c' : Nat) (hy : A.eval y = .agg #[.int .i64 p', .int .i64 g', .slice a' n' c']) (h : ∀ w', ShIn w' b p' g' a' n' c' → Kept [b] w w' → K A w') : op.wp Tryd.prog A w K Q :=
  wp_store_row 32 x y ho b #[.int .i64 p', .int .i64 g', .slice a' n' c'] hx hy 32 _ hb (by kernel_rfl) rfl (oneSh p' g' a' n' c') (by rw [hd]; exact h _ (setRow_heap w b _ _ _ _ hb) ((Kept.refl [b] w).setRow (.inl (by simp)) _))
theorem results_sh {fn : Func} {q : Tmp} {tmps : Array Value} {W : World} {b : Nat} {p g : Int} {a : Option Addr} {n c : Nat} (h : fn.results = #[.cell q 32]) (hp : tmps.getD q undef = .pointer (some ⟨b, 0, none⟩)) (hc : ShIn W b p g a n c) :
    (results fn tmps).run Tryd.prog W = .ok (.agg #[.int .i64 p, .int .i64 g, .slice a n c]) W := by
  have hl := run_loadVar_mid (P := Tryd.prog) W b 0 32 (shL p g a n c) _ hc.range Tryd.underlying32 rfl (by kernel_rfl)
  rw [Array.getD_eq_getD_getElem?] at hp
  simp [results, h, hp, asAddr, hl, shL]
theorem results_sh2 {fn : Func} {q u : Tmp} {tmps : Array Value} {W : World} {b : Nat} {p g : Int} {a : Option Addr} {n c : Nat} (h : fn.results = #[.cell q 32, .tmp u]) (hp : tmps.getD q undef = .pointer (some ⟨b, 0, none⟩)) (hc : ShIn W b p g a n c) {v : Value} (hu : tmps.getD u undef = v) :
    (results fn tmps).run Tryd.prog W = .ok (.tuple #[.agg #[.int .i64 p, .int .i64 g, .slice a n c], v]) W := by
  have hl := run_loadVar_mid (P := Tryd.prog) W b 0 32 (shL p g a n c) _ hc.range Tryd.underlying32 rfl (by kernel_rfl)
  rw [Array.getD_eq_getD_getElem?] at hp hu
  simp [results, h, hp, hu, asAddr, hl, shL]

set_option maxHeartbeats 1000000 in
theorem rRoom_any (p g : Nat) (a : Option Addr) (n c : Nat) (w : World) (h : g + n ≤ p) (hp : p ≤ 100000) :
    Calls Tryd.prog 34 #[.agg #[.int .i64 p, .int .i64 g, .slice a n c]] w fun e w' => e = .returned (.int .i64 ((p - g - n : Nat) : Int)) ∧ Kept [] w w' := by
  have hk0 : Kept [] w (w.alloc (.cells #[.int .i64 p, .int .i64 g, .slice a n c] 32)) := (Kept.refl [] w).alloc _
  have h1 : IntKind.i64.wrap ((p : Int) - (g : Int)) = (p : Int) - (g : Int) := by rw [IntKind.wrap_i64]; omega
  have h2 : IntKind.i64.wrap ((p : Int) - (g : Int) - (n : Int)) = (p : Int) - (g : Int) - (n : Int) := by rw [IntKind.wrap_i64]; omega
  have h3 : ((p - g - n : Nat) : Int) = (p : Int) - (g : Int) - (n : Int) := by omega
  rw [h3]
  clear h3
  go_enter Tryd.func34, Tryd.ntmps34
  go_wp2_with fail
  go_ret
  exact ⟨rfl, hk0⟩

set_option maxHeartbeats 1000000 in
theorem rWith_any (p g : Int) (a : Option Addr) (n c : Nat) (a2 : Option Addr) (n2 c2 : Nat) (w : World) :
    Calls Tryd.prog 43 #[.agg #[.int .i64 p, .int .i64 g, .slice a n c], .slice a2 n2 c2] w fun e w' => e = .returned (.agg #[.int .i64 p, .int .i64 g, .slice a2 n2 c2]) ∧ Kept [] w w' := by
  obtain ⟨W0, hW0⟩ : ∃ z : World, z = (w.alloc (.cells #[.int .i64 p, .int .i64 g, .slice a n c] 32)).alloc (.cells #[.int .i64 0, .int .i64 0, .slice none 0 0] 32) := ⟨_, rfl⟩
  have hk0 : Kept [] w W0 := by rw [hW0]; exact ((Kept.refl [] w).alloc _).alloc _
  have hb0 : Hid (ShIn W0 w.heap.size p g a n c) := hide (by rw [hW0]; exact (ShIn.new w p g a n c).kept ((Kept.refl [] _).alloc _) (by simp))
  have hz0 : Hid (ShIn W0 (w.heap.size + 1) 0 0 none 0 0) := hide (by rw [hW0]; exact heap_new_at (by simp))
  go_enter Tryd.func43, Tryd.ntmps43
  go_upto_region 1 with fail
  rw [← hW0]
  clear hW0
  obtain ⟨q0, q1, q2⟩ := hb0.out.at
  go_wp2_with (refine wpList_store_sh rfl rfl rfl (w.heap.size + 1) rfl hz0.out p g a2 n2 c2 rfl ?_; intro w7 hb7 hk7)
  refine bodyPost_ret (results_sh rfl rfl hb7) rfl ?_
  exact ⟨rfl, hk0.trans hk7 (by simp)⟩
end Go.Proofs.YtpeedjknjjbabaaDoor
