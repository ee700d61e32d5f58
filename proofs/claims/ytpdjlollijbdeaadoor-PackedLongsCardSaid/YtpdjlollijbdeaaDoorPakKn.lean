/- The examples of the chapter. -/
import Derived.Test.YtpdjlollijbdeaaDoorPakLaw1
import Derived.Test.YtpdjlollijbdeaaDoorCelSt
import Derived.Test.YtpdjlollijbdeaaDoorCelMark
namespace Go.Proofs.YtpdjlollijbdeaaDoor
open Go.RowKit
set_option linter.unusedVariables false
set_option linter.unusedSimpArgs false

def kA : Cl := ⟨97, 0, 0, 0, 1, zeroP⟩
def kE : Cl := ⟨0, 0, 0, 0, 1, zeroP⟩
def kW : Cl := ⟨19968, 0, 0, 0, 2, zeroP⟩
def kM : Cl := ⟨97, 769, 0, 0, 1, zeroP⟩
def x6 : W3 := ⟨0, 2097249, 0⟩
def x7 : W3 := ⟨0, 2097152, 0⟩
def x8 : W3 := ⟨0, 4214272, 0⟩
structure Kn5 (W : World) (b1 b2 b3 b4 b5 b6 b7 b8 : Nat) : Prop where
  c1 : CelIn W b1 kA
  c2 : CelIn W b2 kE
  c3 : CelIn W b3 kW
  c4 : CelIn W b4 zeroK
  c5 : CelIn W b5 kM
  w6 : W3In W b6 x6
  w7 : W3In W b7 x7
  w8 : W3In W b8 x8
theorem Kn5.kept {w w' : World} {b1 b2 b3 b4 b5 b6 b7 b8 : Nat} (k : Kn5 w b1 b2 b3 b4 b5 b6 b7 b8) (hk : Kept [] w w') : Kn5 w' b1 b2 b3 b4 b5 b6 b7 b8 :=
  ⟨k.c1.kept hk (by simp), k.c2.kept hk (by simp), k.c3.kept hk (by simp), k.c4.kept hk (by simp), k.c5.kept hk (by simp), k.w6.kept hk (by simp), k.w7.kept hk (by simp), k.w8.kept hk (by simp)⟩
theorem zeroP_b : PnB zeroP := ⟨⟨byte_zero, byte_zero, byte_zero, byte_zero⟩, ⟨byte_zero, byte_zero, byte_zero, byte_zero⟩, byte_zero⟩
theorem w3b {a b c : Int} (h : (decide (0 ≤ a ∧ a < 18446744073709551616) && decide (0 ≤ b ∧ b < 18446744073709551616) && decide (0 ≤ c ∧ c < 18446744073709551616)) = true) : W3B ⟨a, b, c⟩ := by
  simp only [Bool.and_eq_true, decide_eq_true_eq] at h
  exact ⟨h.1.1, h.1.2, h.2⟩
theorem x6_b : W3B x6 := w3b (by decide)
theorem x7_b : W3B x7 := w3b (by decide)
theorem x8_b : W3B x8 := w3b (by decide)
theorem zw_b : W3B zeroW := w3b (by decide)
theorem rub {n : Int} {w : W3} (h : decide (-9223372036854775808 ≤ n ∧ n ≤ 9223372036854775807) = true) (hw : W3B w) : RuB ⟨n, w⟩ := by
  have h2 : -9223372036854775808 ≤ n ∧ n ≤ 9223372036854775807 := of_decide_eq_true h
  exact ⟨h2, hw⟩
theorem all_nil {α : Type} {P : α → Prop} : ∀ x ∈ ([] : List α), P x := by simp
theorem all_cons {α : Type} {P : α → Prop} {x : α} {l : List α} (h : P x) (t : ∀ y ∈ l, P y) : ∀ y ∈ x :: l, P y := by
  intro y hy
  rcases List.mem_cons.1 hy with rfl | hy
  · exact h
  · exact t y hy
theorem count_ask (l : List Ru) (v : Int) (hv : (totI l).1 = v) (a : Option Addr) (n c : Nat) (hB : ∀ r ∈ l, RuB r) (w : World) (ht : Tabs w) (hr : Rd w a n 4 (runsV l)) (hn : n ≤ 1000000) :
    Calls Tryd.prog 21 #[.slice a n c] w fun e w' => e = .returned (.int .i64 v) ∧ Kept [] w w' := by
  subst hv
  exact Count5_any a n c l hB w ht hr hn
theorem valid5_ask (l : List Ru) (v : Bool) (hv : (totI l).2 = v) (a : Option Addr) (n c : Nat) (hB : ∀ r ∈ l, RuB r) (w : World) (ht : Tabs w) (hr : Rd w a n 4 (runsV l)) (hn : n ≤ 1000000) :
    Calls Tryd.prog 20 #[.slice a n c] w fun e w' => e = .returned (.bool v) ∧ Kept [] w w' := by
  subst hv
  exact Valid5_any a n c l hB w ht hr hn
theorem share3 {F : Value → Value → World → Prop} {G : Value → Value → World → Prop} {goal : Prop} (k : (∀ a b W, F a b W → G a b W) → goal) (h : ∀ a b W, F a b W → G a b W) : goal := k h
theorem rd2 {w : World} {g : Nat} {l : List Ru} {cur : Array Value} {fr : Nat × Nat} (hg : w.heap[g]? = some (.cells cur 67 fr)) (hc : cur.toList = runsV l) : Rd w (some ⟨g, 0, none⟩) l.length 4 (runsV l) := Rd.ofBlock rowRun hg hc

set_option maxHeartbeats 40000000 in
set_option maxRecDepth 100000 in
theorem known5_any (w : World) (ht : Tabs w) : Calls Tryd.prog 11 #[] w fun e w' => e = .returned (.bool true) ∧ Kept [] w w' := by
  have ht0 := hide ht
  clear ht
  go_enter Tryd.func11, Tryd.ntmps11
  obtain ⟨W1, hW1⟩ : ∃ z : World, z = (((w.alloc (.cells #[.int .i32 0, .int .i32 0, .int .i32 0, .int .i32 0, .int .i64 0, .int .i64 0, .int .u8 0, .int .u8 0, .int .u8 0, .int .u8 0, .int .i64 0, .int .u8 0, .int .u8 0, .int .u8 0, .int .u8 0, .int .u8 0] 30)).alloc (.cells #[.int .i32 0, .int .i32 0, .int .i32 0, .int .i32 0, .int .i64 0, .int .i64 0, .int .u8 0, .int .u8 0, .int .u8 0, .int .u8 0, .int .i64 0, .int .u8 0, .int .u8 0, .int .u8 0, .int .u8 0, .int .u8 0] 30)).alloc (.cells #[.int .i32 0, .int .i32 0, .int .i32 0, .int .i32 0, .int .i64 0, .int .i64 0, .int .u8 0, .int .u8 0, .int .u8 0, .int .u8 0, .int .i64 0, .int .u8 0, .int .u8 0, .int .u8 0, .int .u8 0, .int .u8 0] 30)).alloc (.cells #[.int .i32 0, .int .i32 0, .int .i32 0, .int .i32 0, .int .i64 0, .int .i64 0, .int .u8 0, .int .u8 0, .int .u8 0, .int .u8 0, .int .i64 0, .int .u8 0, .int .u8 0, .int .u8 0, .int .u8 0, .int .u8 0] 30) := ⟨_, rfl⟩
  have hk1 : Kept [] w W1 := by rw [hW1]; exact ((((Kept.refl [] w).alloc _).alloc _).alloc _).alloc _
  have z1 : CelIn W1 w.heap.size zeroK := by rw [hW1]; exact CelIn.kept (heap_alloc_new w _) ((((Kept.refl [] _).alloc _).alloc _).alloc _) (by simp)
  have z2 : CelIn W1 (w.heap.size + 1) zeroK := by rw [hW1]; exact CelIn.kept (heap_new_at (by simp)) (((Kept.refl [] _).alloc _).alloc _) (by simp)
  have z3 : CelIn W1 (w.heap.size + 1 + 1) zeroK := by rw [hW1]; exact CelIn.kept (heap_new_at (by simp)) ((Kept.refl [] _).alloc _) (by simp)
  have z4 : CelIn W1 (w.heap.size + 1 + 1 + 1) zeroK := by rw [hW1]; exact heap_new_at (by simp)
  go_upto_region 2 with (first
    | (refine wpList_store_cel rfl rfl rfl (w.heap.size + 1 + 1 + 1) rfl z4d zeroK rfl ?_; intro W5 h4 j5)
    | (refine wpList_store_cel rfl rfl rfl (w.heap.size + 1 + 1) rfl z3c kW rfl ?_; intro W4 h3 j4; have z4d := z4c.kept j4 (by simp <;> omega))
    | (refine wpList_store_cel rfl rfl rfl (w.heap.size + 1) rfl z2b kE rfl ?_; intro W3 h2 j3; have z3c := z3b.kept j3 (by simp <;> omega); have z4c := z4b.kept j3 (by simp <;> omega))
    | (rw [← hW1]; refine wpList_store_cel rfl rfl rfl w.heap.size rfl z1 kA rfl ?_; intro W2 h1 j2; have z2b := z2.kept j2 (by simp <;> omega); have z3b := z3.kept j2 (by simp <;> omega); have z4b := z4.kept j2 (by simp <;> omega)))
  have kk2 : Kept [] w W2 := hk1.trans j2 (by intro z hz; simp at hz; omega)
  have kk3 : Kept [] w W3 := kk2.trans j3 (by intro z hz; simp at hz; omega)
  have kk4 : Kept [] w W4 := kk3.trans j4 (by intro z hz; simp at hz; omega)
  have kk5 : Kept [] w W5 := kk4.trans j5 (by intro z hz; simp at hz; omega)
  have c1 := ((h1.kept j3 (by simp <;> omega)).kept j4 (by simp <;> omega)).kept j5 (by simp <;> omega)
  have c2 := (h2.kept j4 (by simp <;> omega)).kept j5 (by simp <;> omega)
  have c3 := h3.kept j5 (by simp <;> omega)
  have c4 := h4
  clear hW1 hk1 z1 z2 z3 z4 z2b z3b z4b z3c z4c z4d h1 h2 h3 h4 j2 j3 j4 j5 kk2 kk3 kk4
  generalize hb1 : w.heap.size = b1 at *
  generalize hb2 : b1 + 1 = b2 at *
  generalize hb3 : b2 + 1 = b3 at *
  generalize hb4 : b3 + 1 = b4 at *
  clear hb1 hb2 hb3 hb4
  have l1 := c1.lt
  have l2 := c2.lt
  have l3 := c3.lt
  have l4 := c4.lt
  have r1 := c1.range
  have z5 := CelIn.new W5 zeroK
  go_upto_region 3 with (first
    | (refine wpList_load_cel rfl rfl b1 0 rfl r1 ?_)
    | (refine wpList_store_cel rfl rfl rfl W5.heap.size rfl z5 kA rfl ?_; intro W6 h5 j6))
  have hk6 : Kept [] W5 W6 := ((Kept.refl [] W5).alloc _).trans j6 (by intro z hz; simp at hz; omega)
  obtain ⟨q0, q1, _⟩ := h5.at
  obtain ⟨f0, f1, _⟩ := h5.froz
  have hs5 := kk5.size
  have m5 : CelIn (W6.setCell ⟨W5.heap.size, 1, none⟩ (.int .i32 769)) W5.heap.size kM := h5.mark0 769
  have j7 : Kept [W5.heap.size] W6 (W6.setCell ⟨W5.heap.size, 1, none⟩ (.int .i32 769)) := (Kept.refl _ W6).setCell (.inl (by simp)) _
  have hk7 : Kept [] W5 (W6.setCell ⟨W5.heap.size, 1, none⟩ (.int .i32 769)) := hk6.trans j7 (by intro z hz; simp at hz; omega)
  go_upto_region 4 with fail
  generalize W6.setCell ⟨W5.heap.size, 1, none⟩ (.int .i32 769) = W7 at *
  have c1 := c1.kept hk7 (by simp)
  have c2 := c2.kept hk7 (by simp)
  have c3 := c3.kept hk7 (by simp)
  have c4 := c4.kept hk7 (by simp)
  have kk7 := kk5.trans hk7 (by simp)
  clear q0 q1 f0 f1 j6 j7 h5 hk6 hk7 r1 z5 kk5 l1 l2 l3 l4 hs5
  generalize W5.heap.size = b5 at *
  obtain ⟨W8, hW8⟩ : ∃ z : World, z = ((W7.alloc (.cells #[.int .u64 0, .int .u64 0, .int .u64 0] 34)).alloc (.cells #[.int .u64 0, .int .u64 0, .int .u64 0] 34)).alloc (.cells #[.int .u64 0, .int .u64 0, .int .u64 0] 34) := ⟨_, rfl⟩
  have hk8 : Kept [] W7 W8 := by rw [hW8]; exact (((Kept.refl [] W7).alloc _).alloc _).alloc _
  have y6 : W3In W8 W7.heap.size zeroW := by rw [hW8]; exact W3In.kept (heap_alloc_new W7 _) (((Kept.refl [] _).alloc _).alloc _) (by simp)
  have y7 : W3In W8 (W7.heap.size + 1) zeroW := by rw [hW8]; exact W3In.kept (heap_new_at (by simp)) ((Kept.refl [] _).alloc _) (by simp)
  have y8 : W3In W8 (W7.heap.size + 1 + 1) zeroW := by rw [hW8]; exact heap_new_at (by simp)
  go_upto_region 5 with (first
    | (refine wpList_store_w3 rfl rfl rfl (W7.heap.size + 1 + 1) rfl y8b x8 rfl ?_; intro W11 h8 j11)
    | (refine wpList_store_w3 rfl rfl rfl (W7.heap.size + 1) rfl y7a x7 rfl ?_; intro W10 h7 j10; have y8b := y8a.kept j10 (by simp <;> omega))
    | (rw [← hW8]; refine wpList_store_w3 rfl rfl rfl W7.heap.size rfl y6 x6 rfl ?_; intro W9 h6 j9; have y7a := y7.kept j9 (by simp <;> omega); have y8a := y8.kept j9 (by simp <;> omega)))
  have n9 : Kept [] W7 W9 := hk8.trans j9 (by intro z hz; simp at hz; omega)
  have n10 : Kept [] W7 W10 := n9.trans j10 (by intro z hz; simp at hz; omega)
  have n11 : Kept [] W7 W11 := n10.trans j11 (by intro z hz; simp at hz; omega)
  have hN11 := hide (Kn5.mk (c1.kept n11 (by simp)) (c2.kept n11 (by simp)) (c3.kept n11 (by simp)) (c4.kept n11 (by simp)) (m5.kept n11 (by simp)) ((h6.kept j10 (by simp <;> omega)).kept j11 (by simp <;> omega)) (h7.kept j11 (by simp <;> omega)) h8)
  have hK11 := hide (kk7.trans n11 (by simp))
  clear c1 c2 c3 c4 m5 kk7 hk8 y6 y7 y8 y7a y8a y8b h6 h7 h8 j9 j10 j11 n9 n10 n11 hW8
  generalize hb6 : W7.heap.size = b6 at *
  generalize hb7 : b6 + 1 = b7 at *
  generalize hb8 : b7 + 1 = b8 at *
  clear hb6 hb7 hb8
  have rc1 := hN11.out.c1.range
  have rc2 := hN11.out.c2.range
  have rc3 := hN11.out.c3.range
  have rc4 := hN11.out.c4.range
  have rc5 := hN11.out.c5.range
  obtain ⟨p60, p61, p62⟩ := hN11.out.w6.at
  obtain ⟨p70, p71, p72⟩ := hN11.out.w7.at
  obtain ⟨p80, p81, p82⟩ := hN11.out.w8.at
  go_wp2_with (first | refine wpList_load_celW rfl (by rfl) b1 0 rfl rc1 ?_ | refine wpList_load_celW rfl (by rfl) b2 0 rfl rc2 ?_ | refine wpList_load_celW rfl (by rfl) b3 0 rfl rc3 ?_ | refine wpList_load_celW rfl (by rfl) b4 0 rfl rc4 ?_ | refine wpList_load_celW rfl (by rfl) b5 0 rfl rc5 ?_)
  refine (words_ask kA zeroP_b x6 0 true (by decide +kernel) _ (ht0.out.kept hK11.out)).mono ?_
  rintro e W12 ⟨rfl, hj12⟩
  have hN12 := hide (hN11.out.kept hj12)
  have hK12 := hide (hK11.out.trans hj12 (by simp))
  clear hj12 hN11 hK11
  clear rc1 rc2 rc3 rc4 rc5 p60 p61 p62 p70 p71 p72 p80 p81 p82
  have rc1 := hN12.out.c1.range
  have rc2 := hN12.out.c2.range
  have rc3 := hN12.out.c3.range
  have rc4 := hN12.out.c4.range
  have rc5 := hN12.out.c5.range
  obtain ⟨p60, p61, p62⟩ := hN12.out.w6.at
  obtain ⟨p70, p71, p72⟩ := hN12.out.w7.at
  obtain ⟨p80, p81, p82⟩ := hN12.out.w8.at
  go_wp2_with (first | refine wpList_load_celW rfl (by rfl) b1 0 rfl rc1 ?_ | refine wpList_load_celW rfl (by rfl) b2 0 rfl rc2 ?_ | refine wpList_load_celW rfl (by rfl) b3 0 rfl rc3 ?_ | refine wpList_load_celW rfl (by rfl) b4 0 rfl rc4 ?_ | refine wpList_load_celW rfl (by rfl) b5 0 rfl rc5 ?_)
  refine (words_ask kE zeroP_b x7 0 true (by decide +kernel) _ (ht0.out.kept hK12.out)).mono ?_
  rintro e W13 ⟨rfl, hj13⟩
  have hN13 := hide (hN12.out.kept hj13)
  have hK13 := hide (hK12.out.trans hj13 (by simp))
  clear hj13 hN12 hK12
  clear rc1 rc2 rc3 rc4 rc5 p60 p61 p62 p70 p71 p72 p80 p81 p82
  have rc1 := hN13.out.c1.range
  have rc2 := hN13.out.c2.range
  have rc3 := hN13.out.c3.range
  have rc4 := hN13.out.c4.range
  have rc5 := hN13.out.c5.range
  obtain ⟨p60, p61, p62⟩ := hN13.out.w6.at
  obtain ⟨p70, p71, p72⟩ := hN13.out.w7.at
  obtain ⟨p80, p81, p82⟩ := hN13.out.w8.at
  go_wp2_with (first | refine wpList_load_celW rfl (by rfl) b1 0 rfl rc1 ?_ | refine wpList_load_celW rfl (by rfl) b2 0 rfl rc2 ?_ | refine wpList_load_celW rfl (by rfl) b3 0 rfl rc3 ?_ | refine wpList_load_celW rfl (by rfl) b4 0 rfl rc4 ?_ | refine wpList_load_celW rfl (by rfl) b5 0 rfl rc5 ?_)
  refine (words_ask kW zeroP_b x8 0 true (by decide +kernel) _ (ht0.out.kept hK13.out)).mono ?_
  rintro e W14 ⟨rfl, hj14⟩
  have hN14 := hide (hN13.out.kept hj14)
  have hK14 := hide (hK13.out.trans hj14 (by simp))
  clear hj14 hN13 hK13
  clear rc1 rc2 rc3 rc4 rc5 p60 p61 p62 p70 p71 p72 p80 p81 p82
  have rc1 := hN14.out.c1.range
  have rc2 := hN14.out.c2.range
  have rc3 := hN14.out.c3.range
  have rc4 := hN14.out.c4.range
  have rc5 := hN14.out.c5.range
  obtain ⟨p60, p61, p62⟩ := hN14.out.w6.at
  obtain ⟨p70, p71, p72⟩ := hN14.out.w7.at
  obtain ⟨p80, p81, p82⟩ := hN14.out.w8.at
  go_wp2_with (first | refine wpList_load_celW rfl (by rfl) b1 0 rfl rc1 ?_ | refine wpList_load_celW rfl (by rfl) b2 0 rfl rc2 ?_ | refine wpList_load_celW rfl (by rfl) b3 0 rfl rc3 ?_ | refine wpList_load_celW rfl (by rfl) b4 0 rfl rc4 ?_ | refine wpList_load_celW rfl (by rfl) b5 0 rfl rc5 ?_)
  refine (words_ask zeroK zeroP_b zeroW 0 true (by decide +kernel) _ (ht0.out.kept hK14.out)).mono ?_
  rintro e W15 ⟨rfl, hj15⟩
  have hN15 := hide (hN14.out.kept hj15)
  have hK15 := hide (hK14.out.trans hj15 (by simp))
  clear hj15 hN14 hK14
  clear rc1 rc2 rc3 rc4 rc5 p60 p61 p62 p70 p71 p72 p80 p81 p82
  have rc1 := hN15.out.c1.range
  have rc2 := hN15.out.c2.range
  have rc3 := hN15.out.c3.range
  have rc4 := hN15.out.c4.range
  have rc5 := hN15.out.c5.range
  obtain ⟨p60, p61, p62⟩ := hN15.out.w6.at
  obtain ⟨p70, p71, p72⟩ := hN15.out.w7.at
  obtain ⟨p80, p81, p82⟩ := hN15.out.w8.at
  go_wp2_with (first | refine wpList_load_celW rfl (by rfl) b1 0 rfl rc1 ?_ | refine wpList_load_celW rfl (by rfl) b2 0 rfl rc2 ?_ | refine wpList_load_celW rfl (by rfl) b3 0 rfl rc3 ?_ | refine wpList_load_celW rfl (by rfl) b4 0 rfl rc4 ?_ | refine wpList_load_celW rfl (by rfl) b5 0 rfl rc5 ?_)
  refine (words_ask kM zeroP_b ⟨0, 2097249, 769⟩ 0 true (by decide +kernel) _ (ht0.out.kept hK15.out)).mono ?_
  rintro e W16 ⟨rfl, hj16⟩
  have hN16 := hide (hN15.out.kept hj16)
  have hK16 := hide (hK15.out.trans hj16 (by simp))
  clear hj16 hN15 hK15
  clear rc1 rc2 rc3 rc4 rc5 p60 p61 p62 p70 p71 p72 p80 p81 p82
  have rc1 := hN16.out.c1.range
  have rc2 := hN16.out.c2.range
  have rc3 := hN16.out.c3.range
  have rc4 := hN16.out.c4.range
  have rc5 := hN16.out.c5.range
  obtain ⟨p60, p61, p62⟩ := hN16.out.w6.at
  obtain ⟨p70, p71, p72⟩ := hN16.out.w7.at
  obtain ⟨p80, p81, p82⟩ := hN16.out.w8.at
  have z9 := CelIn.new W16 zeroK
  go_upto_region 8 with (refine wpList_store_cel rfl rfl rfl W16.heap.size rfl z9 zeroK rfl ?_; intro W17 h9 j9)
  have hj9 : Kept [] W16 W17 := ((Kept.refl [] W16).alloc _).trans j9 (by intro z hz; simp at hz; omega)
  have hN17 := hide (hN16.out.kept hj9)
  have hK17 := hide (hK16.out.trans hj9 (by simp))
  have hz17 := hide h9
  clear hj9 j9 z9 h9 hN16 hK16
  clear rc1 rc2 rc3 rc4 rc5 p60 p61 p62 p70 p71 p72 p80 p81 p82
  generalize W16.heap.size = b9 at *
  have rc1 := hN17.out.c1.range
  have rc2 := hN17.out.c2.range
  have rc3 := hN17.out.c3.range
  have rc4 := hN17.out.c4.range
  have rc5 := hN17.out.c5.range
  obtain ⟨p60, p61, p62⟩ := hN17.out.w6.at
  obtain ⟨p70, p71, p72⟩ := hN17.out.w7.at
  obtain ⟨p80, p81, p82⟩ := hN17.out.w8.at
  have rz := hz17.out.range
  go_wp2_with (first | refine wpList_load_celW rfl (by rfl) b1 0 rfl rc1 ?_ | refine wpList_load_celW rfl (by rfl) b2 0 rfl rc2 ?_ | refine wpList_load_celW rfl (by rfl) b3 0 rfl rc3 ?_ | refine wpList_load_celW rfl (by rfl) b4 0 rfl rc4 ?_ | refine wpList_load_celW rfl (by rfl) b5 0 rfl rc5 ?_ | refine wpList_load_celW rfl (by rfl) b9 0 rfl rz ?_)
  refine (cell_ask x6 x6_b kA 0 true (by decide +kernel) _ (ht0.out.kept hK17.out)).mono ?_
  rintro e W18 ⟨rfl, hj18⟩
  have hN18 := hide (hN17.out.kept hj18)
  have hK18 := hide (hK17.out.trans hj18 (by simp))
  have hz18 := hide (hz17.out.kept hj18 (by simp))
  clear hj18 hN17 hK17
  clear rc1 rc2 rc3 rc4 rc5 p60 p61 p62 p70 p71 p72 p80 p81 p82
  clear hz17 rz
  have rc1 := hN18.out.c1.range
  have rc2 := hN18.out.c2.range
  have rc3 := hN18.out.c3.range
  have rc4 := hN18.out.c4.range
  have rc5 := hN18.out.c5.range
  obtain ⟨p60, p61, p62⟩ := hN18.out.w6.at
  obtain ⟨p70, p71, p72⟩ := hN18.out.w7.at
  obtain ⟨p80, p81, p82⟩ := hN18.out.w8.at
  have rz := hz18.out.range
  go_wp2_with (first | refine wpList_load_celW rfl (by rfl) b1 0 rfl rc1 ?_ | refine wpList_load_celW rfl (by rfl) b2 0 rfl rc2 ?_ | refine wpList_load_celW rfl (by rfl) b3 0 rfl rc3 ?_ | refine wpList_load_celW rfl (by rfl) b4 0 rfl rc4 ?_ | refine wpList_load_celW rfl (by rfl) b5 0 rfl rc5 ?_ | refine wpList_load_celW rfl (by rfl) b9 0 rfl rz ?_)
  refine (cell_ask ⟨0, 97, 0⟩ (w3b (by decide)) zeroK 12 true (by decide +kernel) _ (ht0.out.kept hK18.out)).mono ?_
  rintro e W19 ⟨rfl, hj19⟩
  have hN19 := hide (hN18.out.kept hj19)
  have hK19 := hide (hK18.out.trans hj19 (by simp))
  have hz19 := hide (hz18.out.kept hj19 (by simp))
  clear hj19 hN18 hK18
  clear rc1 rc2 rc3 rc4 rc5 p60 p61 p62 p70 p71 p72 p80 p81 p82
  clear hz18 rz
  have rc1 := hN19.out.c1.range
  have rc2 := hN19.out.c2.range
  have rc3 := hN19.out.c3.range
  have rc4 := hN19.out.c4.range
  have rc5 := hN19.out.c5.range
  obtain ⟨p60, p61, p62⟩ := hN19.out.w6.at
  obtain ⟨p70, p71, p72⟩ := hN19.out.w7.at
  obtain ⟨p80, p81, p82⟩ := hN19.out.w8.at
  have rz := hz19.out.range
  go_wp2_with (first | refine wpList_load_celW rfl (by rfl) b1 0 rfl rc1 ?_ | refine wpList_load_celW rfl (by rfl) b2 0 rfl rc2 ?_ | refine wpList_load_celW rfl (by rfl) b3 0 rfl rc3 ?_ | refine wpList_load_celW rfl (by rfl) b4 0 rfl rc4 ?_ | refine wpList_load_celW rfl (by rfl) b5 0 rfl rc5 ?_ | refine wpList_load_celW rfl (by rfl) b9 0 rfl rz ?_)
  refine (cell_ask ⟨1, 2097152, 0⟩ (w3b (by decide)) zeroK 12 true (by decide +kernel) _ (ht0.out.kept hK19.out)).mono ?_
  rintro e W20 ⟨rfl, hj20⟩
  have hN20 := hide (hN19.out.kept hj20)
  have hK20 := hide (hK19.out.trans hj20 (by simp))
  have hz20 := hide (hz19.out.kept hj20 (by simp))
  clear hj20 hN19 hK19
  clear rc1 rc2 rc3 rc4 rc5 p60 p61 p62 p70 p71 p72 p80 p81 p82
  clear hz19 rz
  have rc1 := hN20.out.c1.range
  have rc2 := hN20.out.c2.range
  have rc3 := hN20.out.c3.range
  have rc4 := hN20.out.c4.range
  have rc5 := hN20.out.c5.range
  obtain ⟨p60, p61, p62⟩ := hN20.out.w6.at
  obtain ⟨p70, p71, p72⟩ := hN20.out.w7.at
  obtain ⟨p80, p81, p82⟩ := hN20.out.w8.at
  have rz := hz20.out.range
  go_wp2_with (first | refine wpList_load_celW rfl (by rfl) b1 0 rfl rc1 ?_ | refine wpList_load_celW rfl (by rfl) b2 0 rfl rc2 ?_ | refine wpList_load_celW rfl (by rfl) b3 0 rfl rc3 ?_ | refine wpList_load_celW rfl (by rfl) b4 0 rfl rc4 ?_ | refine wpList_load_celW rfl (by rfl) b5 0 rfl rc5 ?_ | refine wpList_load_celW rfl (by rfl) b9 0 rfl rz ?_)
  refine (cell_ask ⟨0, 8388608, 0⟩ (w3b (by decide)) zeroK 12 true (by decide +kernel) _ (ht0.out.kept hK20.out)).mono ?_
  rintro e W21 ⟨rfl, hj21⟩
  have hN21 := hide (hN20.out.kept hj21)
  have hK21 := hide (hK20.out.trans hj21 (by simp))
  have hz21 := hide (hz20.out.kept hj21 (by simp))
  clear hj21 hN20 hK20
  clear rc1 rc2 rc3 rc4 rc5 p60 p61 p62 p70 p71 p72 p80 p81 p82
  clear hz20 rz
  have rc1 := hN21.out.c1.range
  have rc2 := hN21.out.c2.range
  have rc3 := hN21.out.c3.range
  have rc4 := hN21.out.c4.range
  have rc5 := hN21.out.c5.range
  obtain ⟨p60, p61, p62⟩ := hN21.out.w6.at
  obtain ⟨p70, p71, p72⟩ := hN21.out.w7.at
  obtain ⟨p80, p81, p82⟩ := hN21.out.w8.at
  have rz := hz21.out.range
  go_wp2_with (first | refine wpList_load_celW rfl (by rfl) b1 0 rfl rc1 ?_ | refine wpList_load_celW rfl (by rfl) b2 0 rfl rc2 ?_ | refine wpList_load_celW rfl (by rfl) b3 0 rfl rc3 ?_ | refine wpList_load_celW rfl (by rfl) b4 0 rfl rc4 ?_ | refine wpList_load_celW rfl (by rfl) b5 0 rfl rc5 ?_ | refine wpList_load_celW rfl (by rfl) b9 0 rfl rz ?_)
  refine (cell_ask ⟨0, 2097152, 769⟩ (w3b (by decide)) zeroK 12 true (by decide +kernel) _ (ht0.out.kept hK21.out)).mono ?_
  rintro e W22 ⟨rfl, hj22⟩
  have hN22 := hide (hN21.out.kept hj22)
  have hK22 := hide (hK21.out.trans hj22 (by simp))
  have hz22 := hide (hz21.out.kept hj22 (by simp))
  clear hj22 hN21 hK21
  clear rc1 rc2 rc3 rc4 rc5 p60 p61 p62 p70 p71 p72 p80 p81 p82
  clear hz21 rz
  have rc1 := hN22.out.c1.range
  have rc2 := hN22.out.c2.range
  have rc3 := hN22.out.c3.range
  have rc4 := hN22.out.c4.range
  have rc5 := hN22.out.c5.range
  obtain ⟨p60, p61, p62⟩ := hN22.out.w6.at
  obtain ⟨p70, p71, p72⟩ := hN22.out.w7.at
  obtain ⟨p80, p81, p82⟩ := hN22.out.w8.at
  have rz := hz22.out.range
  go_wp2_with (first | refine wpList_load_celW rfl (by rfl) b1 0 rfl rc1 ?_ | refine wpList_load_celW rfl (by rfl) b2 0 rfl rc2 ?_ | refine wpList_load_celW rfl (by rfl) b3 0 rfl rc3 ?_ | refine wpList_load_celW rfl (by rfl) b4 0 rfl rc4 ?_ | refine wpList_load_celW rfl (by rfl) b5 0 rfl rc5 ?_ | refine wpList_load_celW rfl (by rfl) b9 0 rfl rz ?_)
  refine (words_ask ⟨97, 0, 0, 0, 2, zeroP⟩ zeroP_b zeroW 2 true (by decide +kernel) _ (ht0.out.kept hK22.out)).mono ?_
  rintro e W23 ⟨rfl, hj23⟩
  have hN23 := hide (hN22.out.kept hj23)
  have hK23 := hide (hK22.out.trans hj23 (by simp))
  have hz23 := hide (hz22.out.kept hj23 (by simp))
  clear hj23 hN22 hK22
  clear rc1 rc2 rc3 rc4 rc5 p60 p61 p62 p70 p71 p72 p80 p81 p82
  clear hz22 rz
  have rc1 := hN23.out.c1.range
  have rc2 := hN23.out.c2.range
  have rc3 := hN23.out.c3.range
  have rc4 := hN23.out.c4.range
  have rc5 := hN23.out.c5.range
  obtain ⟨p60, p61, p62⟩ := hN23.out.w6.at
  obtain ⟨p70, p71, p72⟩ := hN23.out.w7.at
  obtain ⟨p80, p81, p82⟩ := hN23.out.w8.at
  have rz := hz23.out.range
  go_upto_region 10 with fail
  clear rc1 rc2 rc3 rc4 rc5 p60 p61 p62 p70 p71 p72 p80 p81 p82
  clear rz hz23
  refine wp_region_held_drew (S := (fun w' => Kn5 w' b1 b2 b3 b4 b5 b6 b7 b8)) (by kernel_rfl) ?_ (fun hHeld => ?_)
  · (try dsimp only); (exact hN23.out.kept (Kept.refl [] _).drew)
  refine wpAnyH_take (i := 0) (v := .agg #[.int .u64 x6.a, .int .u64 x6.b, .int .u64 x6.c]) rfl (by kernel_rfl) (by kernel_rfl) (by kernel_rfl) (fun _ _ _ h => h) (yieldsIf_load_mid (by rfl) 34 _ rfl b6 0 rfl (w3L x6) _ (fun _ h => h.w6.range) Tryd.underlying34 rfl (by kernel_rfl)) (by assumption) ?_
  try simp only [Act.put, List.getElem_toArray, List.getElem_cons_succ, List.getElem_cons_zero, List.setIfInBounds_toArray, List.set_cons_zero, List.set_cons_succ]
  refine wpAnyH_take (i := 2) (v := .agg #[.int .u64 x7.a, .int .u64 x7.b, .int .u64 x7.c]) rfl (by kernel_rfl) (by kernel_rfl) (by kernel_rfl) (fun _ _ _ h => h) (yieldsIf_load_mid (by rfl) 34 _ rfl b7 0 rfl (w3L x7) _ (fun _ h => h.w7.range) Tryd.underlying34 rfl (by kernel_rfl)) (by assumption) ?_
  try simp only [Act.put, List.getElem_toArray, List.getElem_cons_succ, List.getElem_cons_zero, List.setIfInBounds_toArray, List.set_cons_zero, List.set_cons_succ]
  refine wpAnyH_ready (rs := [1]) (by kernel_rfl) (by simp) ?_
  refine AllReadyH.cons rfl (fun K hK => ?_) AllReadyH.nil
  go_simp
  refine (run_any 2 x6 _).mono ?_
  rintro e V100 ⟨rfl, hj100⟩
  try go_wp2_with fail
  refine hK.out _ _ ?_ (fun hHeld => ?_)
  · (try dsimp only); (exact hHeld.kept hj100)
  clear hK K
  try simp only [Act.put, List.getElem_toArray, List.getElem_cons_succ, List.getElem_cons_zero, List.setIfInBounds_toArray, List.set_cons_zero, List.set_cons_succ]
  have hK100 := hide ((hK23.out.drew).trans hj100 (by simp))
  refine wpAnyH_ready (rs := [3]) (by kernel_rfl) (by simp) ?_
  refine AllReadyH.cons rfl (fun K hK => ?_) AllReadyH.nil
  go_simp
  refine (run_any 1 x7 _).mono ?_
  rintro e V101 ⟨rfl, hj101⟩
  try go_wp2_with fail
  refine hK.out _ _ ?_ (fun hHeld => ?_)
  · (try dsimp only); (exact hHeld.kept hj101)
  clear hK K
  try simp only [Act.put, List.getElem_toArray, List.getElem_cons_succ, List.getElem_cons_zero, List.setIfInBounds_toArray, List.set_cons_zero, List.set_cons_succ]
  have hK101 := hide ((hK100.out).trans hj101 (by simp))
  refine wpAnyH_ready (rs := [4]) (by kernel_rfl) (by simp) ?_
  refine AllReadyH.cons rfl (fun K hK => ?_) AllReadyH.nil
  go_simp
  try go_wp2_with fail
  refine hK.out _ _ ?_ (fun hHeld => ?_)
  · (try dsimp only); (exact hHeld.kept ((Kept.refl [] _).alloc _))
  clear hK K
  try simp only [Act.put, List.getElem_toArray, List.getElem_cons_succ, List.getElem_cons_zero, List.setIfInBounds_toArray, List.set_cons_zero, List.set_cons_succ]
  have s11_0 : Hid (Rd (V101.alloc (.cells #[.int .i64 2, .int .u64 x6.a, .int .u64 x6.b, .int .u64 x6.c, .int .i64 1, .int .u64 x7.a, .int .u64 x7.b, .int .u64 x7.c] 67)) (some ⟨V101.heap.size, 0, none⟩) 2 4 (runsV [⟨2, x6⟩, ⟨1, x7⟩])) := hide (Rd.ofBlock rowRun (heap_new_at (w := V101) (by simp)) rfl)
  refine wpAnyH_ready (rs := [5]) (by kernel_rfl) (by simp) ?_
  refine AllReadyH.cons rfl (fun K hK => ?_) AllReadyH.nil
  go_simp
  refine (runs_any _ _ _ _).mono ?_
  rintro e w' ⟨rfl, rfl⟩
  try go_wp2_with fail
  refine hK.out _ _ ?_ (fun hHeld => ?_)
  · (try dsimp only); (exact hHeld)
  clear hK K
  try simp only [Act.put, List.getElem_toArray, List.getElem_cons_succ, List.getElem_cons_zero, List.setIfInBounds_toArray, List.set_cons_zero, List.set_cons_succ]
  refine wpAnyH_take (i := 6) (v := ?_) rfl (by kernel_rfl) (by kernel_rfl) (by kernel_rfl) (fun _ _ _ h => h) (Or.inl ⟨by rfl, ?_⟩) (by assumption) ?_
  rotate_left
  · (intro wq hSw; (try dsimp only at hSw); go_simp; try with_reducible rfl)
  try simp only [Act.put, List.getElem_toArray, List.getElem_cons_succ, List.getElem_cons_zero, List.setIfInBounds_toArray, List.set_cons_zero, List.set_cons_succ]
  refine wpAnyH_done (by kernel_rfl) ?_ _
  go_upto_region 11 with fail
  have hN50 := hide hHeld
  have hK50 := hide ((hK101.out).alloc (.cells #[.int .i64 2, .int .u64 x6.a, .int .u64 x6.b, .int .u64 x6.c, .int .i64 1, .int .u64 x7.a, .int .u64 x7.b, .int .u64 x7.c] 67))
  clear hHeld hK100 hK101 hj100 hj101 hN23 hK23
  generalize V101.alloc (.cells #[.int .i64 2, .int .u64 x6.a, .int .u64 x6.b, .int .u64 x6.c, .int .i64 1, .int .u64 x7.a, .int .u64 x7.b, .int .u64 x7.c] 67) = V0 at *
  generalize V101.heap.size = g11 at *
  refine wp_region_held_drew (S := (fun w' => Kn5 w' b1 b2 b3 b4 b5 b6 b7 b8)) (by kernel_rfl) ?_ (fun hHeld => ?_)
  · (try dsimp only); (exact hN50.out.kept (Kept.refl [] _).drew)
  refine wpAnyH_take (i := 0) (v := .agg #[.int .i32 kA.r, .int .i32 kA.m0, .int .i32 kA.m1, .int .i32 kA.m2, .int .i64 kA.w, .int .i64 kA.p.f.k, .int .u8 kA.p.f.i, .int .u8 kA.p.f.r, .int .u8 kA.p.f.g, .int .u8 kA.p.f.b, .int .i64 kA.p.b.k, .int .u8 kA.p.b.i, .int .u8 kA.p.b.r, .int .u8 kA.p.b.g, .int .u8 kA.p.b.b, .int .u8 kA.p.fl]) rfl (by kernel_rfl) (by kernel_rfl) (by kernel_rfl) (fun _ _ _ h => h) (yieldsIf_load_mid (by rfl) 30 _ rfl b1 0 rfl (kcL kA) _ (fun _ h => h.c1.range) Tryd.underlying30 rfl (by kernel_rfl)) (by assumption) ?_
  try simp only [Act.put, List.getElem_toArray, List.getElem_cons_succ, List.getElem_cons_zero, List.setIfInBounds_toArray, List.set_cons_zero, List.set_cons_succ]
  refine wpAnyH_take (i := 1) (v := .agg #[.int .i32 kA.r, .int .i32 kA.m0, .int .i32 kA.m1, .int .i32 kA.m2, .int .i64 kA.w, .int .i64 kA.p.f.k, .int .u8 kA.p.f.i, .int .u8 kA.p.f.r, .int .u8 kA.p.f.g, .int .u8 kA.p.f.b, .int .i64 kA.p.b.k, .int .u8 kA.p.b.i, .int .u8 kA.p.b.r, .int .u8 kA.p.b.g, .int .u8 kA.p.b.b, .int .u8 kA.p.fl]) rfl (by kernel_rfl) (by kernel_rfl) (by kernel_rfl) (fun _ _ _ h => h) (yieldsIf_load_mid (by rfl) 30 _ rfl b1 0 rfl (kcL kA) _ (fun _ h => h.c1.range) Tryd.underlying30 rfl (by kernel_rfl)) (by assumption) ?_
  try simp only [Act.put, List.getElem_toArray, List.getElem_cons_succ, List.getElem_cons_zero, List.setIfInBounds_toArray, List.set_cons_zero, List.set_cons_succ]
  refine wpAnyH_take (i := 2) (v := .agg #[.int .i32 kE.r, .int .i32 kE.m0, .int .i32 kE.m1, .int .i32 kE.m2, .int .i64 kE.w, .int .i64 kE.p.f.k, .int .u8 kE.p.f.i, .int .u8 kE.p.f.r, .int .u8 kE.p.f.g, .int .u8 kE.p.f.b, .int .i64 kE.p.b.k, .int .u8 kE.p.b.i, .int .u8 kE.p.b.r, .int .u8 kE.p.b.g, .int .u8 kE.p.b.b, .int .u8 kE.p.fl]) rfl (by kernel_rfl) (by kernel_rfl) (by kernel_rfl) (fun _ _ _ h => h) (yieldsIf_load_mid (by rfl) 30 _ rfl b2 0 rfl (kcL kE) _ (fun _ h => h.c2.range) Tryd.underlying30 rfl (by kernel_rfl)) (by assumption) ?_
  try simp only [Act.put, List.getElem_toArray, List.getElem_cons_succ, List.getElem_cons_zero, List.setIfInBounds_toArray, List.set_cons_zero, List.set_cons_succ]
  refine wpAnyH_take (i := 3) (v := .agg #[.int .i32 kW.r, .int .i32 kW.m0, .int .i32 kW.m1, .int .i32 kW.m2, .int .i64 kW.w, .int .i64 kW.p.f.k, .int .u8 kW.p.f.i, .int .u8 kW.p.f.r, .int .u8 kW.p.f.g, .int .u8 kW.p.f.b, .int .i64 kW.p.b.k, .int .u8 kW.p.b.i, .int .u8 kW.p.b.r, .int .u8 kW.p.b.g, .int .u8 kW.p.b.b, .int .u8 kW.p.fl]) rfl (by kernel_rfl) (by kernel_rfl) (by kernel_rfl) (fun _ _ _ h => h) (yieldsIf_load_mid (by rfl) 30 _ rfl b3 0 rfl (kcL kW) _ (fun _ h => h.c3.range) Tryd.underlying30 rfl (by kernel_rfl)) (by assumption) ?_
  try simp only [Act.put, List.getElem_toArray, List.getElem_cons_succ, List.getElem_cons_zero, List.setIfInBounds_toArray, List.set_cons_zero, List.set_cons_succ]
  refine wpAnyH_take (i := 4) (v := .agg #[.int .i32 zeroK.r, .int .i32 zeroK.m0, .int .i32 zeroK.m1, .int .i32 zeroK.m2, .int .i64 zeroK.w, .int .i64 zeroK.p.f.k, .int .u8 zeroK.p.f.i, .int .u8 zeroK.p.f.r, .int .u8 zeroK.p.f.g, .int .u8 zeroK.p.f.b, .int .i64 zeroK.p.b.k, .int .u8 zeroK.p.b.i, .int .u8 zeroK.p.b.r, .int .u8 zeroK.p.b.g, .int .u8 zeroK.p.b.b, .int .u8 zeroK.p.fl]) rfl (by kernel_rfl) (by kernel_rfl) (by kernel_rfl) (fun _ _ _ h => h) (yieldsIf_load_mid (by rfl) 30 _ rfl b4 0 rfl (kcL zeroK) _ (fun _ h => h.c4.range) Tryd.underlying30 rfl (by kernel_rfl)) (by assumption) ?_
  try simp only [Act.put, List.getElem_toArray, List.getElem_cons_succ, List.getElem_cons_zero, List.setIfInBounds_toArray, List.set_cons_zero, List.set_cons_succ]
  refine wpAnyH_take (i := 6) (v := .agg #[.int .u64 x6.a, .int .u64 x6.b, .int .u64 x6.c]) rfl (by kernel_rfl) (by kernel_rfl) (by kernel_rfl) (fun _ _ _ h => h) (yieldsIf_load_mid (by rfl) 34 _ rfl b6 0 rfl (w3L x6) _ (fun _ h => h.w6.range) Tryd.underlying34 rfl (by kernel_rfl)) (by assumption) ?_
  try simp only [Act.put, List.getElem_toArray, List.getElem_cons_succ, List.getElem_cons_zero, List.setIfInBounds_toArray, List.set_cons_zero, List.set_cons_succ]
  refine wpAnyH_take (i := 8) (v := .agg #[.int .u64 x7.a, .int .u64 x7.b, .int .u64 x7.c]) rfl (by kernel_rfl) (by kernel_rfl) (by kernel_rfl) (fun _ _ _ h => h) (yieldsIf_load_mid (by rfl) 34 _ rfl b7 0 rfl (w3L x7) _ (fun _ h => h.w7.range) Tryd.underlying34 rfl (by kernel_rfl)) (by assumption) ?_
  try simp only [Act.put, List.getElem_toArray, List.getElem_cons_succ, List.getElem_cons_zero, List.setIfInBounds_toArray, List.set_cons_zero, List.set_cons_succ]
  refine wpAnyH_take (i := 10) (v := .agg #[.int .u64 x8.a, .int .u64 x8.b, .int .u64 x8.c]) rfl (by kernel_rfl) (by kernel_rfl) (by kernel_rfl) (fun _ _ _ h => h) (yieldsIf_load_mid (by rfl) 34 _ rfl b8 0 rfl (w3L x8) _ (fun _ h => h.w8.range) Tryd.underlying34 rfl (by kernel_rfl)) (by assumption) ?_
  try simp only [Act.put, List.getElem_toArray, List.getElem_cons_succ, List.getElem_cons_zero, List.setIfInBounds_toArray, List.set_cons_zero, List.set_cons_succ]
  refine wpAnyH_take (i := 12) (v := ?_) rfl (by kernel_rfl) (by kernel_rfl) (by kernel_rfl) (fun _ _ _ h => h) (Or.inl ⟨by rfl, ?_⟩) (by assumption) ?_
  rotate_left
  · (intro wq hSw; (try dsimp only at hSw); go_simp; try with_reducible rfl)
  try simp only [Act.put, List.getElem_toArray, List.getElem_cons_succ, List.getElem_cons_zero, List.setIfInBounds_toArray, List.set_cons_zero, List.set_cons_succ]
  refine' share3 (F := (fun v1 v2 W => (Kn5 W b1 b2 b3 b4 b5 b6 b7 b8 ∧ Kept [] w W) ∧ (∃ a : Nat, v1 = .slice (some ⟨a, 0, none⟩) 5 5 ∧ Rd W (some ⟨a, 0, none⟩) 5 16 (cellsV [kA, kA, kE, kW, zeroK])) ∧ (∃ b : Nat, v2 = .slice (some ⟨b, 0, none⟩) 4 4 ∧ Rd W (some ⟨b, 0, none⟩) 4 4 (runsV [⟨2, x6⟩, ⟨1, x7⟩, ⟨1, x8⟩, ⟨1, zeroW⟩])) ∧ Rd W (some ⟨g11, 0, none⟩) 2 4 (runsV [⟨2, x6⟩, ⟨1, x7⟩]))) (fun H => ?kk0) ?hh0
  case kk0 =>
    refine wpAnyH_ready (rs := [5, 7]) (by kernel_rfl) (by simp) ?_
    refine AllReadyH.cons rfl (fun K hK => ?_) (AllReadyH.cons rfl (fun K hK => ?_) AllReadyH.nil)
    · go_simp
      try go_wp2_with fail
      refine hK.out _ _ ?_ (fun hHeld => ?_)
      · (try dsimp only); (exact hHeld.kept ((Kept.refl [] _).alloc _))
      clear hK K
      try simp only [Act.put, List.getElem_toArray, List.getElem_cons_succ, List.getElem_cons_zero, List.setIfInBounds_toArray, List.set_cons_zero, List.set_cons_succ]
      have sc_0 : Hid (Rd (V0.drew.alloc (.cells #[.int .i32 kA.r, .int .i32 kA.m0, .int .i32 kA.m1, .int .i32 kA.m2, .int .i64 kA.w, .int .i64 kA.p.f.k, .int .u8 kA.p.f.i, .int .u8 kA.p.f.r, .int .u8 kA.p.f.g, .int .u8 kA.p.f.b, .int .i64 kA.p.b.k, .int .u8 kA.p.b.i, .int .u8 kA.p.b.r, .int .u8 kA.p.b.g, .int .u8 kA.p.b.b, .int .u8 kA.p.fl, .int .i32 kA.r, .int .i32 kA.m0, .int .i32 kA.m1, .int .i32 kA.m2, .int .i64 kA.w, .int .i64 kA.p.f.k, .int .u8 kA.p.f.i, .int .u8 kA.p.f.r, .int .u8 kA.p.f.g, .int .u8 kA.p.f.b, .int .i64 kA.p.b.k, .int .u8 kA.p.b.i, .int .u8 kA.p.b.r, .int .u8 kA.p.b.g, .int .u8 kA.p.b.b, .int .u8 kA.p.fl, .int .i32 kE.r, .int .i32 kE.m0, .int .i32 kE.m1, .int .i32 kE.m2, .int .i64 kE.w, .int .i64 kE.p.f.k, .int .u8 kE.p.f.i, .int .u8 kE.p.f.r, .int .u8 kE.p.f.g, .int .u8 kE.p.f.b, .int .i64 kE.p.b.k, .int .u8 kE.p.b.i, .int .u8 kE.p.b.r, .int .u8 kE.p.b.g, .int .u8 kE.p.b.b, .int .u8 kE.p.fl, .int .i32 kW.r, .int .i32 kW.m0, .int .i32 kW.m1, .int .i32 kW.m2, .int .i64 kW.w, .int .i64 kW.p.f.k, .int .u8 kW.p.f.i, .int .u8 kW.p.f.r, .int .u8 kW.p.f.g, .int .u8 kW.p.f.b, .int .i64 kW.p.b.k, .int .u8 kW.p.b.i, .int .u8 kW.p.b.r, .int .u8 kW.p.b.g, .int .u8 kW.p.b.b, .int .u8 kW.p.fl, .int .i32 zeroK.r, .int .i32 zeroK.m0, .int .i32 zeroK.m1, .int .i32 zeroK.m2, .int .i64 zeroK.w, .int .i64 zeroK.p.f.k, .int .u8 zeroK.p.f.i, .int .u8 zeroK.p.f.r, .int .u8 zeroK.p.f.g, .int .u8 zeroK.p.f.b, .int .i64 zeroK.p.b.k, .int .u8 zeroK.p.b.i, .int .u8 zeroK.p.b.r, .int .u8 zeroK.p.b.g, .int .u8 zeroK.p.b.b, .int .u8 zeroK.p.fl] 30)) (some ⟨V0.heap.size, 0, none⟩) 5 16 (cellsV [kA, kA, kE, kW, zeroK])) := hide (Rd.blockC (heap_new_at (w := V0.drew) (by simp)) rfl)
      refine wpAnyH_ready (rs := [7]) (by kernel_rfl) (by simp) ?_
      refine AllReadyH.cons rfl (fun K hK => ?_) AllReadyH.nil
      go_simp
      refine (run_any 2 x6 _).mono ?_
      rintro e V110 ⟨rfl, hj110⟩
      try go_wp2_with fail
      refine hK.out _ _ ?_ (fun hHeld => ?_)
      · (try dsimp only); (exact hHeld.kept hj110)
      clear hK K
      try simp only [Act.put, List.getElem_toArray, List.getElem_cons_succ, List.getElem_cons_zero, List.setIfInBounds_toArray, List.set_cons_zero, List.set_cons_succ]
      have hK110 := hide (((hK50.out.drew).alloc (.cells #[.int .i32 kA.r, .int .i32 kA.m0, .int .i32 kA.m1, .int .i32 kA.m2, .int .i64 kA.w, .int .i64 kA.p.f.k, .int .u8 kA.p.f.i, .int .u8 kA.p.f.r, .int .u8 kA.p.f.g, .int .u8 kA.p.f.b, .int .i64 kA.p.b.k, .int .u8 kA.p.b.i, .int .u8 kA.p.b.r, .int .u8 kA.p.b.g, .int .u8 kA.p.b.b, .int .u8 kA.p.fl, .int .i32 kA.r, .int .i32 kA.m0, .int .i32 kA.m1, .int .i32 kA.m2, .int .i64 kA.w, .int .i64 kA.p.f.k, .int .u8 kA.p.f.i, .int .u8 kA.p.f.r, .int .u8 kA.p.f.g, .int .u8 kA.p.f.b, .int .i64 kA.p.b.k, .int .u8 kA.p.b.i, .int .u8 kA.p.b.r, .int .u8 kA.p.b.g, .int .u8 kA.p.b.b, .int .u8 kA.p.fl, .int .i32 kE.r, .int .i32 kE.m0, .int .i32 kE.m1, .int .i32 kE.m2, .int .i64 kE.w, .int .i64 kE.p.f.k, .int .u8 kE.p.f.i, .int .u8 kE.p.f.r, .int .u8 kE.p.f.g, .int .u8 kE.p.f.b, .int .i64 kE.p.b.k, .int .u8 kE.p.b.i, .int .u8 kE.p.b.r, .int .u8 kE.p.b.g, .int .u8 kE.p.b.b, .int .u8 kE.p.fl, .int .i32 kW.r, .int .i32 kW.m0, .int .i32 kW.m1, .int .i32 kW.m2, .int .i64 kW.w, .int .i64 kW.p.f.k, .int .u8 kW.p.f.i, .int .u8 kW.p.f.r, .int .u8 kW.p.f.g, .int .u8 kW.p.f.b, .int .i64 kW.p.b.k, .int .u8 kW.p.b.i, .int .u8 kW.p.b.r, .int .u8 kW.p.b.g, .int .u8 kW.p.b.b, .int .u8 kW.p.fl, .int .i32 zeroK.r, .int .i32 zeroK.m0, .int .i32 zeroK.m1, .int .i32 zeroK.m2, .int .i64 zeroK.w, .int .i64 zeroK.p.f.k, .int .u8 zeroK.p.f.i, .int .u8 zeroK.p.f.r, .int .u8 zeroK.p.f.g, .int .u8 zeroK.p.f.b, .int .i64 zeroK.p.b.k, .int .u8 zeroK.p.b.i, .int .u8 zeroK.p.b.r, .int .u8 zeroK.p.b.g, .int .u8 zeroK.p.b.b, .int .u8 zeroK.p.fl] 30)).trans hj110 (by simp))
      have s11_110 := hide (Rd.kept (Rd.kept (Rd.kept s11_0.out (Kept.refl [] _).drew (by simp)) ((Kept.refl [] _).alloc (.cells #[.int .i32 kA.r, .int .i32 kA.m0, .int .i32 kA.m1, .int .i32 kA.m2, .int .i64 kA.w, .int .i64 kA.p.f.k, .int .u8 kA.p.f.i, .int .u8 kA.p.f.r, .int .u8 kA.p.f.g, .int .u8 kA.p.f.b, .int .i64 kA.p.b.k, .int .u8 kA.p.b.i, .int .u8 kA.p.b.r, .int .u8 kA.p.b.g, .int .u8 kA.p.b.b, .int .u8 kA.p.fl, .int .i32 kA.r, .int .i32 kA.m0, .int .i32 kA.m1, .int .i32 kA.m2, .int .i64 kA.w, .int .i64 kA.p.f.k, .int .u8 kA.p.f.i, .int .u8 kA.p.f.r, .int .u8 kA.p.f.g, .int .u8 kA.p.f.b, .int .i64 kA.p.b.k, .int .u8 kA.p.b.i, .int .u8 kA.p.b.r, .int .u8 kA.p.b.g, .int .u8 kA.p.b.b, .int .u8 kA.p.fl, .int .i32 kE.r, .int .i32 kE.m0, .int .i32 kE.m1, .int .i32 kE.m2, .int .i64 kE.w, .int .i64 kE.p.f.k, .int .u8 kE.p.f.i, .int .u8 kE.p.f.r, .int .u8 kE.p.f.g, .int .u8 kE.p.f.b, .int .i64 kE.p.b.k, .int .u8 kE.p.b.i, .int .u8 kE.p.b.r, .int .u8 kE.p.b.g, .int .u8 kE.p.b.b, .int .u8 kE.p.fl, .int .i32 kW.r, .int .i32 kW.m0, .int .i32 kW.m1, .int .i32 kW.m2, .int .i64 kW.w, .int .i64 kW.p.f.k, .int .u8 kW.p.f.i, .int .u8 kW.p.f.r, .int .u8 kW.p.f.g, .int .u8 kW.p.f.b, .int .i64 kW.p.b.k, .int .u8 kW.p.b.i, .int .u8 kW.p.b.r, .int .u8 kW.p.b.g, .int .u8 kW.p.b.b, .int .u8 kW.p.fl, .int .i32 zeroK.r, .int .i32 zeroK.m0, .int .i32 zeroK.m1, .int .i32 zeroK.m2, .int .i64 zeroK.w, .int .i64 zeroK.p.f.k, .int .u8 zeroK.p.f.i, .int .u8 zeroK.p.f.r, .int .u8 zeroK.p.f.g, .int .u8 zeroK.p.f.b, .int .i64 zeroK.p.b.k, .int .u8 zeroK.p.b.i, .int .u8 zeroK.p.b.r, .int .u8 zeroK.p.b.g, .int .u8 zeroK.p.b.b, .int .u8 zeroK.p.fl] 30)) (by simp)) hj110 (by simp))
      have sc_110 := hide (Rd.kept (sc_0.out) hj110 (by simp))
      refine wpAnyH_ready (rs := [9]) (by kernel_rfl) (by simp) ?_
      refine AllReadyH.cons rfl (fun K hK => ?_) AllReadyH.nil
      go_simp
      refine (run_any 1 x7 _).mono ?_
      rintro e V111 ⟨rfl, hj111⟩
      try go_wp2_with fail
      refine hK.out _ _ ?_ (fun hHeld => ?_)
      · (try dsimp only); (exact hHeld.kept hj111)
      clear hK K
      try simp only [Act.put, List.getElem_toArray, List.getElem_cons_succ, List.getElem_cons_zero, List.setIfInBounds_toArray, List.set_cons_zero, List.set_cons_succ]
      have hK111 := hide ((hK110.out).trans hj111 (by simp))
      have s11_111 := hide (Rd.kept (s11_110.out) hj111 (by simp))
      have sc_111 := hide (Rd.kept (sc_110.out) hj111 (by simp))
      refine wpAnyH_ready (rs := [11]) (by kernel_rfl) (by simp) ?_
      refine AllReadyH.cons rfl (fun K hK => ?_) AllReadyH.nil
      go_simp
      refine (run_any 1 x8 _).mono ?_
      rintro e V112 ⟨rfl, hj112⟩
      try go_wp2_with fail
      refine hK.out _ _ ?_ (fun hHeld => ?_)
      · (try dsimp only); (exact hHeld.kept hj112)
      clear hK K
      try simp only [Act.put, List.getElem_toArray, List.getElem_cons_succ, List.getElem_cons_zero, List.setIfInBounds_toArray, List.set_cons_zero, List.set_cons_succ]
      have hK112 := hide ((hK111.out).trans hj112 (by simp))
      have s11_112 := hide (Rd.kept (s11_111.out) hj112 (by simp))
      have sc_112 := hide (Rd.kept (sc_111.out) hj112 (by simp))
      refine wpAnyH_ready (rs := [13]) (by kernel_rfl) (by simp) ?_
      refine AllReadyH.cons rfl (fun K hK => ?_) AllReadyH.nil
      go_simp
      refine (run_any 1 zeroW _).mono ?_
      rintro e V113 ⟨rfl, hj113⟩
      try go_wp2_with fail
      refine hK.out _ _ ?_ (fun hHeld => ?_)
      · (try dsimp only); (exact hHeld.kept hj113)
      clear hK K
      try simp only [Act.put, List.getElem_toArray, List.getElem_cons_succ, List.getElem_cons_zero, List.setIfInBounds_toArray, List.set_cons_zero, List.set_cons_succ]
      have hK113 := hide ((hK112.out).trans hj113 (by simp))
      have s11_113 := hide (Rd.kept (s11_112.out) hj113 (by simp))
      have sc_113 := hide (Rd.kept (sc_112.out) hj113 (by simp))
      refine wpAnyH_ready (rs := [14]) (by kernel_rfl) (by simp) ?_
      refine AllReadyH.cons rfl (fun K hK => ?_) AllReadyH.nil
      go_simp
      try go_wp2_with fail
      refine hK.out _ _ ?_ (fun hHeld => ?_)
      · (try dsimp only); (exact hHeld.kept ((Kept.refl [] _).alloc _))
      clear hK K
      try simp only [Act.put, List.getElem_toArray, List.getElem_cons_succ, List.getElem_cons_zero, List.setIfInBounds_toArray, List.set_cons_zero, List.set_cons_succ]
      have sr_0 : Hid (Rd (V113.alloc (.cells #[.int .i64 2, .int .u64 x6.a, .int .u64 x6.b, .int .u64 x6.c, .int .i64 1, .int .u64 x7.a, .int .u64 x7.b, .int .u64 x7.c, .int .i64 1, .int .u64 x8.a, .int .u64 x8.b, .int .u64 x8.c, .int .i64 1, .int .u64 zeroW.a, .int .u64 zeroW.b, .int .u64 zeroW.c] 67)) (some ⟨V113.heap.size, 0, none⟩) 4 4 (runsV [⟨2, x6⟩, ⟨1, x7⟩, ⟨1, x8⟩, ⟨1, zeroW⟩])) := hide (Rd.ofBlock rowRun (heap_new_at (w := V113) (by simp)) rfl)
      have F1 := hHeld
      have F2 := ((hK113.out).alloc (.cells #[.int .i64 2, .int .u64 x6.a, .int .u64 x6.b, .int .u64 x6.c, .int .i64 1, .int .u64 x7.a, .int .u64 x7.b, .int .u64 x7.c, .int .i64 1, .int .u64 x8.a, .int .u64 x8.b, .int .u64 x8.c, .int .i64 1, .int .u64 zeroW.a, .int .u64 zeroW.b, .int .u64 zeroW.c] 67))
      have F3 := Rd.kept (sc_113.out) ((Kept.refl [] _).alloc (.cells #[.int .i64 2, .int .u64 x6.a, .int .u64 x6.b, .int .u64 x6.c, .int .i64 1, .int .u64 x7.a, .int .u64 x7.b, .int .u64 x7.c, .int .i64 1, .int .u64 x8.a, .int .u64 x8.b, .int .u64 x8.c, .int .i64 1, .int .u64 zeroW.a, .int .u64 zeroW.b, .int .u64 zeroW.c] 67)) (by simp)
      have F4 := sr_0.out
      have F5 := Rd.kept (s11_113.out) ((Kept.refl [] _).alloc (.cells #[.int .i64 2, .int .u64 x6.a, .int .u64 x6.b, .int .u64 x6.c, .int .i64 1, .int .u64 x7.a, .int .u64 x7.b, .int .u64 x7.c, .int .i64 1, .int .u64 x8.a, .int .u64 x8.b, .int .u64 x8.c, .int .i64 1, .int .u64 zeroW.a, .int .u64 zeroW.b, .int .u64 zeroW.c] 67)) (by simp)
      generalize hv1 : Value.slice (some ⟨V0.heap.size, 0, none⟩) 5 5 = v1
      generalize hv2 : Value.slice (some ⟨V113.heap.size, 0, none⟩) 4 4 = v2
      exact H v1 v2 _ ⟨⟨F1, F2⟩, ⟨_, hv1.symm, F3⟩, ⟨_, hv2.symm, F4⟩, F5⟩
    · go_simp
      refine (run_any 2 x6 _).mono ?_
      rintro e V110 ⟨rfl, hj110⟩
      try go_wp2_with fail
      refine hK.out _ _ ?_ (fun hHeld => ?_)
      · (try dsimp only); (exact hHeld.kept hj110)
      clear hK K
      try simp only [Act.put, List.getElem_toArray, List.getElem_cons_succ, List.getElem_cons_zero, List.setIfInBounds_toArray, List.set_cons_zero, List.set_cons_succ]
      have hK110 := hide ((hK50.out.drew).trans hj110 (by simp))
      have s11_110 := hide (Rd.kept (Rd.kept s11_0.out (Kept.refl [] _).drew (by simp)) hj110 (by simp))
      refine wpAnyH_ready (rs := [5, 9]) (by kernel_rfl) (by simp) ?_
      refine AllReadyH.cons rfl (fun K hK => ?_) (AllReadyH.cons rfl (fun K hK => ?_) AllReadyH.nil)
      · go_simp
        try go_wp2_with fail
        refine hK.out _ _ ?_ (fun hHeld => ?_)
        · (try dsimp only); (exact hHeld.kept ((Kept.refl [] _).alloc _))
        clear hK K
        try simp only [Act.put, List.getElem_toArray, List.getElem_cons_succ, List.getElem_cons_zero, List.setIfInBounds_toArray, List.set_cons_zero, List.set_cons_succ]
        have sc_0 : Hid (Rd (V110.alloc (.cells #[.int .i32 kA.r, .int .i32 kA.m0, .int .i32 kA.m1, .int .i32 kA.m2, .int .i64 kA.w, .int .i64 kA.p.f.k, .int .u8 kA.p.f.i, .int .u8 kA.p.f.r, .int .u8 kA.p.f.g, .int .u8 kA.p.f.b, .int .i64 kA.p.b.k, .int .u8 kA.p.b.i, .int .u8 kA.p.b.r, .int .u8 kA.p.b.g, .int .u8 kA.p.b.b, .int .u8 kA.p.fl, .int .i32 kA.r, .int .i32 kA.m0, .int .i32 kA.m1, .int .i32 kA.m2, .int .i64 kA.w, .int .i64 kA.p.f.k, .int .u8 kA.p.f.i, .int .u8 kA.p.f.r, .int .u8 kA.p.f.g, .int .u8 kA.p.f.b, .int .i64 kA.p.b.k, .int .u8 kA.p.b.i, .int .u8 kA.p.b.r, .int .u8 kA.p.b.g, .int .u8 kA.p.b.b, .int .u8 kA.p.fl, .int .i32 kE.r, .int .i32 kE.m0, .int .i32 kE.m1, .int .i32 kE.m2, .int .i64 kE.w, .int .i64 kE.p.f.k, .int .u8 kE.p.f.i, .int .u8 kE.p.f.r, .int .u8 kE.p.f.g, .int .u8 kE.p.f.b, .int .i64 kE.p.b.k, .int .u8 kE.p.b.i, .int .u8 kE.p.b.r, .int .u8 kE.p.b.g, .int .u8 kE.p.b.b, .int .u8 kE.p.fl, .int .i32 kW.r, .int .i32 kW.m0, .int .i32 kW.m1, .int .i32 kW.m2, .int .i64 kW.w, .int .i64 kW.p.f.k, .int .u8 kW.p.f.i, .int .u8 kW.p.f.r, .int .u8 kW.p.f.g, .int .u8 kW.p.f.b, .int .i64 kW.p.b.k, .int .u8 kW.p.b.i, .int .u8 kW.p.b.r, .int .u8 kW.p.b.g, .int .u8 kW.p.b.b, .int .u8 kW.p.fl, .int .i32 zeroK.r, .int .i32 zeroK.m0, .int .i32 zeroK.m1, .int .i32 zeroK.m2, .int .i64 zeroK.w, .int .i64 zeroK.p.f.k, .int .u8 zeroK.p.f.i, .int .u8 zeroK.p.f.r, .int .u8 zeroK.p.f.g, .int .u8 zeroK.p.f.b, .int .i64 zeroK.p.b.k, .int .u8 zeroK.p.b.i, .int .u8 zeroK.p.b.r, .int .u8 zeroK.p.b.g, .int .u8 zeroK.p.b.b, .int .u8 zeroK.p.fl] 30)) (some ⟨V110.heap.size, 0, none⟩) 5 16 (cellsV [kA, kA, kE, kW, zeroK])) := hide (Rd.blockC (heap_new_at (w := V110) (by simp)) rfl)
        refine wpAnyH_ready (rs := [9]) (by kernel_rfl) (by simp) ?_
        refine AllReadyH.cons rfl (fun K hK => ?_) AllReadyH.nil
        go_simp
        refine (run_any 1 x7 _).mono ?_
        rintro e V111 ⟨rfl, hj111⟩
        try go_wp2_with fail
        refine hK.out _ _ ?_ (fun hHeld => ?_)
        · (try dsimp only); (exact hHeld.kept hj111)
        clear hK K
        try simp only [Act.put, List.getElem_toArray, List.getElem_cons_succ, List.getElem_cons_zero, List.setIfInBounds_toArray, List.set_cons_zero, List.set_cons_succ]
        have hK111 := hide (((hK110.out).alloc (.cells #[.int .i32 kA.r, .int .i32 kA.m0, .int .i32 kA.m1, .int .i32 kA.m2, .int .i64 kA.w, .int .i64 kA.p.f.k, .int .u8 kA.p.f.i, .int .u8 kA.p.f.r, .int .u8 kA.p.f.g, .int .u8 kA.p.f.b, .int .i64 kA.p.b.k, .int .u8 kA.p.b.i, .int .u8 kA.p.b.r, .int .u8 kA.p.b.g, .int .u8 kA.p.b.b, .int .u8 kA.p.fl, .int .i32 kA.r, .int .i32 kA.m0, .int .i32 kA.m1, .int .i32 kA.m2, .int .i64 kA.w, .int .i64 kA.p.f.k, .int .u8 kA.p.f.i, .int .u8 kA.p.f.r, .int .u8 kA.p.f.g, .int .u8 kA.p.f.b, .int .i64 kA.p.b.k, .int .u8 kA.p.b.i, .int .u8 kA.p.b.r, .int .u8 kA.p.b.g, .int .u8 kA.p.b.b, .int .u8 kA.p.fl, .int .i32 kE.r, .int .i32 kE.m0, .int .i32 kE.m1, .int .i32 kE.m2, .int .i64 kE.w, .int .i64 kE.p.f.k, .int .u8 kE.p.f.i, .int .u8 kE.p.f.r, .int .u8 kE.p.f.g, .int .u8 kE.p.f.b, .int .i64 kE.p.b.k, .int .u8 kE.p.b.i, .int .u8 kE.p.b.r, .int .u8 kE.p.b.g, .int .u8 kE.p.b.b, .int .u8 kE.p.fl, .int .i32 kW.r, .int .i32 kW.m0, .int .i32 kW.m1, .int .i32 kW.m2, .int .i64 kW.w, .int .i64 kW.p.f.k, .int .u8 kW.p.f.i, .int .u8 kW.p.f.r, .int .u8 kW.p.f.g, .int .u8 kW.p.f.b, .int .i64 kW.p.b.k, .int .u8 kW.p.b.i, .int .u8 kW.p.b.r, .int .u8 kW.p.b.g, .int .u8 kW.p.b.b, .int .u8 kW.p.fl, .int .i32 zeroK.r, .int .i32 zeroK.m0, .int .i32 zeroK.m1, .int .i32 zeroK.m2, .int .i64 zeroK.w, .int .i64 zeroK.p.f.k, .int .u8 zeroK.p.f.i, .int .u8 zeroK.p.f.r, .int .u8 zeroK.p.f.g, .int .u8 zeroK.p.f.b, .int .i64 zeroK.p.b.k, .int .u8 zeroK.p.b.i, .int .u8 zeroK.p.b.r, .int .u8 zeroK.p.b.g, .int .u8 zeroK.p.b.b, .int .u8 zeroK.p.fl] 30)).trans hj111 (by simp))
        have s11_111 := hide (Rd.kept (Rd.kept (s11_110.out) ((Kept.refl [] _).alloc (.cells #[.int .i32 kA.r, .int .i32 kA.m0, .int .i32 kA.m1, .int .i32 kA.m2, .int .i64 kA.w, .int .i64 kA.p.f.k, .int .u8 kA.p.f.i, .int .u8 kA.p.f.r, .int .u8 kA.p.f.g, .int .u8 kA.p.f.b, .int .i64 kA.p.b.k, .int .u8 kA.p.b.i, .int .u8 kA.p.b.r, .int .u8 kA.p.b.g, .int .u8 kA.p.b.b, .int .u8 kA.p.fl, .int .i32 kA.r, .int .i32 kA.m0, .int .i32 kA.m1, .int .i32 kA.m2, .int .i64 kA.w, .int .i64 kA.p.f.k, .int .u8 kA.p.f.i, .int .u8 kA.p.f.r, .int .u8 kA.p.f.g, .int .u8 kA.p.f.b, .int .i64 kA.p.b.k, .int .u8 kA.p.b.i, .int .u8 kA.p.b.r, .int .u8 kA.p.b.g, .int .u8 kA.p.b.b, .int .u8 kA.p.fl, .int .i32 kE.r, .int .i32 kE.m0, .int .i32 kE.m1, .int .i32 kE.m2, .int .i64 kE.w, .int .i64 kE.p.f.k, .int .u8 kE.p.f.i, .int .u8 kE.p.f.r, .int .u8 kE.p.f.g, .int .u8 kE.p.f.b, .int .i64 kE.p.b.k, .int .u8 kE.p.b.i, .int .u8 kE.p.b.r, .int .u8 kE.p.b.g, .int .u8 kE.p.b.b, .int .u8 kE.p.fl, .int .i32 kW.r, .int .i32 kW.m0, .int .i32 kW.m1, .int .i32 kW.m2, .int .i64 kW.w, .int .i64 kW.p.f.k, .int .u8 kW.p.f.i, .int .u8 kW.p.f.r, .int .u8 kW.p.f.g, .int .u8 kW.p.f.b, .int .i64 kW.p.b.k, .int .u8 kW.p.b.i, .int .u8 kW.p.b.r, .int .u8 kW.p.b.g, .int .u8 kW.p.b.b, .int .u8 kW.p.fl, .int .i32 zeroK.r, .int .i32 zeroK.m0, .int .i32 zeroK.m1, .int .i32 zeroK.m2, .int .i64 zeroK.w, .int .i64 zeroK.p.f.k, .int .u8 zeroK.p.f.i, .int .u8 zeroK.p.f.r, .int .u8 zeroK.p.f.g, .int .u8 zeroK.p.f.b, .int .i64 zeroK.p.b.k, .int .u8 zeroK.p.b.i, .int .u8 zeroK.p.b.r, .int .u8 zeroK.p.b.g, .int .u8 zeroK.p.b.b, .int .u8 zeroK.p.fl] 30)) (by simp)) hj111 (by simp))
        have sc_111 := hide (Rd.kept (sc_0.out) hj111 (by simp))
        refine wpAnyH_ready (rs := [11]) (by kernel_rfl) (by simp) ?_
        refine AllReadyH.cons rfl (fun K hK => ?_) AllReadyH.nil
        go_simp
        refine (run_any 1 x8 _).mono ?_
        rintro e V112 ⟨rfl, hj112⟩
        try go_wp2_with fail
        refine hK.out _ _ ?_ (fun hHeld => ?_)
        · (try dsimp only); (exact hHeld.kept hj112)
        clear hK K
        try simp only [Act.put, List.getElem_toArray, List.getElem_cons_succ, List.getElem_cons_zero, List.setIfInBounds_toArray, List.set_cons_zero, List.set_cons_succ]
        have hK112 := hide ((hK111.out).trans hj112 (by simp))
        have s11_112 := hide (Rd.kept (s11_111.out) hj112 (by simp))
        have sc_112 := hide (Rd.kept (sc_111.out) hj112 (by simp))
        refine wpAnyH_ready (rs := [13]) (by kernel_rfl) (by simp) ?_
        refine AllReadyH.cons rfl (fun K hK => ?_) AllReadyH.nil
        go_simp
        refine (run_any 1 zeroW _).mono ?_
        rintro e V113 ⟨rfl, hj113⟩
        try go_wp2_with fail
        refine hK.out _ _ ?_ (fun hHeld => ?_)
        · (try dsimp only); (exact hHeld.kept hj113)
        clear hK K
        try simp only [Act.put, List.getElem_toArray, List.getElem_cons_succ, List.getElem_cons_zero, List.setIfInBounds_toArray, List.set_cons_zero, List.set_cons_succ]
        have hK113 := hide ((hK112.out).trans hj113 (by simp))
        have s11_113 := hide (Rd.kept (s11_112.out) hj113 (by simp))
        have sc_113 := hide (Rd.kept (sc_112.out) hj113 (by simp))
        refine wpAnyH_ready (rs := [14]) (by kernel_rfl) (by simp) ?_
        refine AllReadyH.cons rfl (fun K hK => ?_) AllReadyH.nil
        go_simp
        try go_wp2_with fail
        refine hK.out _ _ ?_ (fun hHeld => ?_)
        · (try dsimp only); (exact hHeld.kept ((Kept.refl [] _).alloc _))
        clear hK K
        try simp only [Act.put, List.getElem_toArray, List.getElem_cons_succ, List.getElem_cons_zero, List.setIfInBounds_toArray, List.set_cons_zero, List.set_cons_succ]
        have sr_0 : Hid (Rd (V113.alloc (.cells #[.int .i64 2, .int .u64 x6.a, .int .u64 x6.b, .int .u64 x6.c, .int .i64 1, .int .u64 x7.a, .int .u64 x7.b, .int .u64 x7.c, .int .i64 1, .int .u64 x8.a, .int .u64 x8.b, .int .u64 x8.c, .int .i64 1, .int .u64 zeroW.a, .int .u64 zeroW.b, .int .u64 zeroW.c] 67)) (some ⟨V113.heap.size, 0, none⟩) 4 4 (runsV [⟨2, x6⟩, ⟨1, x7⟩, ⟨1, x8⟩, ⟨1, zeroW⟩])) := hide (Rd.ofBlock rowRun (heap_new_at (w := V113) (by simp)) rfl)
        have F1 := hHeld
        have F2 := ((hK113.out).alloc (.cells #[.int .i64 2, .int .u64 x6.a, .int .u64 x6.b, .int .u64 x6.c, .int .i64 1, .int .u64 x7.a, .int .u64 x7.b, .int .u64 x7.c, .int .i64 1, .int .u64 x8.a, .int .u64 x8.b, .int .u64 x8.c, .int .i64 1, .int .u64 zeroW.a, .int .u64 zeroW.b, .int .u64 zeroW.c] 67))
        have F3 := Rd.kept (sc_113.out) ((Kept.refl [] _).alloc (.cells #[.int .i64 2, .int .u64 x6.a, .int .u64 x6.b, .int .u64 x6.c, .int .i64 1, .int .u64 x7.a, .int .u64 x7.b, .int .u64 x7.c, .int .i64 1, .int .u64 x8.a, .int .u64 x8.b, .int .u64 x8.c, .int .i64 1, .int .u64 zeroW.a, .int .u64 zeroW.b, .int .u64 zeroW.c] 67)) (by simp)
        have F4 := sr_0.out
        have F5 := Rd.kept (s11_113.out) ((Kept.refl [] _).alloc (.cells #[.int .i64 2, .int .u64 x6.a, .int .u64 x6.b, .int .u64 x6.c, .int .i64 1, .int .u64 x7.a, .int .u64 x7.b, .int .u64 x7.c, .int .i64 1, .int .u64 x8.a, .int .u64 x8.b, .int .u64 x8.c, .int .i64 1, .int .u64 zeroW.a, .int .u64 zeroW.b, .int .u64 zeroW.c] 67)) (by simp)
        generalize hv1 : Value.slice (some ⟨V110.heap.size, 0, none⟩) 5 5 = v1
        generalize hv2 : Value.slice (some ⟨V113.heap.size, 0, none⟩) 4 4 = v2
        exact H v1 v2 _ ⟨⟨F1, F2⟩, ⟨_, hv1.symm, F3⟩, ⟨_, hv2.symm, F4⟩, F5⟩
      · go_simp
        refine (run_any 1 x7 _).mono ?_
        rintro e V111 ⟨rfl, hj111⟩
        try go_wp2_with fail
        refine hK.out _ _ ?_ (fun hHeld => ?_)
        · (try dsimp only); (exact hHeld.kept hj111)
        clear hK K
        try simp only [Act.put, List.getElem_toArray, List.getElem_cons_succ, List.getElem_cons_zero, List.setIfInBounds_toArray, List.set_cons_zero, List.set_cons_succ]
        have hK111 := hide ((hK110.out).trans hj111 (by simp))
        have s11_111 := hide (Rd.kept (s11_110.out) hj111 (by simp))
        refine wpAnyH_ready (rs := [5, 11]) (by kernel_rfl) (by simp) ?_
        refine AllReadyH.cons rfl (fun K hK => ?_) (AllReadyH.cons rfl (fun K hK => ?_) AllReadyH.nil)
        · go_simp
          try go_wp2_with fail
          refine hK.out _ _ ?_ (fun hHeld => ?_)
          · (try dsimp only); (exact hHeld.kept ((Kept.refl [] _).alloc _))
          clear hK K
          try simp only [Act.put, List.getElem_toArray, List.getElem_cons_succ, List.getElem_cons_zero, List.setIfInBounds_toArray, List.set_cons_zero, List.set_cons_succ]
          have sc_0 : Hid (Rd (V111.alloc (.cells #[.int .i32 kA.r, .int .i32 kA.m0, .int .i32 kA.m1, .int .i32 kA.m2, .int .i64 kA.w, .int .i64 kA.p.f.k, .int .u8 kA.p.f.i, .int .u8 kA.p.f.r, .int .u8 kA.p.f.g, .int .u8 kA.p.f.b, .int .i64 kA.p.b.k, .int .u8 kA.p.b.i, .int .u8 kA.p.b.r, .int .u8 kA.p.b.g, .int .u8 kA.p.b.b, .int .u8 kA.p.fl, .int .i32 kA.r, .int .i32 kA.m0, .int .i32 kA.m1, .int .i32 kA.m2, .int .i64 kA.w, .int .i64 kA.p.f.k, .int .u8 kA.p.f.i, .int .u8 kA.p.f.r, .int .u8 kA.p.f.g, .int .u8 kA.p.f.b, .int .i64 kA.p.b.k, .int .u8 kA.p.b.i, .int .u8 kA.p.b.r, .int .u8 kA.p.b.g, .int .u8 kA.p.b.b, .int .u8 kA.p.fl, .int .i32 kE.r, .int .i32 kE.m0, .int .i32 kE.m1, .int .i32 kE.m2, .int .i64 kE.w, .int .i64 kE.p.f.k, .int .u8 kE.p.f.i, .int .u8 kE.p.f.r, .int .u8 kE.p.f.g, .int .u8 kE.p.f.b, .int .i64 kE.p.b.k, .int .u8 kE.p.b.i, .int .u8 kE.p.b.r, .int .u8 kE.p.b.g, .int .u8 kE.p.b.b, .int .u8 kE.p.fl, .int .i32 kW.r, .int .i32 kW.m0, .int .i32 kW.m1, .int .i32 kW.m2, .int .i64 kW.w, .int .i64 kW.p.f.k, .int .u8 kW.p.f.i, .int .u8 kW.p.f.r, .int .u8 kW.p.f.g, .int .u8 kW.p.f.b, .int .i64 kW.p.b.k, .int .u8 kW.p.b.i, .int .u8 kW.p.b.r, .int .u8 kW.p.b.g, .int .u8 kW.p.b.b, .int .u8 kW.p.fl, .int .i32 zeroK.r, .int .i32 zeroK.m0, .int .i32 zeroK.m1, .int .i32 zeroK.m2, .int .i64 zeroK.w, .int .i64 zeroK.p.f.k, .int .u8 zeroK.p.f.i, .int .u8 zeroK.p.f.r, .int .u8 zeroK.p.f.g, .int .u8 zeroK.p.f.b, .int .i64 zeroK.p.b.k, .int .u8 zeroK.p.b.i, .int .u8 zeroK.p.b.r, .int .u8 zeroK.p.b.g, .int .u8 zeroK.p.b.b, .int .u8 zeroK.p.fl] 30)) (some ⟨V111.heap.size, 0, none⟩) 5 16 (cellsV [kA, kA, kE, kW, zeroK])) := hide (Rd.blockC (heap_new_at (w := V111) (by simp)) rfl)
          refine wpAnyH_ready (rs := [11]) (by kernel_rfl) (by simp) ?_
          refine AllReadyH.cons rfl (fun K hK => ?_) AllReadyH.nil
          go_simp
          refine (run_any 1 x8 _).mono ?_
          rintro e V112 ⟨rfl, hj112⟩
          try go_wp2_with fail
          refine hK.out _ _ ?_ (fun hHeld => ?_)
          · (try dsimp only); (exact hHeld.kept hj112)
          clear hK K
          try simp only [Act.put, List.getElem_toArray, List.getElem_cons_succ, List.getElem_cons_zero, List.setIfInBounds_toArray, List.set_cons_zero, List.set_cons_succ]
          have hK112 := hide (((hK111.out).alloc (.cells #[.int .i32 kA.r, .int .i32 kA.m0, .int .i32 kA.m1, .int .i32 kA.m2, .int .i64 kA.w, .int .i64 kA.p.f.k, .int .u8 kA.p.f.i, .int .u8 kA.p.f.r, .int .u8 kA.p.f.g, .int .u8 kA.p.f.b, .int .i64 kA.p.b.k, .int .u8 kA.p.b.i, .int .u8 kA.p.b.r, .int .u8 kA.p.b.g, .int .u8 kA.p.b.b, .int .u8 kA.p.fl, .int .i32 kA.r, .int .i32 kA.m0, .int .i32 kA.m1, .int .i32 kA.m2, .int .i64 kA.w, .int .i64 kA.p.f.k, .int .u8 kA.p.f.i, .int .u8 kA.p.f.r, .int .u8 kA.p.f.g, .int .u8 kA.p.f.b, .int .i64 kA.p.b.k, .int .u8 kA.p.b.i, .int .u8 kA.p.b.r, .int .u8 kA.p.b.g, .int .u8 kA.p.b.b, .int .u8 kA.p.fl, .int .i32 kE.r, .int .i32 kE.m0, .int .i32 kE.m1, .int .i32 kE.m2, .int .i64 kE.w, .int .i64 kE.p.f.k, .int .u8 kE.p.f.i, .int .u8 kE.p.f.r, .int .u8 kE.p.f.g, .int .u8 kE.p.f.b, .int .i64 kE.p.b.k, .int .u8 kE.p.b.i, .int .u8 kE.p.b.r, .int .u8 kE.p.b.g, .int .u8 kE.p.b.b, .int .u8 kE.p.fl, .int .i32 kW.r, .int .i32 kW.m0, .int .i32 kW.m1, .int .i32 kW.m2, .int .i64 kW.w, .int .i64 kW.p.f.k, .int .u8 kW.p.f.i, .int .u8 kW.p.f.r, .int .u8 kW.p.f.g, .int .u8 kW.p.f.b, .int .i64 kW.p.b.k, .int .u8 kW.p.b.i, .int .u8 kW.p.b.r, .int .u8 kW.p.b.g, .int .u8 kW.p.b.b, .int .u8 kW.p.fl, .int .i32 zeroK.r, .int .i32 zeroK.m0, .int .i32 zeroK.m1, .int .i32 zeroK.m2, .int .i64 zeroK.w, .int .i64 zeroK.p.f.k, .int .u8 zeroK.p.f.i, .int .u8 zeroK.p.f.r, .int .u8 zeroK.p.f.g, .int .u8 zeroK.p.f.b, .int .i64 zeroK.p.b.k, .int .u8 zeroK.p.b.i, .int .u8 zeroK.p.b.r, .int .u8 zeroK.p.b.g, .int .u8 zeroK.p.b.b, .int .u8 zeroK.p.fl] 30)).trans hj112 (by simp))
          have s11_112 := hide (Rd.kept (Rd.kept (s11_111.out) ((Kept.refl [] _).alloc (.cells #[.int .i32 kA.r, .int .i32 kA.m0, .int .i32 kA.m1, .int .i32 kA.m2, .int .i64 kA.w, .int .i64 kA.p.f.k, .int .u8 kA.p.f.i, .int .u8 kA.p.f.r, .int .u8 kA.p.f.g, .int .u8 kA.p.f.b, .int .i64 kA.p.b.k, .int .u8 kA.p.b.i, .int .u8 kA.p.b.r, .int .u8 kA.p.b.g, .int .u8 kA.p.b.b, .int .u8 kA.p.fl, .int .i32 kA.r, .int .i32 kA.m0, .int .i32 kA.m1, .int .i32 kA.m2, .int .i64 kA.w, .int .i64 kA.p.f.k, .int .u8 kA.p.f.i, .int .u8 kA.p.f.r, .int .u8 kA.p.f.g, .int .u8 kA.p.f.b, .int .i64 kA.p.b.k, .int .u8 kA.p.b.i, .int .u8 kA.p.b.r, .int .u8 kA.p.b.g, .int .u8 kA.p.b.b, .int .u8 kA.p.fl, .int .i32 kE.r, .int .i32 kE.m0, .int .i32 kE.m1, .int .i32 kE.m2, .int .i64 kE.w, .int .i64 kE.p.f.k, .int .u8 kE.p.f.i, .int .u8 kE.p.f.r, .int .u8 kE.p.f.g, .int .u8 kE.p.f.b, .int .i64 kE.p.b.k, .int .u8 kE.p.b.i, .int .u8 kE.p.b.r, .int .u8 kE.p.b.g, .int .u8 kE.p.b.b, .int .u8 kE.p.fl, .int .i32 kW.r, .int .i32 kW.m0, .int .i32 kW.m1, .int .i32 kW.m2, .int .i64 kW.w, .int .i64 kW.p.f.k, .int .u8 kW.p.f.i, .int .u8 kW.p.f.r, .int .u8 kW.p.f.g, .int .u8 kW.p.f.b, .int .i64 kW.p.b.k, .int .u8 kW.p.b.i, .int .u8 kW.p.b.r, .int .u8 kW.p.b.g, .int .u8 kW.p.b.b, .int .u8 kW.p.fl, .int .i32 zeroK.r, .int .i32 zeroK.m0, .int .i32 zeroK.m1, .int .i32 zeroK.m2, .int .i64 zeroK.w, .int .i64 zeroK.p.f.k, .int .u8 zeroK.p.f.i, .int .u8 zeroK.p.f.r, .int .u8 zeroK.p.f.g, .int .u8 zeroK.p.f.b, .int .i64 zeroK.p.b.k, .int .u8 zeroK.p.b.i, .int .u8 zeroK.p.b.r, .int .u8 zeroK.p.b.g, .int .u8 zeroK.p.b.b, .int .u8 zeroK.p.fl] 30)) (by simp)) hj112 (by simp))
          have sc_112 := hide (Rd.kept (sc_0.out) hj112 (by simp))
          refine wpAnyH_ready (rs := [13]) (by kernel_rfl) (by simp) ?_
          refine AllReadyH.cons rfl (fun K hK => ?_) AllReadyH.nil
          go_simp
          refine (run_any 1 zeroW _).mono ?_
          rintro e V113 ⟨rfl, hj113⟩
          try go_wp2_with fail
          refine hK.out _ _ ?_ (fun hHeld => ?_)
          · (try dsimp only); (exact hHeld.kept hj113)
          clear hK K
          try simp only [Act.put, List.getElem_toArray, List.getElem_cons_succ, List.getElem_cons_zero, List.setIfInBounds_toArray, List.set_cons_zero, List.set_cons_succ]
          have hK113 := hide ((hK112.out).trans hj113 (by simp))
          have s11_113 := hide (Rd.kept (s11_112.out) hj113 (by simp))
          have sc_113 := hide (Rd.kept (sc_112.out) hj113 (by simp))
          refine wpAnyH_ready (rs := [14]) (by kernel_rfl) (by simp) ?_
          refine AllReadyH.cons rfl (fun K hK => ?_) AllReadyH.nil
          go_simp
          try go_wp2_with fail
          refine hK.out _ _ ?_ (fun hHeld => ?_)
          · (try dsimp only); (exact hHeld.kept ((Kept.refl [] _).alloc _))
          clear hK K
          try simp only [Act.put, List.getElem_toArray, List.getElem_cons_succ, List.getElem_cons_zero, List.setIfInBounds_toArray, List.set_cons_zero, List.set_cons_succ]
          have sr_0 : Hid (Rd (V113.alloc (.cells #[.int .i64 2, .int .u64 x6.a, .int .u64 x6.b, .int .u64 x6.c, .int .i64 1, .int .u64 x7.a, .int .u64 x7.b, .int .u64 x7.c, .int .i64 1, .int .u64 x8.a, .int .u64 x8.b, .int .u64 x8.c, .int .i64 1, .int .u64 zeroW.a, .int .u64 zeroW.b, .int .u64 zeroW.c] 67)) (some ⟨V113.heap.size, 0, none⟩) 4 4 (runsV [⟨2, x6⟩, ⟨1, x7⟩, ⟨1, x8⟩, ⟨1, zeroW⟩])) := hide (Rd.ofBlock rowRun (heap_new_at (w := V113) (by simp)) rfl)
          have F1 := hHeld
          have F2 := ((hK113.out).alloc (.cells #[.int .i64 2, .int .u64 x6.a, .int .u64 x6.b, .int .u64 x6.c, .int .i64 1, .int .u64 x7.a, .int .u64 x7.b, .int .u64 x7.c, .int .i64 1, .int .u64 x8.a, .int .u64 x8.b, .int .u64 x8.c, .int .i64 1, .int .u64 zeroW.a, .int .u64 zeroW.b, .int .u64 zeroW.c] 67))
          have F3 := Rd.kept (sc_113.out) ((Kept.refl [] _).alloc (.cells #[.int .i64 2, .int .u64 x6.a, .int .u64 x6.b, .int .u64 x6.c, .int .i64 1, .int .u64 x7.a, .int .u64 x7.b, .int .u64 x7.c, .int .i64 1, .int .u64 x8.a, .int .u64 x8.b, .int .u64 x8.c, .int .i64 1, .int .u64 zeroW.a, .int .u64 zeroW.b, .int .u64 zeroW.c] 67)) (by simp)
          have F4 := sr_0.out
          have F5 := Rd.kept (s11_113.out) ((Kept.refl [] _).alloc (.cells #[.int .i64 2, .int .u64 x6.a, .int .u64 x6.b, .int .u64 x6.c, .int .i64 1, .int .u64 x7.a, .int .u64 x7.b, .int .u64 x7.c, .int .i64 1, .int .u64 x8.a, .int .u64 x8.b, .int .u64 x8.c, .int .i64 1, .int .u64 zeroW.a, .int .u64 zeroW.b, .int .u64 zeroW.c] 67)) (by simp)
          generalize hv1 : Value.slice (some ⟨V111.heap.size, 0, none⟩) 5 5 = v1
          generalize hv2 : Value.slice (some ⟨V113.heap.size, 0, none⟩) 4 4 = v2
          exact H v1 v2 _ ⟨⟨F1, F2⟩, ⟨_, hv1.symm, F3⟩, ⟨_, hv2.symm, F4⟩, F5⟩
        · go_simp
          refine (run_any 1 x8 _).mono ?_
          rintro e V112 ⟨rfl, hj112⟩
          try go_wp2_with fail
          refine hK.out _ _ ?_ (fun hHeld => ?_)
          · (try dsimp only); (exact hHeld.kept hj112)
          clear hK K
          try simp only [Act.put, List.getElem_toArray, List.getElem_cons_succ, List.getElem_cons_zero, List.setIfInBounds_toArray, List.set_cons_zero, List.set_cons_succ]
          have hK112 := hide ((hK111.out).trans hj112 (by simp))
          have s11_112 := hide (Rd.kept (s11_111.out) hj112 (by simp))
          refine wpAnyH_ready (rs := [5, 13]) (by kernel_rfl) (by simp) ?_
          refine AllReadyH.cons rfl (fun K hK => ?_) (AllReadyH.cons rfl (fun K hK => ?_) AllReadyH.nil)
          · go_simp
            try go_wp2_with fail
            refine hK.out _ _ ?_ (fun hHeld => ?_)
            · (try dsimp only); (exact hHeld.kept ((Kept.refl [] _).alloc _))
            clear hK K
            try simp only [Act.put, List.getElem_toArray, List.getElem_cons_succ, List.getElem_cons_zero, List.setIfInBounds_toArray, List.set_cons_zero, List.set_cons_succ]
            have sc_0 : Hid (Rd (V112.alloc (.cells #[.int .i32 kA.r, .int .i32 kA.m0, .int .i32 kA.m1, .int .i32 kA.m2, .int .i64 kA.w, .int .i64 kA.p.f.k, .int .u8 kA.p.f.i, .int .u8 kA.p.f.r, .int .u8 kA.p.f.g, .int .u8 kA.p.f.b, .int .i64 kA.p.b.k, .int .u8 kA.p.b.i, .int .u8 kA.p.b.r, .int .u8 kA.p.b.g, .int .u8 kA.p.b.b, .int .u8 kA.p.fl, .int .i32 kA.r, .int .i32 kA.m0, .int .i32 kA.m1, .int .i32 kA.m2, .int .i64 kA.w, .int .i64 kA.p.f.k, .int .u8 kA.p.f.i, .int .u8 kA.p.f.r, .int .u8 kA.p.f.g, .int .u8 kA.p.f.b, .int .i64 kA.p.b.k, .int .u8 kA.p.b.i, .int .u8 kA.p.b.r, .int .u8 kA.p.b.g, .int .u8 kA.p.b.b, .int .u8 kA.p.fl, .int .i32 kE.r, .int .i32 kE.m0, .int .i32 kE.m1, .int .i32 kE.m2, .int .i64 kE.w, .int .i64 kE.p.f.k, .int .u8 kE.p.f.i, .int .u8 kE.p.f.r, .int .u8 kE.p.f.g, .int .u8 kE.p.f.b, .int .i64 kE.p.b.k, .int .u8 kE.p.b.i, .int .u8 kE.p.b.r, .int .u8 kE.p.b.g, .int .u8 kE.p.b.b, .int .u8 kE.p.fl, .int .i32 kW.r, .int .i32 kW.m0, .int .i32 kW.m1, .int .i32 kW.m2, .int .i64 kW.w, .int .i64 kW.p.f.k, .int .u8 kW.p.f.i, .int .u8 kW.p.f.r, .int .u8 kW.p.f.g, .int .u8 kW.p.f.b, .int .i64 kW.p.b.k, .int .u8 kW.p.b.i, .int .u8 kW.p.b.r, .int .u8 kW.p.b.g, .int .u8 kW.p.b.b, .int .u8 kW.p.fl, .int .i32 zeroK.r, .int .i32 zeroK.m0, .int .i32 zeroK.m1, .int .i32 zeroK.m2, .int .i64 zeroK.w, .int .i64 zeroK.p.f.k, .int .u8 zeroK.p.f.i, .int .u8 zeroK.p.f.r, .int .u8 zeroK.p.f.g, .int .u8 zeroK.p.f.b, .int .i64 zeroK.p.b.k, .int .u8 zeroK.p.b.i, .int .u8 zeroK.p.b.r, .int .u8 zeroK.p.b.g, .int .u8 zeroK.p.b.b, .int .u8 zeroK.p.fl] 30)) (some ⟨V112.heap.size, 0, none⟩) 5 16 (cellsV [kA, kA, kE, kW, zeroK])) := hide (Rd.blockC (heap_new_at (w := V112) (by simp)) rfl)
            refine wpAnyH_ready (rs := [13]) (by kernel_rfl) (by simp) ?_
            refine AllReadyH.cons rfl (fun K hK => ?_) AllReadyH.nil
            go_simp
            refine (run_any 1 zeroW _).mono ?_
            rintro e V113 ⟨rfl, hj113⟩
            try go_wp2_with fail
            refine hK.out _ _ ?_ (fun hHeld => ?_)
            · (try dsimp only); (exact hHeld.kept hj113)
            clear hK K
            try simp only [Act.put, List.getElem_toArray, List.getElem_cons_succ, List.getElem_cons_zero, List.setIfInBounds_toArray, List.set_cons_zero, List.set_cons_succ]
            have hK113 := hide (((hK112.out).alloc (.cells #[.int .i32 kA.r, .int .i32 kA.m0, .int .i32 kA.m1, .int .i32 kA.m2, .int .i64 kA.w, .int .i64 kA.p.f.k, .int .u8 kA.p.f.i, .int .u8 kA.p.f.r, .int .u8 kA.p.f.g, .int .u8 kA.p.f.b, .int .i64 kA.p.b.k, .int .u8 kA.p.b.i, .int .u8 kA.p.b.r, .int .u8 kA.p.b.g, .int .u8 kA.p.b.b, .int .u8 kA.p.fl, .int .i32 kA.r, .int .i32 kA.m0, .int .i32 kA.m1, .int .i32 kA.m2, .int .i64 kA.w, .int .i64 kA.p.f.k, .int .u8 kA.p.f.i, .int .u8 kA.p.f.r, .int .u8 kA.p.f.g, .int .u8 kA.p.f.b, .int .i64 kA.p.b.k, .int .u8 kA.p.b.i, .int .u8 kA.p.b.r, .int .u8 kA.p.b.g, .int .u8 kA.p.b.b, .int .u8 kA.p.fl, .int .i32 kE.r, .int .i32 kE.m0, .int .i32 kE.m1, .int .i32 kE.m2, .int .i64 kE.w, .int .i64 kE.p.f.k, .int .u8 kE.p.f.i, .int .u8 kE.p.f.r, .int .u8 kE.p.f.g, .int .u8 kE.p.f.b, .int .i64 kE.p.b.k, .int .u8 kE.p.b.i, .int .u8 kE.p.b.r, .int .u8 kE.p.b.g, .int .u8 kE.p.b.b, .int .u8 kE.p.fl, .int .i32 kW.r, .int .i32 kW.m0, .int .i32 kW.m1, .int .i32 kW.m2, .int .i64 kW.w, .int .i64 kW.p.f.k, .int .u8 kW.p.f.i, .int .u8 kW.p.f.r, .int .u8 kW.p.f.g, .int .u8 kW.p.f.b, .int .i64 kW.p.b.k, .int .u8 kW.p.b.i, .int .u8 kW.p.b.r, .int .u8 kW.p.b.g, .int .u8 kW.p.b.b, .int .u8 kW.p.fl, .int .i32 zeroK.r, .int .i32 zeroK.m0, .int .i32 zeroK.m1, .int .i32 zeroK.m2, .int .i64 zeroK.w, .int .i64 zeroK.p.f.k, .int .u8 zeroK.p.f.i, .int .u8 zeroK.p.f.r, .int .u8 zeroK.p.f.g, .int .u8 zeroK.p.f.b, .int .i64 zeroK.p.b.k, .int .u8 zeroK.p.b.i, .int .u8 zeroK.p.b.r, .int .u8 zeroK.p.b.g, .int .u8 zeroK.p.b.b, .int .u8 zeroK.p.fl] 30)).trans hj113 (by simp))
            have s11_113 := hide (Rd.kept (Rd.kept (s11_112.out) ((Kept.refl [] _).alloc (.cells #[.int .i32 kA.r, .int .i32 kA.m0, .int .i32 kA.m1, .int .i32 kA.m2, .int .i64 kA.w, .int .i64 kA.p.f.k, .int .u8 kA.p.f.i, .int .u8 kA.p.f.r, .int .u8 kA.p.f.g, .int .u8 kA.p.f.b, .int .i64 kA.p.b.k, .int .u8 kA.p.b.i, .int .u8 kA.p.b.r, .int .u8 kA.p.b.g, .int .u8 kA.p.b.b, .int .u8 kA.p.fl, .int .i32 kA.r, .int .i32 kA.m0, .int .i32 kA.m1, .int .i32 kA.m2, .int .i64 kA.w, .int .i64 kA.p.f.k, .int .u8 kA.p.f.i, .int .u8 kA.p.f.r, .int .u8 kA.p.f.g, .int .u8 kA.p.f.b, .int .i64 kA.p.b.k, .int .u8 kA.p.b.i, .int .u8 kA.p.b.r, .int .u8 kA.p.b.g, .int .u8 kA.p.b.b, .int .u8 kA.p.fl, .int .i32 kE.r, .int .i32 kE.m0, .int .i32 kE.m1, .int .i32 kE.m2, .int .i64 kE.w, .int .i64 kE.p.f.k, .int .u8 kE.p.f.i, .int .u8 kE.p.f.r, .int .u8 kE.p.f.g, .int .u8 kE.p.f.b, .int .i64 kE.p.b.k, .int .u8 kE.p.b.i, .int .u8 kE.p.b.r, .int .u8 kE.p.b.g, .int .u8 kE.p.b.b, .int .u8 kE.p.fl, .int .i32 kW.r, .int .i32 kW.m0, .int .i32 kW.m1, .int .i32 kW.m2, .int .i64 kW.w, .int .i64 kW.p.f.k, .int .u8 kW.p.f.i, .int .u8 kW.p.f.r, .int .u8 kW.p.f.g, .int .u8 kW.p.f.b, .int .i64 kW.p.b.k, .int .u8 kW.p.b.i, .int .u8 kW.p.b.r, .int .u8 kW.p.b.g, .int .u8 kW.p.b.b, .int .u8 kW.p.fl, .int .i32 zeroK.r, .int .i32 zeroK.m0, .int .i32 zeroK.m1, .int .i32 zeroK.m2, .int .i64 zeroK.w, .int .i64 zeroK.p.f.k, .int .u8 zeroK.p.f.i, .int .u8 zeroK.p.f.r, .int .u8 zeroK.p.f.g, .int .u8 zeroK.p.f.b, .int .i64 zeroK.p.b.k, .int .u8 zeroK.p.b.i, .int .u8 zeroK.p.b.r, .int .u8 zeroK.p.b.g, .int .u8 zeroK.p.b.b, .int .u8 zeroK.p.fl] 30)) (by simp)) hj113 (by simp))
            have sc_113 := hide (Rd.kept (sc_0.out) hj113 (by simp))
            refine wpAnyH_ready (rs := [14]) (by kernel_rfl) (by simp) ?_
            refine AllReadyH.cons rfl (fun K hK => ?_) AllReadyH.nil
            go_simp
            try go_wp2_with fail
            refine hK.out _ _ ?_ (fun hHeld => ?_)
            · (try dsimp only); (exact hHeld.kept ((Kept.refl [] _).alloc _))
            clear hK K
            try simp only [Act.put, List.getElem_toArray, List.getElem_cons_succ, List.getElem_cons_zero, List.setIfInBounds_toArray, List.set_cons_zero, List.set_cons_succ]
            have sr_0 : Hid (Rd (V113.alloc (.cells #[.int .i64 2, .int .u64 x6.a, .int .u64 x6.b, .int .u64 x6.c, .int .i64 1, .int .u64 x7.a, .int .u64 x7.b, .int .u64 x7.c, .int .i64 1, .int .u64 x8.a, .int .u64 x8.b, .int .u64 x8.c, .int .i64 1, .int .u64 zeroW.a, .int .u64 zeroW.b, .int .u64 zeroW.c] 67)) (some ⟨V113.heap.size, 0, none⟩) 4 4 (runsV [⟨2, x6⟩, ⟨1, x7⟩, ⟨1, x8⟩, ⟨1, zeroW⟩])) := hide (Rd.ofBlock rowRun (heap_new_at (w := V113) (by simp)) rfl)
            have F1 := hHeld
            have F2 := ((hK113.out).alloc (.cells #[.int .i64 2, .int .u64 x6.a, .int .u64 x6.b, .int .u64 x6.c, .int .i64 1, .int .u64 x7.a, .int .u64 x7.b, .int .u64 x7.c, .int .i64 1, .int .u64 x8.a, .int .u64 x8.b, .int .u64 x8.c, .int .i64 1, .int .u64 zeroW.a, .int .u64 zeroW.b, .int .u64 zeroW.c] 67))
            have F3 := Rd.kept (sc_113.out) ((Kept.refl [] _).alloc (.cells #[.int .i64 2, .int .u64 x6.a, .int .u64 x6.b, .int .u64 x6.c, .int .i64 1, .int .u64 x7.a, .int .u64 x7.b, .int .u64 x7.c, .int .i64 1, .int .u64 x8.a, .int .u64 x8.b, .int .u64 x8.c, .int .i64 1, .int .u64 zeroW.a, .int .u64 zeroW.b, .int .u64 zeroW.c] 67)) (by simp)
            have F4 := sr_0.out
            have F5 := Rd.kept (s11_113.out) ((Kept.refl [] _).alloc (.cells #[.int .i64 2, .int .u64 x6.a, .int .u64 x6.b, .int .u64 x6.c, .int .i64 1, .int .u64 x7.a, .int .u64 x7.b, .int .u64 x7.c, .int .i64 1, .int .u64 x8.a, .int .u64 x8.b, .int .u64 x8.c, .int .i64 1, .int .u64 zeroW.a, .int .u64 zeroW.b, .int .u64 zeroW.c] 67)) (by simp)
            generalize hv1 : Value.slice (some ⟨V112.heap.size, 0, none⟩) 5 5 = v1
            generalize hv2 : Value.slice (some ⟨V113.heap.size, 0, none⟩) 4 4 = v2
            exact H v1 v2 _ ⟨⟨F1, F2⟩, ⟨_, hv1.symm, F3⟩, ⟨_, hv2.symm, F4⟩, F5⟩
          · go_simp
            refine (run_any 1 zeroW _).mono ?_
            rintro e V113 ⟨rfl, hj113⟩
            try go_wp2_with fail
            refine hK.out _ _ ?_ (fun hHeld => ?_)
            · (try dsimp only); (exact hHeld.kept hj113)
            clear hK K
            try simp only [Act.put, List.getElem_toArray, List.getElem_cons_succ, List.getElem_cons_zero, List.setIfInBounds_toArray, List.set_cons_zero, List.set_cons_succ]
            have hK113 := hide ((hK112.out).trans hj113 (by simp))
            have s11_113 := hide (Rd.kept (s11_112.out) hj113 (by simp))
            refine wpAnyH_ready (rs := [5, 14]) (by kernel_rfl) (by simp) ?_
            refine AllReadyH.cons rfl (fun K hK => ?_) (AllReadyH.cons rfl (fun K hK => ?_) AllReadyH.nil)
            · go_simp
              try go_wp2_with fail
              refine hK.out _ _ ?_ (fun hHeld => ?_)
              · (try dsimp only); (exact hHeld.kept ((Kept.refl [] _).alloc _))
              clear hK K
              try simp only [Act.put, List.getElem_toArray, List.getElem_cons_succ, List.getElem_cons_zero, List.setIfInBounds_toArray, List.set_cons_zero, List.set_cons_succ]
              have sc_0 : Hid (Rd (V113.alloc (.cells #[.int .i32 kA.r, .int .i32 kA.m0, .int .i32 kA.m1, .int .i32 kA.m2, .int .i64 kA.w, .int .i64 kA.p.f.k, .int .u8 kA.p.f.i, .int .u8 kA.p.f.r, .int .u8 kA.p.f.g, .int .u8 kA.p.f.b, .int .i64 kA.p.b.k, .int .u8 kA.p.b.i, .int .u8 kA.p.b.r, .int .u8 kA.p.b.g, .int .u8 kA.p.b.b, .int .u8 kA.p.fl, .int .i32 kA.r, .int .i32 kA.m0, .int .i32 kA.m1, .int .i32 kA.m2, .int .i64 kA.w, .int .i64 kA.p.f.k, .int .u8 kA.p.f.i, .int .u8 kA.p.f.r, .int .u8 kA.p.f.g, .int .u8 kA.p.f.b, .int .i64 kA.p.b.k, .int .u8 kA.p.b.i, .int .u8 kA.p.b.r, .int .u8 kA.p.b.g, .int .u8 kA.p.b.b, .int .u8 kA.p.fl, .int .i32 kE.r, .int .i32 kE.m0, .int .i32 kE.m1, .int .i32 kE.m2, .int .i64 kE.w, .int .i64 kE.p.f.k, .int .u8 kE.p.f.i, .int .u8 kE.p.f.r, .int .u8 kE.p.f.g, .int .u8 kE.p.f.b, .int .i64 kE.p.b.k, .int .u8 kE.p.b.i, .int .u8 kE.p.b.r, .int .u8 kE.p.b.g, .int .u8 kE.p.b.b, .int .u8 kE.p.fl, .int .i32 kW.r, .int .i32 kW.m0, .int .i32 kW.m1, .int .i32 kW.m2, .int .i64 kW.w, .int .i64 kW.p.f.k, .int .u8 kW.p.f.i, .int .u8 kW.p.f.r, .int .u8 kW.p.f.g, .int .u8 kW.p.f.b, .int .i64 kW.p.b.k, .int .u8 kW.p.b.i, .int .u8 kW.p.b.r, .int .u8 kW.p.b.g, .int .u8 kW.p.b.b, .int .u8 kW.p.fl, .int .i32 zeroK.r, .int .i32 zeroK.m0, .int .i32 zeroK.m1, .int .i32 zeroK.m2, .int .i64 zeroK.w, .int .i64 zeroK.p.f.k, .int .u8 zeroK.p.f.i, .int .u8 zeroK.p.f.r, .int .u8 zeroK.p.f.g, .int .u8 zeroK.p.f.b, .int .i64 zeroK.p.b.k, .int .u8 zeroK.p.b.i, .int .u8 zeroK.p.b.r, .int .u8 zeroK.p.b.g, .int .u8 zeroK.p.b.b, .int .u8 zeroK.p.fl] 30)) (some ⟨V113.heap.size, 0, none⟩) 5 16 (cellsV [kA, kA, kE, kW, zeroK])) := hide (Rd.blockC (heap_new_at (w := V113) (by simp)) rfl)
              refine wpAnyH_ready (rs := [14]) (by kernel_rfl) (by simp) ?_
              refine AllReadyH.cons rfl (fun K hK => ?_) AllReadyH.nil
              go_simp
              try go_wp2_with fail
              refine hK.out _ _ ?_ (fun hHeld => ?_)
              · (try dsimp only); (exact hHeld.kept ((Kept.refl [] _).alloc _))
              clear hK K
              try simp only [Act.put, List.getElem_toArray, List.getElem_cons_succ, List.getElem_cons_zero, List.setIfInBounds_toArray, List.set_cons_zero, List.set_cons_succ]
              have sr_0 : Hid (Rd ((V113.alloc (.cells #[.int .i32 kA.r, .int .i32 kA.m0, .int .i32 kA.m1, .int .i32 kA.m2, .int .i64 kA.w, .int .i64 kA.p.f.k, .int .u8 kA.p.f.i, .int .u8 kA.p.f.r, .int .u8 kA.p.f.g, .int .u8 kA.p.f.b, .int .i64 kA.p.b.k, .int .u8 kA.p.b.i, .int .u8 kA.p.b.r, .int .u8 kA.p.b.g, .int .u8 kA.p.b.b, .int .u8 kA.p.fl, .int .i32 kA.r, .int .i32 kA.m0, .int .i32 kA.m1, .int .i32 kA.m2, .int .i64 kA.w, .int .i64 kA.p.f.k, .int .u8 kA.p.f.i, .int .u8 kA.p.f.r, .int .u8 kA.p.f.g, .int .u8 kA.p.f.b, .int .i64 kA.p.b.k, .int .u8 kA.p.b.i, .int .u8 kA.p.b.r, .int .u8 kA.p.b.g, .int .u8 kA.p.b.b, .int .u8 kA.p.fl, .int .i32 kE.r, .int .i32 kE.m0, .int .i32 kE.m1, .int .i32 kE.m2, .int .i64 kE.w, .int .i64 kE.p.f.k, .int .u8 kE.p.f.i, .int .u8 kE.p.f.r, .int .u8 kE.p.f.g, .int .u8 kE.p.f.b, .int .i64 kE.p.b.k, .int .u8 kE.p.b.i, .int .u8 kE.p.b.r, .int .u8 kE.p.b.g, .int .u8 kE.p.b.b, .int .u8 kE.p.fl, .int .i32 kW.r, .int .i32 kW.m0, .int .i32 kW.m1, .int .i32 kW.m2, .int .i64 kW.w, .int .i64 kW.p.f.k, .int .u8 kW.p.f.i, .int .u8 kW.p.f.r, .int .u8 kW.p.f.g, .int .u8 kW.p.f.b, .int .i64 kW.p.b.k, .int .u8 kW.p.b.i, .int .u8 kW.p.b.r, .int .u8 kW.p.b.g, .int .u8 kW.p.b.b, .int .u8 kW.p.fl, .int .i32 zeroK.r, .int .i32 zeroK.m0, .int .i32 zeroK.m1, .int .i32 zeroK.m2, .int .i64 zeroK.w, .int .i64 zeroK.p.f.k, .int .u8 zeroK.p.f.i, .int .u8 zeroK.p.f.r, .int .u8 zeroK.p.f.g, .int .u8 zeroK.p.f.b, .int .i64 zeroK.p.b.k, .int .u8 zeroK.p.b.i, .int .u8 zeroK.p.b.r, .int .u8 zeroK.p.b.g, .int .u8 zeroK.p.b.b, .int .u8 zeroK.p.fl] 30)).alloc (.cells #[.int .i64 2, .int .u64 x6.a, .int .u64 x6.b, .int .u64 x6.c, .int .i64 1, .int .u64 x7.a, .int .u64 x7.b, .int .u64 x7.c, .int .i64 1, .int .u64 x8.a, .int .u64 x8.b, .int .u64 x8.c, .int .i64 1, .int .u64 zeroW.a, .int .u64 zeroW.b, .int .u64 zeroW.c] 67)) (some ⟨V113.heap.size + 1, 0, none⟩) 4 4 (runsV [⟨2, x6⟩, ⟨1, x7⟩, ⟨1, x8⟩, ⟨1, zeroW⟩])) := hide (Rd.ofBlock rowRun (heap_new_at (w := (V113.alloc (.cells #[.int .i32 kA.r, .int .i32 kA.m0, .int .i32 kA.m1, .int .i32 kA.m2, .int .i64 kA.w, .int .i64 kA.p.f.k, .int .u8 kA.p.f.i, .int .u8 kA.p.f.r, .int .u8 kA.p.f.g, .int .u8 kA.p.f.b, .int .i64 kA.p.b.k, .int .u8 kA.p.b.i, .int .u8 kA.p.b.r, .int .u8 kA.p.b.g, .int .u8 kA.p.b.b, .int .u8 kA.p.fl, .int .i32 kA.r, .int .i32 kA.m0, .int .i32 kA.m1, .int .i32 kA.m2, .int .i64 kA.w, .int .i64 kA.p.f.k, .int .u8 kA.p.f.i, .int .u8 kA.p.f.r, .int .u8 kA.p.f.g, .int .u8 kA.p.f.b, .int .i64 kA.p.b.k, .int .u8 kA.p.b.i, .int .u8 kA.p.b.r, .int .u8 kA.p.b.g, .int .u8 kA.p.b.b, .int .u8 kA.p.fl, .int .i32 kE.r, .int .i32 kE.m0, .int .i32 kE.m1, .int .i32 kE.m2, .int .i64 kE.w, .int .i64 kE.p.f.k, .int .u8 kE.p.f.i, .int .u8 kE.p.f.r, .int .u8 kE.p.f.g, .int .u8 kE.p.f.b, .int .i64 kE.p.b.k, .int .u8 kE.p.b.i, .int .u8 kE.p.b.r, .int .u8 kE.p.b.g, .int .u8 kE.p.b.b, .int .u8 kE.p.fl, .int .i32 kW.r, .int .i32 kW.m0, .int .i32 kW.m1, .int .i32 kW.m2, .int .i64 kW.w, .int .i64 kW.p.f.k, .int .u8 kW.p.f.i, .int .u8 kW.p.f.r, .int .u8 kW.p.f.g, .int .u8 kW.p.f.b, .int .i64 kW.p.b.k, .int .u8 kW.p.b.i, .int .u8 kW.p.b.r, .int .u8 kW.p.b.g, .int .u8 kW.p.b.b, .int .u8 kW.p.fl, .int .i32 zeroK.r, .int .i32 zeroK.m0, .int .i32 zeroK.m1, .int .i32 zeroK.m2, .int .i64 zeroK.w, .int .i64 zeroK.p.f.k, .int .u8 zeroK.p.f.i, .int .u8 zeroK.p.f.r, .int .u8 zeroK.p.f.g, .int .u8 zeroK.p.f.b, .int .i64 zeroK.p.b.k, .int .u8 zeroK.p.b.i, .int .u8 zeroK.p.b.r, .int .u8 zeroK.p.b.g, .int .u8 zeroK.p.b.b, .int .u8 zeroK.p.fl] 30))) (by simp)) rfl)
              have F1 := hHeld
              have F2 := (((hK113.out).alloc (.cells #[.int .i32 kA.r, .int .i32 kA.m0, .int .i32 kA.m1, .int .i32 kA.m2, .int .i64 kA.w, .int .i64 kA.p.f.k, .int .u8 kA.p.f.i, .int .u8 kA.p.f.r, .int .u8 kA.p.f.g, .int .u8 kA.p.f.b, .int .i64 kA.p.b.k, .int .u8 kA.p.b.i, .int .u8 kA.p.b.r, .int .u8 kA.p.b.g, .int .u8 kA.p.b.b, .int .u8 kA.p.fl, .int .i32 kA.r, .int .i32 kA.m0, .int .i32 kA.m1, .int .i32 kA.m2, .int .i64 kA.w, .int .i64 kA.p.f.k, .int .u8 kA.p.f.i, .int .u8 kA.p.f.r, .int .u8 kA.p.f.g, .int .u8 kA.p.f.b, .int .i64 kA.p.b.k, .int .u8 kA.p.b.i, .int .u8 kA.p.b.r, .int .u8 kA.p.b.g, .int .u8 kA.p.b.b, .int .u8 kA.p.fl, .int .i32 kE.r, .int .i32 kE.m0, .int .i32 kE.m1, .int .i32 kE.m2, .int .i64 kE.w, .int .i64 kE.p.f.k, .int .u8 kE.p.f.i, .int .u8 kE.p.f.r, .int .u8 kE.p.f.g, .int .u8 kE.p.f.b, .int .i64 kE.p.b.k, .int .u8 kE.p.b.i, .int .u8 kE.p.b.r, .int .u8 kE.p.b.g, .int .u8 kE.p.b.b, .int .u8 kE.p.fl, .int .i32 kW.r, .int .i32 kW.m0, .int .i32 kW.m1, .int .i32 kW.m2, .int .i64 kW.w, .int .i64 kW.p.f.k, .int .u8 kW.p.f.i, .int .u8 kW.p.f.r, .int .u8 kW.p.f.g, .int .u8 kW.p.f.b, .int .i64 kW.p.b.k, .int .u8 kW.p.b.i, .int .u8 kW.p.b.r, .int .u8 kW.p.b.g, .int .u8 kW.p.b.b, .int .u8 kW.p.fl, .int .i32 zeroK.r, .int .i32 zeroK.m0, .int .i32 zeroK.m1, .int .i32 zeroK.m2, .int .i64 zeroK.w, .int .i64 zeroK.p.f.k, .int .u8 zeroK.p.f.i, .int .u8 zeroK.p.f.r, .int .u8 zeroK.p.f.g, .int .u8 zeroK.p.f.b, .int .i64 zeroK.p.b.k, .int .u8 zeroK.p.b.i, .int .u8 zeroK.p.b.r, .int .u8 zeroK.p.b.g, .int .u8 zeroK.p.b.b, .int .u8 zeroK.p.fl] 30)).alloc (.cells #[.int .i64 2, .int .u64 x6.a, .int .u64 x6.b, .int .u64 x6.c, .int .i64 1, .int .u64 x7.a, .int .u64 x7.b, .int .u64 x7.c, .int .i64 1, .int .u64 x8.a, .int .u64 x8.b, .int .u64 x8.c, .int .i64 1, .int .u64 zeroW.a, .int .u64 zeroW.b, .int .u64 zeroW.c] 67))
              have F3 := Rd.kept (sc_0.out) ((Kept.refl [] _).alloc (.cells #[.int .i64 2, .int .u64 x6.a, .int .u64 x6.b, .int .u64 x6.c, .int .i64 1, .int .u64 x7.a, .int .u64 x7.b, .int .u64 x7.c, .int .i64 1, .int .u64 x8.a, .int .u64 x8.b, .int .u64 x8.c, .int .i64 1, .int .u64 zeroW.a, .int .u64 zeroW.b, .int .u64 zeroW.c] 67)) (by simp)
              have F4 := sr_0.out
              have F5 := Rd.kept (Rd.kept (s11_113.out) ((Kept.refl [] _).alloc (.cells #[.int .i32 kA.r, .int .i32 kA.m0, .int .i32 kA.m1, .int .i32 kA.m2, .int .i64 kA.w, .int .i64 kA.p.f.k, .int .u8 kA.p.f.i, .int .u8 kA.p.f.r, .int .u8 kA.p.f.g, .int .u8 kA.p.f.b, .int .i64 kA.p.b.k, .int .u8 kA.p.b.i, .int .u8 kA.p.b.r, .int .u8 kA.p.b.g, .int .u8 kA.p.b.b, .int .u8 kA.p.fl, .int .i32 kA.r, .int .i32 kA.m0, .int .i32 kA.m1, .int .i32 kA.m2, .int .i64 kA.w, .int .i64 kA.p.f.k, .int .u8 kA.p.f.i, .int .u8 kA.p.f.r, .int .u8 kA.p.f.g, .int .u8 kA.p.f.b, .int .i64 kA.p.b.k, .int .u8 kA.p.b.i, .int .u8 kA.p.b.r, .int .u8 kA.p.b.g, .int .u8 kA.p.b.b, .int .u8 kA.p.fl, .int .i32 kE.r, .int .i32 kE.m0, .int .i32 kE.m1, .int .i32 kE.m2, .int .i64 kE.w, .int .i64 kE.p.f.k, .int .u8 kE.p.f.i, .int .u8 kE.p.f.r, .int .u8 kE.p.f.g, .int .u8 kE.p.f.b, .int .i64 kE.p.b.k, .int .u8 kE.p.b.i, .int .u8 kE.p.b.r, .int .u8 kE.p.b.g, .int .u8 kE.p.b.b, .int .u8 kE.p.fl, .int .i32 kW.r, .int .i32 kW.m0, .int .i32 kW.m1, .int .i32 kW.m2, .int .i64 kW.w, .int .i64 kW.p.f.k, .int .u8 kW.p.f.i, .int .u8 kW.p.f.r, .int .u8 kW.p.f.g, .int .u8 kW.p.f.b, .int .i64 kW.p.b.k, .int .u8 kW.p.b.i, .int .u8 kW.p.b.r, .int .u8 kW.p.b.g, .int .u8 kW.p.b.b, .int .u8 kW.p.fl, .int .i32 zeroK.r, .int .i32 zeroK.m0, .int .i32 zeroK.m1, .int .i32 zeroK.m2, .int .i64 zeroK.w, .int .i64 zeroK.p.f.k, .int .u8 zeroK.p.f.i, .int .u8 zeroK.p.f.r, .int .u8 zeroK.p.f.g, .int .u8 zeroK.p.f.b, .int .i64 zeroK.p.b.k, .int .u8 zeroK.p.b.i, .int .u8 zeroK.p.b.r, .int .u8 zeroK.p.b.g, .int .u8 zeroK.p.b.b, .int .u8 zeroK.p.fl] 30)) (by simp)) ((Kept.refl [] _).alloc (.cells #[.int .i64 2, .int .u64 x6.a, .int .u64 x6.b, .int .u64 x6.c, .int .i64 1, .int .u64 x7.a, .int .u64 x7.b, .int .u64 x7.c, .int .i64 1, .int .u64 x8.a, .int .u64 x8.b, .int .u64 x8.c, .int .i64 1, .int .u64 zeroW.a, .int .u64 zeroW.b, .int .u64 zeroW.c] 67)) (by simp)
              generalize hv1 : Value.slice (some ⟨V113.heap.size, 0, none⟩) 5 5 = v1
              generalize hv2 : Value.slice (some ⟨V113.heap.size + 1, 0, none⟩) 4 4 = v2
              exact H v1 v2 _ ⟨⟨F1, F2⟩, ⟨_, hv1.symm, F3⟩, ⟨_, hv2.symm, F4⟩, F5⟩
            · go_simp
              try go_wp2_with fail
              refine hK.out _ _ ?_ (fun hHeld => ?_)
              · (try dsimp only); (exact hHeld.kept ((Kept.refl [] _).alloc _))
              clear hK K
              try simp only [Act.put, List.getElem_toArray, List.getElem_cons_succ, List.getElem_cons_zero, List.setIfInBounds_toArray, List.set_cons_zero, List.set_cons_succ]
              have sr_0 : Hid (Rd (V113.alloc (.cells #[.int .i64 2, .int .u64 x6.a, .int .u64 x6.b, .int .u64 x6.c, .int .i64 1, .int .u64 x7.a, .int .u64 x7.b, .int .u64 x7.c, .int .i64 1, .int .u64 x8.a, .int .u64 x8.b, .int .u64 x8.c, .int .i64 1, .int .u64 zeroW.a, .int .u64 zeroW.b, .int .u64 zeroW.c] 67)) (some ⟨V113.heap.size, 0, none⟩) 4 4 (runsV [⟨2, x6⟩, ⟨1, x7⟩, ⟨1, x8⟩, ⟨1, zeroW⟩])) := hide (Rd.ofBlock rowRun (heap_new_at (w := V113) (by simp)) rfl)
              refine wpAnyH_ready (rs := [5]) (by kernel_rfl) (by simp) ?_
              refine AllReadyH.cons rfl (fun K hK => ?_) AllReadyH.nil
              go_simp
              try go_wp2_with fail
              refine hK.out _ _ ?_ (fun hHeld => ?_)
              · (try dsimp only); (exact hHeld.kept ((Kept.refl [] _).alloc _))
              clear hK K
              try simp only [Act.put, List.getElem_toArray, List.getElem_cons_succ, List.getElem_cons_zero, List.setIfInBounds_toArray, List.set_cons_zero, List.set_cons_succ]
              have sc_0 : Hid (Rd ((V113.alloc (.cells #[.int .i64 2, .int .u64 x6.a, .int .u64 x6.b, .int .u64 x6.c, .int .i64 1, .int .u64 x7.a, .int .u64 x7.b, .int .u64 x7.c, .int .i64 1, .int .u64 x8.a, .int .u64 x8.b, .int .u64 x8.c, .int .i64 1, .int .u64 zeroW.a, .int .u64 zeroW.b, .int .u64 zeroW.c] 67)).alloc (.cells #[.int .i32 kA.r, .int .i32 kA.m0, .int .i32 kA.m1, .int .i32 kA.m2, .int .i64 kA.w, .int .i64 kA.p.f.k, .int .u8 kA.p.f.i, .int .u8 kA.p.f.r, .int .u8 kA.p.f.g, .int .u8 kA.p.f.b, .int .i64 kA.p.b.k, .int .u8 kA.p.b.i, .int .u8 kA.p.b.r, .int .u8 kA.p.b.g, .int .u8 kA.p.b.b, .int .u8 kA.p.fl, .int .i32 kA.r, .int .i32 kA.m0, .int .i32 kA.m1, .int .i32 kA.m2, .int .i64 kA.w, .int .i64 kA.p.f.k, .int .u8 kA.p.f.i, .int .u8 kA.p.f.r, .int .u8 kA.p.f.g, .int .u8 kA.p.f.b, .int .i64 kA.p.b.k, .int .u8 kA.p.b.i, .int .u8 kA.p.b.r, .int .u8 kA.p.b.g, .int .u8 kA.p.b.b, .int .u8 kA.p.fl, .int .i32 kE.r, .int .i32 kE.m0, .int .i32 kE.m1, .int .i32 kE.m2, .int .i64 kE.w, .int .i64 kE.p.f.k, .int .u8 kE.p.f.i, .int .u8 kE.p.f.r, .int .u8 kE.p.f.g, .int .u8 kE.p.f.b, .int .i64 kE.p.b.k, .int .u8 kE.p.b.i, .int .u8 kE.p.b.r, .int .u8 kE.p.b.g, .int .u8 kE.p.b.b, .int .u8 kE.p.fl, .int .i32 kW.r, .int .i32 kW.m0, .int .i32 kW.m1, .int .i32 kW.m2, .int .i64 kW.w, .int .i64 kW.p.f.k, .int .u8 kW.p.f.i, .int .u8 kW.p.f.r, .int .u8 kW.p.f.g, .int .u8 kW.p.f.b, .int .i64 kW.p.b.k, .int .u8 kW.p.b.i, .int .u8 kW.p.b.r, .int .u8 kW.p.b.g, .int .u8 kW.p.b.b, .int .u8 kW.p.fl, .int .i32 zeroK.r, .int .i32 zeroK.m0, .int .i32 zeroK.m1, .int .i32 zeroK.m2, .int .i64 zeroK.w, .int .i64 zeroK.p.f.k, .int .u8 zeroK.p.f.i, .int .u8 zeroK.p.f.r, .int .u8 zeroK.p.f.g, .int .u8 zeroK.p.f.b, .int .i64 zeroK.p.b.k, .int .u8 zeroK.p.b.i, .int .u8 zeroK.p.b.r, .int .u8 zeroK.p.b.g, .int .u8 zeroK.p.b.b, .int .u8 zeroK.p.fl] 30)) (some ⟨V113.heap.size + 1, 0, none⟩) 5 16 (cellsV [kA, kA, kE, kW, zeroK])) := hide (Rd.blockC (heap_new_at (w := (V113.alloc (.cells #[.int .i64 2, .int .u64 x6.a, .int .u64 x6.b, .int .u64 x6.c, .int .i64 1, .int .u64 x7.a, .int .u64 x7.b, .int .u64 x7.c, .int .i64 1, .int .u64 x8.a, .int .u64 x8.b, .int .u64 x8.c, .int .i64 1, .int .u64 zeroW.a, .int .u64 zeroW.b, .int .u64 zeroW.c] 67))) (by simp)) rfl)
              have F1 := hHeld
              have F2 := (((hK113.out).alloc (.cells #[.int .i64 2, .int .u64 x6.a, .int .u64 x6.b, .int .u64 x6.c, .int .i64 1, .int .u64 x7.a, .int .u64 x7.b, .int .u64 x7.c, .int .i64 1, .int .u64 x8.a, .int .u64 x8.b, .int .u64 x8.c, .int .i64 1, .int .u64 zeroW.a, .int .u64 zeroW.b, .int .u64 zeroW.c] 67)).alloc (.cells #[.int .i32 kA.r, .int .i32 kA.m0, .int .i32 kA.m1, .int .i32 kA.m2, .int .i64 kA.w, .int .i64 kA.p.f.k, .int .u8 kA.p.f.i, .int .u8 kA.p.f.r, .int .u8 kA.p.f.g, .int .u8 kA.p.f.b, .int .i64 kA.p.b.k, .int .u8 kA.p.b.i, .int .u8 kA.p.b.r, .int .u8 kA.p.b.g, .int .u8 kA.p.b.b, .int .u8 kA.p.fl, .int .i32 kA.r, .int .i32 kA.m0, .int .i32 kA.m1, .int .i32 kA.m2, .int .i64 kA.w, .int .i64 kA.p.f.k, .int .u8 kA.p.f.i, .int .u8 kA.p.f.r, .int .u8 kA.p.f.g, .int .u8 kA.p.f.b, .int .i64 kA.p.b.k, .int .u8 kA.p.b.i, .int .u8 kA.p.b.r, .int .u8 kA.p.b.g, .int .u8 kA.p.b.b, .int .u8 kA.p.fl, .int .i32 kE.r, .int .i32 kE.m0, .int .i32 kE.m1, .int .i32 kE.m2, .int .i64 kE.w, .int .i64 kE.p.f.k, .int .u8 kE.p.f.i, .int .u8 kE.p.f.r, .int .u8 kE.p.f.g, .int .u8 kE.p.f.b, .int .i64 kE.p.b.k, .int .u8 kE.p.b.i, .int .u8 kE.p.b.r, .int .u8 kE.p.b.g, .int .u8 kE.p.b.b, .int .u8 kE.p.fl, .int .i32 kW.r, .int .i32 kW.m0, .int .i32 kW.m1, .int .i32 kW.m2, .int .i64 kW.w, .int .i64 kW.p.f.k, .int .u8 kW.p.f.i, .int .u8 kW.p.f.r, .int .u8 kW.p.f.g, .int .u8 kW.p.f.b, .int .i64 kW.p.b.k, .int .u8 kW.p.b.i, .int .u8 kW.p.b.r, .int .u8 kW.p.b.g, .int .u8 kW.p.b.b, .int .u8 kW.p.fl, .int .i32 zeroK.r, .int .i32 zeroK.m0, .int .i32 zeroK.m1, .int .i32 zeroK.m2, .int .i64 zeroK.w, .int .i64 zeroK.p.f.k, .int .u8 zeroK.p.f.i, .int .u8 zeroK.p.f.r, .int .u8 zeroK.p.f.g, .int .u8 zeroK.p.f.b, .int .i64 zeroK.p.b.k, .int .u8 zeroK.p.b.i, .int .u8 zeroK.p.b.r, .int .u8 zeroK.p.b.g, .int .u8 zeroK.p.b.b, .int .u8 zeroK.p.fl] 30))
              have F3 := sc_0.out
              have F4 := Rd.kept (sr_0.out) ((Kept.refl [] _).alloc (.cells #[.int .i32 kA.r, .int .i32 kA.m0, .int .i32 kA.m1, .int .i32 kA.m2, .int .i64 kA.w, .int .i64 kA.p.f.k, .int .u8 kA.p.f.i, .int .u8 kA.p.f.r, .int .u8 kA.p.f.g, .int .u8 kA.p.f.b, .int .i64 kA.p.b.k, .int .u8 kA.p.b.i, .int .u8 kA.p.b.r, .int .u8 kA.p.b.g, .int .u8 kA.p.b.b, .int .u8 kA.p.fl, .int .i32 kA.r, .int .i32 kA.m0, .int .i32 kA.m1, .int .i32 kA.m2, .int .i64 kA.w, .int .i64 kA.p.f.k, .int .u8 kA.p.f.i, .int .u8 kA.p.f.r, .int .u8 kA.p.f.g, .int .u8 kA.p.f.b, .int .i64 kA.p.b.k, .int .u8 kA.p.b.i, .int .u8 kA.p.b.r, .int .u8 kA.p.b.g, .int .u8 kA.p.b.b, .int .u8 kA.p.fl, .int .i32 kE.r, .int .i32 kE.m0, .int .i32 kE.m1, .int .i32 kE.m2, .int .i64 kE.w, .int .i64 kE.p.f.k, .int .u8 kE.p.f.i, .int .u8 kE.p.f.r, .int .u8 kE.p.f.g, .int .u8 kE.p.f.b, .int .i64 kE.p.b.k, .int .u8 kE.p.b.i, .int .u8 kE.p.b.r, .int .u8 kE.p.b.g, .int .u8 kE.p.b.b, .int .u8 kE.p.fl, .int .i32 kW.r, .int .i32 kW.m0, .int .i32 kW.m1, .int .i32 kW.m2, .int .i64 kW.w, .int .i64 kW.p.f.k, .int .u8 kW.p.f.i, .int .u8 kW.p.f.r, .int .u8 kW.p.f.g, .int .u8 kW.p.f.b, .int .i64 kW.p.b.k, .int .u8 kW.p.b.i, .int .u8 kW.p.b.r, .int .u8 kW.p.b.g, .int .u8 kW.p.b.b, .int .u8 kW.p.fl, .int .i32 zeroK.r, .int .i32 zeroK.m0, .int .i32 zeroK.m1, .int .i32 zeroK.m2, .int .i64 zeroK.w, .int .i64 zeroK.p.f.k, .int .u8 zeroK.p.f.i, .int .u8 zeroK.p.f.r, .int .u8 zeroK.p.f.g, .int .u8 zeroK.p.f.b, .int .i64 zeroK.p.b.k, .int .u8 zeroK.p.b.i, .int .u8 zeroK.p.b.r, .int .u8 zeroK.p.b.g, .int .u8 zeroK.p.b.b, .int .u8 zeroK.p.fl] 30)) (by simp)
              have F5 := Rd.kept (Rd.kept (s11_113.out) ((Kept.refl [] _).alloc (.cells #[.int .i64 2, .int .u64 x6.a, .int .u64 x6.b, .int .u64 x6.c, .int .i64 1, .int .u64 x7.a, .int .u64 x7.b, .int .u64 x7.c, .int .i64 1, .int .u64 x8.a, .int .u64 x8.b, .int .u64 x8.c, .int .i64 1, .int .u64 zeroW.a, .int .u64 zeroW.b, .int .u64 zeroW.c] 67)) (by simp)) ((Kept.refl [] _).alloc (.cells #[.int .i32 kA.r, .int .i32 kA.m0, .int .i32 kA.m1, .int .i32 kA.m2, .int .i64 kA.w, .int .i64 kA.p.f.k, .int .u8 kA.p.f.i, .int .u8 kA.p.f.r, .int .u8 kA.p.f.g, .int .u8 kA.p.f.b, .int .i64 kA.p.b.k, .int .u8 kA.p.b.i, .int .u8 kA.p.b.r, .int .u8 kA.p.b.g, .int .u8 kA.p.b.b, .int .u8 kA.p.fl, .int .i32 kA.r, .int .i32 kA.m0, .int .i32 kA.m1, .int .i32 kA.m2, .int .i64 kA.w, .int .i64 kA.p.f.k, .int .u8 kA.p.f.i, .int .u8 kA.p.f.r, .int .u8 kA.p.f.g, .int .u8 kA.p.f.b, .int .i64 kA.p.b.k, .int .u8 kA.p.b.i, .int .u8 kA.p.b.r, .int .u8 kA.p.b.g, .int .u8 kA.p.b.b, .int .u8 kA.p.fl, .int .i32 kE.r, .int .i32 kE.m0, .int .i32 kE.m1, .int .i32 kE.m2, .int .i64 kE.w, .int .i64 kE.p.f.k, .int .u8 kE.p.f.i, .int .u8 kE.p.f.r, .int .u8 kE.p.f.g, .int .u8 kE.p.f.b, .int .i64 kE.p.b.k, .int .u8 kE.p.b.i, .int .u8 kE.p.b.r, .int .u8 kE.p.b.g, .int .u8 kE.p.b.b, .int .u8 kE.p.fl, .int .i32 kW.r, .int .i32 kW.m0, .int .i32 kW.m1, .int .i32 kW.m2, .int .i64 kW.w, .int .i64 kW.p.f.k, .int .u8 kW.p.f.i, .int .u8 kW.p.f.r, .int .u8 kW.p.f.g, .int .u8 kW.p.f.b, .int .i64 kW.p.b.k, .int .u8 kW.p.b.i, .int .u8 kW.p.b.r, .int .u8 kW.p.b.g, .int .u8 kW.p.b.b, .int .u8 kW.p.fl, .int .i32 zeroK.r, .int .i32 zeroK.m0, .int .i32 zeroK.m1, .int .i32 zeroK.m2, .int .i64 zeroK.w, .int .i64 zeroK.p.f.k, .int .u8 zeroK.p.f.i, .int .u8 zeroK.p.f.r, .int .u8 zeroK.p.f.g, .int .u8 zeroK.p.f.b, .int .i64 zeroK.p.b.k, .int .u8 zeroK.p.b.i, .int .u8 zeroK.p.b.r, .int .u8 zeroK.p.b.g, .int .u8 zeroK.p.b.b, .int .u8 zeroK.p.fl] 30)) (by simp)
              generalize hv1 : Value.slice (some ⟨V113.heap.size + 1, 0, none⟩) 5 5 = v1
              generalize hv2 : Value.slice (some ⟨V113.heap.size, 0, none⟩) 4 4 = v2
              exact H v1 v2 _ ⟨⟨F1, F2⟩, ⟨_, hv1.symm, F3⟩, ⟨_, hv2.symm, F4⟩, F5⟩
  case' hh0 => intro v1 v2 V1 hF
  have hHeld := hF.1.1
  have hK51 := hide hF.1.2
  obtain ⟨ga, rfl, sc_1⟩ := hF.2.1
  obtain ⟨gb, rfl, sr_1⟩ := hF.2.2.1
  have s11_1 := hide hF.2.2.2
  replace sc_1 := hide sc_1
  replace sr_1 := hide sr_1
  clear hF hK50 hN50 s11_0
  refine wpAnyH_ready (rs := [15]) (by kernel_rfl) (by simp) ?_
  refine AllReadyH.cons rfl (fun K hK => ?_) AllReadyH.nil
  go_simp
  refine (packs_ask _ 5 5 [kA, kA, kE, kW, zeroK] (all_cons zeroP_b (all_cons zeroP_b (all_cons zeroP_b (all_cons zeroP_b (all_cons zeroP_b all_nil))))) 0 _ 4 4 [⟨2, x6⟩, ⟨1, x7⟩, ⟨1, x8⟩, ⟨1, zeroW⟩] true (by decide +kernel) _ (ht0.out.kept (hK51.out)) (sc_1.out) (by decide) (sr_1.out)).mono ?_
  rintro e V200 ⟨rfl, hj200⟩
  try go_wp2_with fail
  refine hK.out _ _ ?_ (fun hHeld => ?_)
  · (try dsimp only); (exact hHeld.kept hj200)
  clear hK K
  try simp only [Act.put, List.getElem_toArray, List.getElem_cons_succ, List.getElem_cons_zero, List.setIfInBounds_toArray, List.set_cons_zero, List.set_cons_succ]
  have hK200 := hide ((hK51.out).trans hj200 (by simp))
  have s11_200 := hide (Rd.kept (s11_1.out) hj200 (by simp))
  clear sc_1 sr_1
  refine wpAnyH_take (i := 16) (v := ?_) rfl (by kernel_rfl) (by kernel_rfl) (by kernel_rfl) (fun _ _ _ h => h) (Or.inl ⟨by rfl, ?_⟩) (by assumption) ?_
  rotate_left
  · (intro wq hSw; (try dsimp only at hSw); go_simp; try with_reducible rfl)
  try simp only [Act.put, List.getElem_toArray, List.getElem_cons_succ, List.getElem_cons_zero, List.setIfInBounds_toArray, List.set_cons_zero, List.set_cons_succ]
  refine wpAnyH_take (i := 17) (v := ?_) rfl (by kernel_rfl) (by kernel_rfl) (by kernel_rfl) (fun _ _ _ h => h) (Or.inl ⟨by rfl, ?_⟩) (by assumption) ?_
  rotate_left
  · (intro wq hSw; (try dsimp only at hSw); go_simp; try with_reducible rfl)
  try simp only [Act.put, List.getElem_toArray, List.getElem_cons_succ, List.getElem_cons_zero, List.setIfInBounds_toArray, List.set_cons_zero, List.set_cons_succ]
  refine wpAnyH_ready (rs := [18]) (by kernel_rfl) (by simp) ?_
  refine AllReadyH.cons rfl (fun K hK => ?_) AllReadyH.nil
  go_simp
  refine (packs_ask _ 0 0 [] all_nil 0 _ 0 0 [] true (by decide +kernel) _ (ht0.out.kept (hK200.out)) (Rd.nil _ _ _) (by decide) (Rd.nil _ _ _)).mono ?_
  rintro e V201 ⟨rfl, hj201⟩
  try go_wp2_with fail
  refine hK.out _ _ ?_ (fun hHeld => ?_)
  · (try dsimp only); (exact hHeld.kept hj201)
  clear hK K
  try simp only [Act.put, List.getElem_toArray, List.getElem_cons_succ, List.getElem_cons_zero, List.setIfInBounds_toArray, List.set_cons_zero, List.set_cons_succ]
  have hK201 := hide ((hK200.out).trans hj201 (by simp))
  have s11_201 := hide (Rd.kept (s11_200.out) hj201 (by simp))
  refine wpAnyH_take (i := 19) (v := ?_) rfl (by kernel_rfl) (by kernel_rfl) (by kernel_rfl) (fun _ _ _ h => h) (Or.inl ⟨by rfl, ?_⟩) (by assumption) ?_
  rotate_left
  · (intro wq hSw; (try dsimp only at hSw); go_simp; try with_reducible rfl)
  try simp only [Act.put, List.getElem_toArray, List.getElem_cons_succ, List.getElem_cons_zero, List.setIfInBounds_toArray, List.set_cons_zero, List.set_cons_succ]
  refine wpAnyH_take (i := 20) (v := ?_) rfl (by kernel_rfl) (by kernel_rfl) (by kernel_rfl) (fun _ _ _ h => h) (Or.inl ⟨by rfl, ?_⟩) (by assumption) ?_
  rotate_left
  · (intro wq hSw; (try dsimp only at hSw); go_simp; try with_reducible rfl)
  try simp only [Act.put, List.getElem_toArray, List.getElem_cons_succ, List.getElem_cons_zero, List.setIfInBounds_toArray, List.set_cons_zero, List.set_cons_succ]
  refine wpAnyH_take (i := 21) (v := ?_) rfl (by kernel_rfl) (by kernel_rfl) (by kernel_rfl) (fun _ _ _ h => h) (Or.inl ⟨by rfl, ?_⟩) (by assumption) ?_
  rotate_left
  · (intro wq hSw; (try dsimp only at hSw); go_simp; try with_reducible rfl)
  try simp only [Act.put, List.getElem_toArray, List.getElem_cons_succ, List.getElem_cons_zero, List.setIfInBounds_toArray, List.set_cons_zero, List.set_cons_succ]
  refine wpAnyH_take (i := 22) (v := ?_) rfl (by kernel_rfl) (by kernel_rfl) (by kernel_rfl) (fun _ _ _ h => h) (Or.inl ⟨by rfl, ?_⟩) (by assumption) ?_
  rotate_left
  · (intro wq hSw; (try dsimp only at hSw); go_simp; try with_reducible rfl)
  try simp only [Act.put, List.getElem_toArray, List.getElem_cons_succ, List.getElem_cons_zero, List.setIfInBounds_toArray, List.set_cons_zero, List.set_cons_succ]
  refine wpAnyH_ready (rs := [23]) (by kernel_rfl) (by simp) ?_
  refine AllReadyH.cons rfl (fun K hK => ?_) AllReadyH.nil
  go_simp
  refine (count_ask [⟨2, x6⟩, ⟨1, x7⟩] 3 (by decide +kernel) _ 2 2 (all_cons (rub (by decide) x6_b) (all_cons (rub (by decide) x7_b) all_nil)) _ (ht0.out.kept (hK201.out)) (s11_201.out) (by decide)).mono ?_
  rintro e V202 ⟨rfl, hj202⟩
  try go_wp2_with fail
  refine hK.out _ _ ?_ (fun hHeld => ?_)
  · (try dsimp only); (exact hHeld.kept hj202)
  clear hK K
  try simp only [Act.put, List.getElem_toArray, List.getElem_cons_succ, List.getElem_cons_zero, List.setIfInBounds_toArray, List.set_cons_zero, List.set_cons_succ]
  have hK202 := hide ((hK201.out).trans hj202 (by simp))
  have s11_202 := hide (Rd.kept (s11_201.out) hj202 (by simp))
  refine wpAnyH_take (i := 24) (v := ?_) rfl (by kernel_rfl) (by kernel_rfl) (by kernel_rfl) (fun _ _ _ h => h) (Or.inl ⟨by rfl, ?_⟩) (by assumption) ?_
  rotate_left
  · (intro wq hSw; (try dsimp only at hSw); go_simp; try with_reducible rfl)
  try simp only [Act.put, List.getElem_toArray, List.getElem_cons_succ, List.getElem_cons_zero, List.setIfInBounds_toArray, List.set_cons_zero, List.set_cons_succ]
  refine wpAnyH_take (i := 25) (v := ?_) rfl (by kernel_rfl) (by kernel_rfl) (by kernel_rfl) (fun _ _ _ h => h) (Or.inl ⟨by rfl, ?_⟩) (by assumption) ?_
  rotate_left
  · (intro wq hSw; (try dsimp only at hSw); go_simp; try with_reducible rfl)
  try simp only [Act.put, List.getElem_toArray, List.getElem_cons_succ, List.getElem_cons_zero, List.setIfInBounds_toArray, List.set_cons_zero, List.set_cons_succ]
  refine wpAnyH_take (i := 26) (v := ?_) rfl (by kernel_rfl) (by kernel_rfl) (by kernel_rfl) (fun _ _ _ h => h) (Or.inl ⟨by rfl, ?_⟩) (by assumption) ?_
  rotate_left
  · (intro wq hSw; (try dsimp only at hSw); go_simp; try with_reducible rfl)
  try simp only [Act.put, List.getElem_toArray, List.getElem_cons_succ, List.getElem_cons_zero, List.setIfInBounds_toArray, List.set_cons_zero, List.set_cons_succ]
  refine wpAnyH_take (i := 27) (v := ?_) rfl (by kernel_rfl) (by kernel_rfl) (by kernel_rfl) (fun _ _ _ h => h) (Or.inl ⟨by rfl, ?_⟩) (by assumption) ?_
  rotate_left
  · (intro wq hSw; (try dsimp only at hSw); go_simp; try with_reducible rfl)
  try simp only [Act.put, List.getElem_toArray, List.getElem_cons_succ, List.getElem_cons_zero, List.setIfInBounds_toArray, List.set_cons_zero, List.set_cons_succ]
  refine wpAnyH_take (i := 28) (v := .agg #[.int .i32 kA.r, .int .i32 kA.m0, .int .i32 kA.m1, .int .i32 kA.m2, .int .i64 kA.w, .int .i64 kA.p.f.k, .int .u8 kA.p.f.i, .int .u8 kA.p.f.r, .int .u8 kA.p.f.g, .int .u8 kA.p.f.b, .int .i64 kA.p.b.k, .int .u8 kA.p.b.i, .int .u8 kA.p.b.r, .int .u8 kA.p.b.g, .int .u8 kA.p.b.b, .int .u8 kA.p.fl]) rfl (by kernel_rfl) (by kernel_rfl) (by kernel_rfl) (fun _ _ _ h => h) (yieldsIf_load_mid (by rfl) 30 _ rfl b1 0 rfl (kcL kA) _ (fun _ h => h.c1.range) Tryd.underlying30 rfl (by kernel_rfl)) (by assumption) ?_
  try simp only [Act.put, List.getElem_toArray, List.getElem_cons_succ, List.getElem_cons_zero, List.setIfInBounds_toArray, List.set_cons_zero, List.set_cons_succ]
  refine wpAnyH_take (i := 29) (v := .agg #[.int .i32 kA.r, .int .i32 kA.m0, .int .i32 kA.m1, .int .i32 kA.m2, .int .i64 kA.w, .int .i64 kA.p.f.k, .int .u8 kA.p.f.i, .int .u8 kA.p.f.r, .int .u8 kA.p.f.g, .int .u8 kA.p.f.b, .int .i64 kA.p.b.k, .int .u8 kA.p.b.i, .int .u8 kA.p.b.r, .int .u8 kA.p.b.g, .int .u8 kA.p.b.b, .int .u8 kA.p.fl]) rfl (by kernel_rfl) (by kernel_rfl) (by kernel_rfl) (fun _ _ _ h => h) (yieldsIf_load_mid (by rfl) 30 _ rfl b1 0 rfl (kcL kA) _ (fun _ h => h.c1.range) Tryd.underlying30 rfl (by kernel_rfl)) (by assumption) ?_
  try simp only [Act.put, List.getElem_toArray, List.getElem_cons_succ, List.getElem_cons_zero, List.setIfInBounds_toArray, List.set_cons_zero, List.set_cons_succ]
  refine wpAnyH_take (i := 30) (v := .agg #[.int .i32 kE.r, .int .i32 kE.m0, .int .i32 kE.m1, .int .i32 kE.m2, .int .i64 kE.w, .int .i64 kE.p.f.k, .int .u8 kE.p.f.i, .int .u8 kE.p.f.r, .int .u8 kE.p.f.g, .int .u8 kE.p.f.b, .int .i64 kE.p.b.k, .int .u8 kE.p.b.i, .int .u8 kE.p.b.r, .int .u8 kE.p.b.g, .int .u8 kE.p.b.b, .int .u8 kE.p.fl]) rfl (by kernel_rfl) (by kernel_rfl) (by kernel_rfl) (fun _ _ _ h => h) (yieldsIf_load_mid (by rfl) 30 _ rfl b2 0 rfl (kcL kE) _ (fun _ h => h.c2.range) Tryd.underlying30 rfl (by kernel_rfl)) (by assumption) ?_
  try simp only [Act.put, List.getElem_toArray, List.getElem_cons_succ, List.getElem_cons_zero, List.setIfInBounds_toArray, List.set_cons_zero, List.set_cons_succ]
  refine wpAnyH_ready (rs := [31]) (by kernel_rfl) (by simp) ?_
  refine AllReadyH.cons rfl (fun K hK => ?_) AllReadyH.nil
  go_simp
  try go_wp2_with fail
  refine hK.out _ _ ?_ (fun hHeld => ?_)
  · (try dsimp only); (exact hHeld.kept ((Kept.refl [] _).alloc _))
  clear hK K
  try simp only [Act.put, List.getElem_toArray, List.getElem_cons_succ, List.getElem_cons_zero, List.setIfInBounds_toArray, List.set_cons_zero, List.set_cons_succ]
  have su_0 : Hid (Rd (V202.alloc (.cells #[.int .i32 kA.r, .int .i32 kA.m0, .int .i32 kA.m1, .int .i32 kA.m2, .int .i64 kA.w, .int .i64 kA.p.f.k, .int .u8 kA.p.f.i, .int .u8 kA.p.f.r, .int .u8 kA.p.f.g, .int .u8 kA.p.f.b, .int .i64 kA.p.b.k, .int .u8 kA.p.b.i, .int .u8 kA.p.b.r, .int .u8 kA.p.b.g, .int .u8 kA.p.b.b, .int .u8 kA.p.fl, .int .i32 kA.r, .int .i32 kA.m0, .int .i32 kA.m1, .int .i32 kA.m2, .int .i64 kA.w, .int .i64 kA.p.f.k, .int .u8 kA.p.f.i, .int .u8 kA.p.f.r, .int .u8 kA.p.f.g, .int .u8 kA.p.f.b, .int .i64 kA.p.b.k, .int .u8 kA.p.b.i, .int .u8 kA.p.b.r, .int .u8 kA.p.b.g, .int .u8 kA.p.b.b, .int .u8 kA.p.fl, .int .i32 kE.r, .int .i32 kE.m0, .int .i32 kE.m1, .int .i32 kE.m2, .int .i64 kE.w, .int .i64 kE.p.f.k, .int .u8 kE.p.f.i, .int .u8 kE.p.f.r, .int .u8 kE.p.f.g, .int .u8 kE.p.f.b, .int .i64 kE.p.b.k, .int .u8 kE.p.b.i, .int .u8 kE.p.b.r, .int .u8 kE.p.b.g, .int .u8 kE.p.b.b, .int .u8 kE.p.fl] 30)) (some ⟨V202.heap.size, 0, none⟩) 3 16 (cellsV [kA, kA, kE])) := hide (Rd.blockC (heap_new_at (w := V202) (by simp)) rfl)
  refine wpAnyH_ready (rs := [32]) (by kernel_rfl) (by simp) ?_
  refine AllReadyH.cons rfl (fun K hK => ?_) AllReadyH.nil
  go_simp
  refine (unpacks_ask _ 2 2 [⟨2, x6⟩, ⟨1, x7⟩] (all_cons (rub (by decide) x6_b) (all_cons (rub (by decide) x7_b) all_nil)) 0 _ 3 3 [kA, kA, kE] true (by decide +kernel) _ (ht0.out.kept ((hK202.out).alloc (.cells #[.int .i32 kA.r, .int .i32 kA.m0, .int .i32 kA.m1, .int .i32 kA.m2, .int .i64 kA.w, .int .i64 kA.p.f.k, .int .u8 kA.p.f.i, .int .u8 kA.p.f.r, .int .u8 kA.p.f.g, .int .u8 kA.p.f.b, .int .i64 kA.p.b.k, .int .u8 kA.p.b.i, .int .u8 kA.p.b.r, .int .u8 kA.p.b.g, .int .u8 kA.p.b.b, .int .u8 kA.p.fl, .int .i32 kA.r, .int .i32 kA.m0, .int .i32 kA.m1, .int .i32 kA.m2, .int .i64 kA.w, .int .i64 kA.p.f.k, .int .u8 kA.p.f.i, .int .u8 kA.p.f.r, .int .u8 kA.p.f.g, .int .u8 kA.p.f.b, .int .i64 kA.p.b.k, .int .u8 kA.p.b.i, .int .u8 kA.p.b.r, .int .u8 kA.p.b.g, .int .u8 kA.p.b.b, .int .u8 kA.p.fl, .int .i32 kE.r, .int .i32 kE.m0, .int .i32 kE.m1, .int .i32 kE.m2, .int .i64 kE.w, .int .i64 kE.p.f.k, .int .u8 kE.p.f.i, .int .u8 kE.p.f.r, .int .u8 kE.p.f.g, .int .u8 kE.p.f.b, .int .i64 kE.p.b.k, .int .u8 kE.p.b.i, .int .u8 kE.p.b.r, .int .u8 kE.p.b.g, .int .u8 kE.p.b.b, .int .u8 kE.p.fl] 30))) (Rd.kept (s11_202.out) ((Kept.refl [] _).alloc (.cells #[.int .i32 kA.r, .int .i32 kA.m0, .int .i32 kA.m1, .int .i32 kA.m2, .int .i64 kA.w, .int .i64 kA.p.f.k, .int .u8 kA.p.f.i, .int .u8 kA.p.f.r, .int .u8 kA.p.f.g, .int .u8 kA.p.f.b, .int .i64 kA.p.b.k, .int .u8 kA.p.b.i, .int .u8 kA.p.b.r, .int .u8 kA.p.b.g, .int .u8 kA.p.b.b, .int .u8 kA.p.fl, .int .i32 kA.r, .int .i32 kA.m0, .int .i32 kA.m1, .int .i32 kA.m2, .int .i64 kA.w, .int .i64 kA.p.f.k, .int .u8 kA.p.f.i, .int .u8 kA.p.f.r, .int .u8 kA.p.f.g, .int .u8 kA.p.f.b, .int .i64 kA.p.b.k, .int .u8 kA.p.b.i, .int .u8 kA.p.b.r, .int .u8 kA.p.b.g, .int .u8 kA.p.b.b, .int .u8 kA.p.fl, .int .i32 kE.r, .int .i32 kE.m0, .int .i32 kE.m1, .int .i32 kE.m2, .int .i64 kE.w, .int .i64 kE.p.f.k, .int .u8 kE.p.f.i, .int .u8 kE.p.f.r, .int .u8 kE.p.f.g, .int .u8 kE.p.f.b, .int .i64 kE.p.b.k, .int .u8 kE.p.b.i, .int .u8 kE.p.b.r, .int .u8 kE.p.b.g, .int .u8 kE.p.b.b, .int .u8 kE.p.fl] 30)) (by simp)) (by decide) (su_0.out)).mono ?_
  rintro e V203 ⟨rfl, hj203⟩
  try go_wp2_with fail
  refine hK.out _ _ ?_ (fun hHeld => ?_)
  · (try dsimp only); (exact hHeld.kept hj203)
  clear hK K
  try simp only [Act.put, List.getElem_toArray, List.getElem_cons_succ, List.getElem_cons_zero, List.setIfInBounds_toArray, List.set_cons_zero, List.set_cons_succ]
  have hK203 := hide (((hK202.out).alloc (.cells #[.int .i32 kA.r, .int .i32 kA.m0, .int .i32 kA.m1, .int .i32 kA.m2, .int .i64 kA.w, .int .i64 kA.p.f.k, .int .u8 kA.p.f.i, .int .u8 kA.p.f.r, .int .u8 kA.p.f.g, .int .u8 kA.p.f.b, .int .i64 kA.p.b.k, .int .u8 kA.p.b.i, .int .u8 kA.p.b.r, .int .u8 kA.p.b.g, .int .u8 kA.p.b.b, .int .u8 kA.p.fl, .int .i32 kA.r, .int .i32 kA.m0, .int .i32 kA.m1, .int .i32 kA.m2, .int .i64 kA.w, .int .i64 kA.p.f.k, .int .u8 kA.p.f.i, .int .u8 kA.p.f.r, .int .u8 kA.p.f.g, .int .u8 kA.p.f.b, .int .i64 kA.p.b.k, .int .u8 kA.p.b.i, .int .u8 kA.p.b.r, .int .u8 kA.p.b.g, .int .u8 kA.p.b.b, .int .u8 kA.p.fl, .int .i32 kE.r, .int .i32 kE.m0, .int .i32 kE.m1, .int .i32 kE.m2, .int .i64 kE.w, .int .i64 kE.p.f.k, .int .u8 kE.p.f.i, .int .u8 kE.p.f.r, .int .u8 kE.p.f.g, .int .u8 kE.p.f.b, .int .i64 kE.p.b.k, .int .u8 kE.p.b.i, .int .u8 kE.p.b.r, .int .u8 kE.p.b.g, .int .u8 kE.p.b.b, .int .u8 kE.p.fl] 30)).trans hj203 (by simp))
  refine wpAnyH_take (i := 33) (v := ?_) rfl (by kernel_rfl) (by kernel_rfl) (by kernel_rfl) (fun _ _ _ h => h) (Or.inl ⟨by rfl, ?_⟩) (by assumption) ?_
  rotate_left
  · (intro wq hSw; (try dsimp only at hSw); go_simp; try with_reducible rfl)
  try simp only [Act.put, List.getElem_toArray, List.getElem_cons_succ, List.getElem_cons_zero, List.setIfInBounds_toArray, List.set_cons_zero, List.set_cons_succ]
  refine wpAnyH_take (i := 34) (v := ?_) rfl (by kernel_rfl) (by kernel_rfl) (by kernel_rfl) (fun _ _ _ h => h) (Or.inl ⟨by rfl, ?_⟩) (by assumption) ?_
  rotate_left
  · (intro wq hSw; (try dsimp only at hSw); go_simp; try with_reducible rfl)
  try simp only [Act.put, List.getElem_toArray, List.getElem_cons_succ, List.getElem_cons_zero, List.setIfInBounds_toArray, List.set_cons_zero, List.set_cons_succ]
  refine wpAnyH_take (i := 35) (v := ?_) rfl (by kernel_rfl) (by kernel_rfl) (by kernel_rfl) (fun _ _ _ h => h) (Or.inl ⟨by rfl, ?_⟩) (by assumption) ?_
  rotate_left
  · (intro wq hSw; (try dsimp only at hSw); go_simp; try with_reducible rfl)
  try simp only [Act.put, List.getElem_toArray, List.getElem_cons_succ, List.getElem_cons_zero, List.setIfInBounds_toArray, List.set_cons_zero, List.set_cons_succ]
  refine wpAnyH_take (i := 36) (v := .agg #[.int .u64 x6.a, .int .u64 x6.b, .int .u64 x6.c]) rfl (by kernel_rfl) (by kernel_rfl) (by kernel_rfl) (fun _ _ _ h => h) (yieldsIf_load_mid (by rfl) 34 _ rfl b6 0 rfl (w3L x6) _ (fun _ h => h.w6.range) Tryd.underlying34 rfl (by kernel_rfl)) (by assumption) ?_
  try simp only [Act.put, List.getElem_toArray, List.getElem_cons_succ, List.getElem_cons_zero, List.setIfInBounds_toArray, List.set_cons_zero, List.set_cons_succ]
  refine wpAnyH_take (i := 38) (v := .agg #[.int .u64 x6.a, .int .u64 x6.b, .int .u64 x6.c]) rfl (by kernel_rfl) (by kernel_rfl) (by kernel_rfl) (fun _ _ _ h => h) (yieldsIf_load_mid (by rfl) 34 _ rfl b6 0 rfl (w3L x6) _ (fun _ h => h.w6.range) Tryd.underlying34 rfl (by kernel_rfl)) (by assumption) ?_
  try simp only [Act.put, List.getElem_toArray, List.getElem_cons_succ, List.getElem_cons_zero, List.setIfInBounds_toArray, List.set_cons_zero, List.set_cons_succ]
  refine wpAnyH_take (i := 42) (v := ?_) rfl (by kernel_rfl) (by kernel_rfl) (by kernel_rfl) (fun _ _ _ h => h) (Or.inl ⟨by rfl, ?_⟩) (by assumption) ?_
  rotate_left
  · (intro wq hSw; (try dsimp only at hSw); go_simp; try with_reducible rfl)
  try simp only [Act.put, List.getElem_toArray, List.getElem_cons_succ, List.getElem_cons_zero, List.setIfInBounds_toArray, List.set_cons_zero, List.set_cons_succ]
  refine wpAnyH_ready (rs := [37]) (by kernel_rfl) (by simp) ?_
  refine AllReadyH.cons rfl (fun K hK => ?_) AllReadyH.nil
  go_simp
  refine (run_any 1 x6 _).mono ?_
  rintro e V204 ⟨rfl, hj204⟩
  try go_wp2_with fail
  refine hK.out _ _ ?_ (fun hHeld => ?_)
  · (try dsimp only); (exact hHeld.kept hj204)
  clear hK K
  try simp only [Act.put, List.getElem_toArray, List.getElem_cons_succ, List.getElem_cons_zero, List.setIfInBounds_toArray, List.set_cons_zero, List.set_cons_succ]
  have hK204 := hide ((hK203.out).trans hj204 (by simp))
  refine wpAnyH_ready (rs := [39]) (by kernel_rfl) (by simp) ?_
  refine AllReadyH.cons rfl (fun K hK => ?_) AllReadyH.nil
  go_simp
  refine (run_any 1 x6 _).mono ?_
  rintro e V205 ⟨rfl, hj205⟩
  try go_wp2_with fail
  refine hK.out _ _ ?_ (fun hHeld => ?_)
  · (try dsimp only); (exact hHeld.kept hj205)
  clear hK K
  try simp only [Act.put, List.getElem_toArray, List.getElem_cons_succ, List.getElem_cons_zero, List.setIfInBounds_toArray, List.set_cons_zero, List.set_cons_succ]
  have hK205 := hide ((hK204.out).trans hj205 (by simp))
  refine wpAnyH_ready (rs := [40]) (by kernel_rfl) (by simp) ?_
  refine AllReadyH.cons rfl (fun K hK => ?_) AllReadyH.nil
  go_simp
  try go_wp2_with fail
  refine hK.out _ _ ?_ (fun hHeld => ?_)
  · (try dsimp only); (exact hHeld.kept ((Kept.refl [] _).alloc _))
  clear hK K
  try simp only [Act.put, List.getElem_toArray, List.getElem_cons_succ, List.getElem_cons_zero, List.setIfInBounds_toArray, List.set_cons_zero, List.set_cons_succ]
  have sx_0 : Hid (Rd (V205.alloc (.cells #[.int .i64 1, .int .u64 x6.a, .int .u64 x6.b, .int .u64 x6.c, .int .i64 1, .int .u64 x6.a, .int .u64 x6.b, .int .u64 x6.c] 67)) (some ⟨V205.heap.size, 0, none⟩) 2 4 (runsV [⟨1, x6⟩, ⟨1, x6⟩])) := hide (Rd.ofBlock rowRun (heap_new_at (w := V205) (by simp)) rfl)
  refine wpAnyH_ready (rs := [41]) (by kernel_rfl) (by simp) ?_
  refine AllReadyH.cons rfl (fun K hK => ?_) AllReadyH.nil
  go_simp
  refine (runs_any _ _ _ _).mono ?_
  rintro e w' ⟨rfl, rfl⟩
  try go_wp2_with fail
  refine hK.out _ _ ?_ (fun hHeld => ?_)
  · (try dsimp only); (exact hHeld)
  clear hK K
  try simp only [Act.put, List.getElem_toArray, List.getElem_cons_succ, List.getElem_cons_zero, List.setIfInBounds_toArray, List.set_cons_zero, List.set_cons_succ]
  refine wpAnyH_ready (rs := [43]) (by kernel_rfl) (by simp) ?_
  refine AllReadyH.cons rfl (fun K hK => ?_) AllReadyH.nil
  go_simp
  refine (unpacks_ask _ 2 2 [⟨1, x6⟩, ⟨1, x6⟩] (all_cons (rub (by decide) x6_b) (all_cons (rub (by decide) x6_b) all_nil)) 12 _ 0 0 [] true (by decide +kernel) _ (ht0.out.kept ((hK205.out).alloc (.cells #[.int .i64 1, .int .u64 x6.a, .int .u64 x6.b, .int .u64 x6.c, .int .i64 1, .int .u64 x6.a, .int .u64 x6.b, .int .u64 x6.c] 67))) (sx_0.out) (by decide) (Rd.nil _ _ _)).mono ?_
  rintro e V206 ⟨rfl, hj206⟩
  try go_wp2_with fail
  refine hK.out _ _ ?_ (fun hHeld => ?_)
  · (try dsimp only); (exact hHeld.kept hj206)
  clear hK K
  try simp only [Act.put, List.getElem_toArray, List.getElem_cons_succ, List.getElem_cons_zero, List.setIfInBounds_toArray, List.set_cons_zero, List.set_cons_succ]
  have hK206 := hide (((hK205.out).alloc (.cells #[.int .i64 1, .int .u64 x6.a, .int .u64 x6.b, .int .u64 x6.c, .int .i64 1, .int .u64 x6.a, .int .u64 x6.b, .int .u64 x6.c] 67)).trans hj206 (by simp))
  refine wpAnyH_take (i := 44) (v := ?_) rfl (by kernel_rfl) (by kernel_rfl) (by kernel_rfl) (fun _ _ _ h => h) (Or.inl ⟨by rfl, ?_⟩) (by assumption) ?_
  rotate_left
  · (intro wq hSw; (try dsimp only at hSw); go_simp; try with_reducible rfl)
  try simp only [Act.put, List.getElem_toArray, List.getElem_cons_succ, List.getElem_cons_zero, List.setIfInBounds_toArray, List.set_cons_zero, List.set_cons_succ]
  refine wpAnyH_take (i := 45) (v := ?_) rfl (by kernel_rfl) (by kernel_rfl) (by kernel_rfl) (fun _ _ _ h => h) (Or.inl ⟨by rfl, ?_⟩) (by assumption) ?_
  rotate_left
  · (intro wq hSw; (try dsimp only at hSw); go_simp; try with_reducible rfl)
  try simp only [Act.put, List.getElem_toArray, List.getElem_cons_succ, List.getElem_cons_zero, List.setIfInBounds_toArray, List.set_cons_zero, List.set_cons_succ]
  refine wpAnyH_take (i := 46) (v := ?_) rfl (by kernel_rfl) (by kernel_rfl) (by kernel_rfl) (fun _ _ _ h => h) (Or.inl ⟨by rfl, ?_⟩) (by assumption) ?_
  rotate_left
  · (intro wq hSw; (try dsimp only at hSw); go_simp; try with_reducible rfl)
  try simp only [Act.put, List.getElem_toArray, List.getElem_cons_succ, List.getElem_cons_zero, List.setIfInBounds_toArray, List.set_cons_zero, List.set_cons_succ]
  refine wpAnyH_take (i := 47) (v := .agg #[.int .u64 x6.a, .int .u64 x6.b, .int .u64 x6.c]) rfl (by kernel_rfl) (by kernel_rfl) (by kernel_rfl) (fun _ _ _ h => h) (yieldsIf_load_mid (by rfl) 34 _ rfl b6 0 rfl (w3L x6) _ (fun _ h => h.w6.range) Tryd.underlying34 rfl (by kernel_rfl)) (by assumption) ?_
  try simp only [Act.put, List.getElem_toArray, List.getElem_cons_succ, List.getElem_cons_zero, List.setIfInBounds_toArray, List.set_cons_zero, List.set_cons_succ]
  refine wpAnyH_take (i := 51) (v := ?_) rfl (by kernel_rfl) (by kernel_rfl) (by kernel_rfl) (fun _ _ _ h => h) (Or.inl ⟨by rfl, ?_⟩) (by assumption) ?_
  rotate_left
  · (intro wq hSw; (try dsimp only at hSw); go_simp; try with_reducible rfl)
  try simp only [Act.put, List.getElem_toArray, List.getElem_cons_succ, List.getElem_cons_zero, List.setIfInBounds_toArray, List.set_cons_zero, List.set_cons_succ]
  refine wpAnyH_ready (rs := [48]) (by kernel_rfl) (by simp) ?_
  refine AllReadyH.cons rfl (fun K hK => ?_) AllReadyH.nil
  go_simp
  refine (run_any 0 x6 _).mono ?_
  rintro e V207 ⟨rfl, hj207⟩
  try go_wp2_with fail
  refine hK.out _ _ ?_ (fun hHeld => ?_)
  · (try dsimp only); (exact hHeld.kept hj207)
  clear hK K
  try simp only [Act.put, List.getElem_toArray, List.getElem_cons_succ, List.getElem_cons_zero, List.setIfInBounds_toArray, List.set_cons_zero, List.set_cons_succ]
  have hK207 := hide ((hK206.out).trans hj207 (by simp))
  refine wpAnyH_ready (rs := [49]) (by kernel_rfl) (by simp) ?_
  refine AllReadyH.cons rfl (fun K hK => ?_) AllReadyH.nil
  go_simp
  try go_wp2_with fail
  refine hK.out _ _ ?_ (fun hHeld => ?_)
  · (try dsimp only); (exact hHeld.kept ((Kept.refl [] _).alloc _))
  clear hK K
  try simp only [Act.put, List.getElem_toArray, List.getElem_cons_succ, List.getElem_cons_zero, List.setIfInBounds_toArray, List.set_cons_zero, List.set_cons_succ]
  have sy_0 : Hid (Rd (V207.alloc (.cells #[.int .i64 0, .int .u64 x6.a, .int .u64 x6.b, .int .u64 x6.c] 67)) (some ⟨V207.heap.size, 0, none⟩) 1 4 (runsV [⟨0, x6⟩])) := hide (Rd.ofBlock rowRun (heap_new_at (w := V207) (by simp)) rfl)
  refine wpAnyH_ready (rs := [50]) (by kernel_rfl) (by simp) ?_
  refine AllReadyH.cons rfl (fun K hK => ?_) AllReadyH.nil
  go_simp
  refine (runs_any _ _ _ _).mono ?_
  rintro e w' ⟨rfl, rfl⟩
  try go_wp2_with fail
  refine hK.out _ _ ?_ (fun hHeld => ?_)
  · (try dsimp only); (exact hHeld)
  clear hK K
  try simp only [Act.put, List.getElem_toArray, List.getElem_cons_succ, List.getElem_cons_zero, List.setIfInBounds_toArray, List.set_cons_zero, List.set_cons_succ]
  refine wpAnyH_ready (rs := [52]) (by kernel_rfl) (by simp) ?_
  refine AllReadyH.cons rfl (fun K hK => ?_) AllReadyH.nil
  go_simp
  refine (unpacks_ask _ 1 1 [⟨0, x6⟩] (all_cons (rub (by decide) x6_b) all_nil) 12 _ 0 0 [] true (by decide +kernel) _ (ht0.out.kept ((hK207.out).alloc (.cells #[.int .i64 0, .int .u64 x6.a, .int .u64 x6.b, .int .u64 x6.c] 67))) (sy_0.out) (by decide) (Rd.nil _ _ _)).mono ?_
  rintro e V208 ⟨rfl, hj208⟩
  try go_wp2_with fail
  refine hK.out _ _ ?_ (fun hHeld => ?_)
  · (try dsimp only); (exact hHeld.kept hj208)
  clear hK K
  try simp only [Act.put, List.getElem_toArray, List.getElem_cons_succ, List.getElem_cons_zero, List.setIfInBounds_toArray, List.set_cons_zero, List.set_cons_succ]
  have hK208 := hide (((hK207.out).alloc (.cells #[.int .i64 0, .int .u64 x6.a, .int .u64 x6.b, .int .u64 x6.c] 67)).trans hj208 (by simp))
  refine wpAnyH_take (i := 53) (v := ?_) rfl (by kernel_rfl) (by kernel_rfl) (by kernel_rfl) (fun _ _ _ h => h) (Or.inl ⟨by rfl, ?_⟩) (by assumption) ?_
  rotate_left
  · (intro wq hSw; (try dsimp only at hSw); go_simp; try with_reducible rfl)
  try simp only [Act.put, List.getElem_toArray, List.getElem_cons_succ, List.getElem_cons_zero, List.setIfInBounds_toArray, List.set_cons_zero, List.set_cons_succ]
  refine wpAnyH_take (i := 54) (v := ?_) rfl (by kernel_rfl) (by kernel_rfl) (by kernel_rfl) (fun _ _ _ h => h) (Or.inl ⟨by rfl, ?_⟩) (by assumption) ?_
  rotate_left
  · (intro wq hSw; (try dsimp only at hSw); go_simp; try with_reducible rfl)
  try simp only [Act.put, List.getElem_toArray, List.getElem_cons_succ, List.getElem_cons_zero, List.setIfInBounds_toArray, List.set_cons_zero, List.set_cons_succ]
  refine wpAnyH_done (by kernel_rfl) ?_ _
  go_upto_region 13 with fail
  have hN52 := hide hHeld
  have hK52 := hide (hK208.out)
  refine wp_region_held_drew (S := (fun w' => Kn5 w' b1 b2 b3 b4 b5 b6 b7 b8)) (by kernel_rfl) ?_ (fun hHeld => ?_)
  · (try dsimp only); (exact hN52.out.kept (Kept.refl [] _).drew)
  refine wpAnyH_take (i := 0) (v := .agg #[.int .u64 x6.a, .int .u64 x6.b, .int .u64 x6.c]) rfl (by kernel_rfl) (by kernel_rfl) (by kernel_rfl) (fun _ _ _ h => h) (yieldsIf_load_mid (by rfl) 34 _ rfl b6 0 rfl (w3L x6) _ (fun _ h => h.w6.range) Tryd.underlying34 rfl (by kernel_rfl)) (by assumption) ?_
  try simp only [Act.put, List.getElem_toArray, List.getElem_cons_succ, List.getElem_cons_zero, List.setIfInBounds_toArray, List.set_cons_zero, List.set_cons_succ]
  refine wpAnyH_take (i := 2) (v := .agg #[.int .u64 x7.a, .int .u64 x7.b, .int .u64 x7.c]) rfl (by kernel_rfl) (by kernel_rfl) (by kernel_rfl) (fun _ _ _ h => h) (yieldsIf_load_mid (by rfl) 34 _ rfl b7 0 rfl (w3L x7) _ (fun _ h => h.w7.range) Tryd.underlying34 rfl (by kernel_rfl)) (by assumption) ?_
  try simp only [Act.put, List.getElem_toArray, List.getElem_cons_succ, List.getElem_cons_zero, List.setIfInBounds_toArray, List.set_cons_zero, List.set_cons_succ]
  refine wpAnyH_take (i := 6) (v := .agg #[.int .u64 x7.a, .int .u64 x7.b, .int .u64 x7.c]) rfl (by kernel_rfl) (by kernel_rfl) (by kernel_rfl) (fun _ _ _ h => h) (yieldsIf_load_mid (by rfl) 34 _ rfl b7 0 rfl (w3L x7) _ (fun _ h => h.w7.range) Tryd.underlying34 rfl (by kernel_rfl)) (by assumption) ?_
  try simp only [Act.put, List.getElem_toArray, List.getElem_cons_succ, List.getElem_cons_zero, List.setIfInBounds_toArray, List.set_cons_zero, List.set_cons_succ]
  refine wpAnyH_take (i := 8) (v := .agg #[.int .u64 x6.a, .int .u64 x6.b, .int .u64 x6.c]) rfl (by kernel_rfl) (by kernel_rfl) (by kernel_rfl) (fun _ _ _ h => h) (yieldsIf_load_mid (by rfl) 34 _ rfl b6 0 rfl (w3L x6) _ (fun _ h => h.w6.range) Tryd.underlying34 rfl (by kernel_rfl)) (by assumption) ?_
  try simp only [Act.put, List.getElem_toArray, List.getElem_cons_succ, List.getElem_cons_zero, List.setIfInBounds_toArray, List.set_cons_zero, List.set_cons_succ]
  refine wpAnyH_take (i := 12) (v := .agg #[.int .u64 x6.a, .int .u64 x6.b, .int .u64 x6.c]) rfl (by kernel_rfl) (by kernel_rfl) (by kernel_rfl) (fun _ _ _ h => h) (yieldsIf_load_mid (by rfl) 34 _ rfl b6 0 rfl (w3L x6) _ (fun _ h => h.w6.range) Tryd.underlying34 rfl (by kernel_rfl)) (by assumption) ?_
  try simp only [Act.put, List.getElem_toArray, List.getElem_cons_succ, List.getElem_cons_zero, List.setIfInBounds_toArray, List.set_cons_zero, List.set_cons_succ]
  refine wpAnyH_take (i := 14) (v := .agg #[.int .u64 x7.a, .int .u64 x7.b, .int .u64 x7.c]) rfl (by kernel_rfl) (by kernel_rfl) (by kernel_rfl) (fun _ _ _ h => h) (yieldsIf_load_mid (by rfl) 34 _ rfl b7 0 rfl (w3L x7) _ (fun _ h => h.w7.range) Tryd.underlying34 rfl (by kernel_rfl)) (by assumption) ?_
  try simp only [Act.put, List.getElem_toArray, List.getElem_cons_succ, List.getElem_cons_zero, List.setIfInBounds_toArray, List.set_cons_zero, List.set_cons_succ]
  refine wpAnyH_take (i := 16) (v := .agg #[.int .u64 x6.a, .int .u64 x6.b, .int .u64 x6.c]) rfl (by kernel_rfl) (by kernel_rfl) (by kernel_rfl) (fun _ _ _ h => h) (yieldsIf_load_mid (by rfl) 34 _ rfl b6 0 rfl (w3L x6) _ (fun _ h => h.w6.range) Tryd.underlying34 rfl (by kernel_rfl)) (by assumption) ?_
  try simp only [Act.put, List.getElem_toArray, List.getElem_cons_succ, List.getElem_cons_zero, List.setIfInBounds_toArray, List.set_cons_zero, List.set_cons_succ]
  refine wpAnyH_ready (rs := [1]) (by kernel_rfl) (by simp) ?_
  refine AllReadyH.cons rfl (fun K hK => ?_) AllReadyH.nil
  go_simp
  refine (run_any 1 x6 _).mono ?_
  rintro e V300 ⟨rfl, hj300⟩
  try go_wp2_with fail
  refine hK.out _ _ ?_ (fun hHeld => ?_)
  · (try dsimp only); (exact hHeld.kept hj300)
  clear hK K
  try simp only [Act.put, List.getElem_toArray, List.getElem_cons_succ, List.getElem_cons_zero, List.setIfInBounds_toArray, List.set_cons_zero, List.set_cons_succ]
  have hK300 := hide ((hK52.out.drew).trans hj300 (by simp))
  refine wpAnyH_ready (rs := [3]) (by kernel_rfl) (by simp) ?_
  refine AllReadyH.cons rfl (fun K hK => ?_) AllReadyH.nil
  go_simp
  refine (run_any 1 x7 _).mono ?_
  rintro e V301 ⟨rfl, hj301⟩
  try go_wp2_with fail
  refine hK.out _ _ ?_ (fun hHeld => ?_)
  · (try dsimp only); (exact hHeld.kept hj301)
  clear hK K
  try simp only [Act.put, List.getElem_toArray, List.getElem_cons_succ, List.getElem_cons_zero, List.setIfInBounds_toArray, List.set_cons_zero, List.set_cons_succ]
  have hK301 := hide ((hK300.out).trans hj301 (by simp))
  refine wpAnyH_ready (rs := [4]) (by kernel_rfl) (by simp) ?_
  refine AllReadyH.cons rfl (fun K hK => ?_) AllReadyH.nil
  go_simp
  try go_wp2_with fail
  refine hK.out _ _ ?_ (fun hHeld => ?_)
  · (try dsimp only); (exact hHeld.kept ((Kept.refl [] _).alloc _))
  clear hK K
  try simp only [Act.put, List.getElem_toArray, List.getElem_cons_succ, List.getElem_cons_zero, List.setIfInBounds_toArray, List.set_cons_zero, List.set_cons_succ]
  have sa_0 : Hid (Rd (V301.alloc (.cells #[.int .i64 1, .int .u64 x6.a, .int .u64 x6.b, .int .u64 x6.c, .int .i64 1, .int .u64 x7.a, .int .u64 x7.b, .int .u64 x7.c] 67)) (some ⟨V301.heap.size, 0, none⟩) 2 4 (runsV [⟨1, x6⟩, ⟨1, x7⟩])) := hide (Rd.ofBlock rowRun (heap_new_at (w := V301) (by simp)) rfl)
  refine wpAnyH_ready (rs := [5]) (by kernel_rfl) (by simp) ?_
  refine AllReadyH.cons rfl (fun K hK => ?_) AllReadyH.nil
  go_simp
  refine (runs_any _ _ _ _).mono ?_
  rintro e w' ⟨rfl, rfl⟩
  try go_wp2_with fail
  refine hK.out _ _ ?_ (fun hHeld => ?_)
  · (try dsimp only); (exact hHeld)
  clear hK K
  try simp only [Act.put, List.getElem_toArray, List.getElem_cons_succ, List.getElem_cons_zero, List.setIfInBounds_toArray, List.set_cons_zero, List.set_cons_succ]
  refine wpAnyH_ready (rs := [7]) (by kernel_rfl) (by simp) ?_
  refine AllReadyH.cons rfl (fun K hK => ?_) AllReadyH.nil
  go_simp
  refine (run_any 2 x7 _).mono ?_
  rintro e V302 ⟨rfl, hj302⟩
  try go_wp2_with fail
  refine hK.out _ _ ?_ (fun hHeld => ?_)
  · (try dsimp only); (exact hHeld.kept hj302)
  clear hK K
  try simp only [Act.put, List.getElem_toArray, List.getElem_cons_succ, List.getElem_cons_zero, List.setIfInBounds_toArray, List.set_cons_zero, List.set_cons_succ]
  have hK302 := hide (((hK301.out).alloc (.cells #[.int .i64 1, .int .u64 x6.a, .int .u64 x6.b, .int .u64 x6.c, .int .i64 1, .int .u64 x7.a, .int .u64 x7.b, .int .u64 x7.c] 67)).trans hj302 (by simp))
  have sa_302 := hide (Rd.kept (sa_0.out) hj302 (by simp))
  refine wpAnyH_ready (rs := [9]) (by kernel_rfl) (by simp) ?_
  refine AllReadyH.cons rfl (fun K hK => ?_) AllReadyH.nil
  go_simp
  refine (run_any 1 x6 _).mono ?_
  rintro e V303 ⟨rfl, hj303⟩
  try go_wp2_with fail
  refine hK.out _ _ ?_ (fun hHeld => ?_)
  · (try dsimp only); (exact hHeld.kept hj303)
  clear hK K
  try simp only [Act.put, List.getElem_toArray, List.getElem_cons_succ, List.getElem_cons_zero, List.setIfInBounds_toArray, List.set_cons_zero, List.set_cons_succ]
  have hK303 := hide ((hK302.out).trans hj303 (by simp))
  have sa_303 := hide (Rd.kept (sa_302.out) hj303 (by simp))
  refine wpAnyH_ready (rs := [10]) (by kernel_rfl) (by simp) ?_
  refine AllReadyH.cons rfl (fun K hK => ?_) AllReadyH.nil
  go_simp
  try go_wp2_with fail
  refine hK.out _ _ ?_ (fun hHeld => ?_)
  · (try dsimp only); (exact hHeld.kept ((Kept.refl [] _).alloc _))
  clear hK K
  try simp only [Act.put, List.getElem_toArray, List.getElem_cons_succ, List.getElem_cons_zero, List.setIfInBounds_toArray, List.set_cons_zero, List.set_cons_succ]
  have sb_0 : Hid (Rd (V303.alloc (.cells #[.int .i64 2, .int .u64 x7.a, .int .u64 x7.b, .int .u64 x7.c, .int .i64 1, .int .u64 x6.a, .int .u64 x6.b, .int .u64 x6.c] 67)) (some ⟨V303.heap.size, 0, none⟩) 2 4 (runsV [⟨2, x7⟩, ⟨1, x6⟩])) := hide (Rd.ofBlock rowRun (heap_new_at (w := V303) (by simp)) rfl)
  refine wpAnyH_ready (rs := [11]) (by kernel_rfl) (by simp) ?_
  refine AllReadyH.cons rfl (fun K hK => ?_) AllReadyH.nil
  go_simp
  refine (runs_any _ _ _ _).mono ?_
  rintro e w' ⟨rfl, rfl⟩
  try go_wp2_with fail
  refine hK.out _ _ ?_ (fun hHeld => ?_)
  · (try dsimp only); (exact hHeld)
  clear hK K
  try simp only [Act.put, List.getElem_toArray, List.getElem_cons_succ, List.getElem_cons_zero, List.setIfInBounds_toArray, List.set_cons_zero, List.set_cons_succ]
  refine wpAnyH_ready (rs := [13]) (by kernel_rfl) (by simp) ?_
  refine AllReadyH.cons rfl (fun K hK => ?_) AllReadyH.nil
  go_simp
  refine (run_any 1 x6 _).mono ?_
  rintro e V304 ⟨rfl, hj304⟩
  try go_wp2_with fail
  refine hK.out _ _ ?_ (fun hHeld => ?_)
  · (try dsimp only); (exact hHeld.kept hj304)
  clear hK K
  try simp only [Act.put, List.getElem_toArray, List.getElem_cons_succ, List.getElem_cons_zero, List.setIfInBounds_toArray, List.set_cons_zero, List.set_cons_succ]
  have hK304 := hide (((hK303.out).alloc (.cells #[.int .i64 2, .int .u64 x7.a, .int .u64 x7.b, .int .u64 x7.c, .int .i64 1, .int .u64 x6.a, .int .u64 x6.b, .int .u64 x6.c] 67)).trans hj304 (by simp))
  have sa_304 := hide (Rd.kept (Rd.kept (sa_303.out) ((Kept.refl [] _).alloc (.cells #[.int .i64 2, .int .u64 x7.a, .int .u64 x7.b, .int .u64 x7.c, .int .i64 1, .int .u64 x6.a, .int .u64 x6.b, .int .u64 x6.c] 67)) (by simp)) hj304 (by simp))
  have sb_304 := hide (Rd.kept (sb_0.out) hj304 (by simp))
  refine wpAnyH_ready (rs := [15]) (by kernel_rfl) (by simp) ?_
  refine AllReadyH.cons rfl (fun K hK => ?_) AllReadyH.nil
  go_simp
  refine (run_any 3 x7 _).mono ?_
  rintro e V305 ⟨rfl, hj305⟩
  try go_wp2_with fail
  refine hK.out _ _ ?_ (fun hHeld => ?_)
  · (try dsimp only); (exact hHeld.kept hj305)
  clear hK K
  try simp only [Act.put, List.getElem_toArray, List.getElem_cons_succ, List.getElem_cons_zero, List.setIfInBounds_toArray, List.set_cons_zero, List.set_cons_succ]
  have hK305 := hide ((hK304.out).trans hj305 (by simp))
  have sa_305 := hide (Rd.kept (sa_304.out) hj305 (by simp))
  have sb_305 := hide (Rd.kept (sb_304.out) hj305 (by simp))
  refine wpAnyH_ready (rs := [17]) (by kernel_rfl) (by simp) ?_
  refine AllReadyH.cons rfl (fun K hK => ?_) AllReadyH.nil
  go_simp
  refine (run_any 1 x6 _).mono ?_
  rintro e V306 ⟨rfl, hj306⟩
  try go_wp2_with fail
  refine hK.out _ _ ?_ (fun hHeld => ?_)
  · (try dsimp only); (exact hHeld.kept hj306)
  clear hK K
  try simp only [Act.put, List.getElem_toArray, List.getElem_cons_succ, List.getElem_cons_zero, List.setIfInBounds_toArray, List.set_cons_zero, List.set_cons_succ]
  have hK306 := hide ((hK305.out).trans hj306 (by simp))
  have sa_306 := hide (Rd.kept (sa_305.out) hj306 (by simp))
  have sb_306 := hide (Rd.kept (sb_305.out) hj306 (by simp))
  refine wpAnyH_ready (rs := [18]) (by kernel_rfl) (by simp) ?_
  refine AllReadyH.cons rfl (fun K hK => ?_) AllReadyH.nil
  go_simp
  try go_wp2_with fail
  refine hK.out _ _ ?_ (fun hHeld => ?_)
  · (try dsimp only); (exact hHeld.kept ((Kept.refl [] _).alloc _))
  clear hK K
  try simp only [Act.put, List.getElem_toArray, List.getElem_cons_succ, List.getElem_cons_zero, List.setIfInBounds_toArray, List.set_cons_zero, List.set_cons_succ]
  have sd_0 : Hid (Rd (V306.alloc (.cells #[.int .i64 1, .int .u64 x6.a, .int .u64 x6.b, .int .u64 x6.c, .int .i64 3, .int .u64 x7.a, .int .u64 x7.b, .int .u64 x7.c, .int .i64 1, .int .u64 x6.a, .int .u64 x6.b, .int .u64 x6.c] 67)) (some ⟨V306.heap.size, 0, none⟩) 3 4 (runsV [⟨1, x6⟩, ⟨3, x7⟩, ⟨1, x6⟩])) := hide (Rd.ofBlock rowRun (heap_new_at (w := V306) (by simp)) rfl)
  refine wpAnyH_ready (rs := [19]) (by kernel_rfl) (by simp) ?_
  refine AllReadyH.cons rfl (fun K hK => ?_) AllReadyH.nil
  go_simp
  refine (joins_ask _ 2 2 [⟨1, x6⟩, ⟨1, x7⟩] _ 2 2 [⟨2, x7⟩, ⟨1, x6⟩] (all_cons (rub (by decide) x6_b) (all_cons (rub (by decide) x7_b) all_nil)) (all_cons (rub (by decide) x7_b) (all_cons (rub (by decide) x6_b) all_nil)) 0 _ 3 3 [⟨1, x6⟩, ⟨3, x7⟩, ⟨1, x6⟩] true (by decide +kernel) _ (ht0.out.kept ((hK306.out).alloc (.cells #[.int .i64 1, .int .u64 x6.a, .int .u64 x6.b, .int .u64 x6.c, .int .i64 3, .int .u64 x7.a, .int .u64 x7.b, .int .u64 x7.c, .int .i64 1, .int .u64 x6.a, .int .u64 x6.b, .int .u64 x6.c] 67))) (Rd.kept (sa_306.out) ((Kept.refl [] _).alloc (.cells #[.int .i64 1, .int .u64 x6.a, .int .u64 x6.b, .int .u64 x6.c, .int .i64 3, .int .u64 x7.a, .int .u64 x7.b, .int .u64 x7.c, .int .i64 1, .int .u64 x6.a, .int .u64 x6.b, .int .u64 x6.c] 67)) (by simp)) (Rd.kept (sb_306.out) ((Kept.refl [] _).alloc (.cells #[.int .i64 1, .int .u64 x6.a, .int .u64 x6.b, .int .u64 x6.c, .int .i64 3, .int .u64 x7.a, .int .u64 x7.b, .int .u64 x7.c, .int .i64 1, .int .u64 x6.a, .int .u64 x6.b, .int .u64 x6.c] 67)) (by simp)) (by decide) (by decide) (sd_0.out)).mono ?_
  rintro e V307 ⟨rfl, hj307⟩
  try go_wp2_with fail
  refine hK.out _ _ ?_ (fun hHeld => ?_)
  · (try dsimp only); (exact hHeld.kept hj307)
  clear hK K
  try simp only [Act.put, List.getElem_toArray, List.getElem_cons_succ, List.getElem_cons_zero, List.setIfInBounds_toArray, List.set_cons_zero, List.set_cons_succ]
  have hK307 := hide (((hK306.out).alloc (.cells #[.int .i64 1, .int .u64 x6.a, .int .u64 x6.b, .int .u64 x6.c, .int .i64 3, .int .u64 x7.a, .int .u64 x7.b, .int .u64 x7.c, .int .i64 1, .int .u64 x6.a, .int .u64 x6.b, .int .u64 x6.c] 67)).trans hj307 (by simp))
  refine wpAnyH_take (i := 20) (v := ?_) rfl (by kernel_rfl) (by kernel_rfl) (by kernel_rfl) (fun _ _ _ h => h) (Or.inl ⟨by rfl, ?_⟩) (by assumption) ?_
  rotate_left
  · (intro wq hSw; (try dsimp only at hSw); go_simp; try with_reducible rfl)
  try simp only [Act.put, List.getElem_toArray, List.getElem_cons_succ, List.getElem_cons_zero, List.setIfInBounds_toArray, List.set_cons_zero, List.set_cons_succ]
  refine wpAnyH_take (i := 21) (v := .agg #[.int .u64 x6.a, .int .u64 x6.b, .int .u64 x6.c]) rfl (by kernel_rfl) (by kernel_rfl) (by kernel_rfl) (fun _ _ _ h => h) (yieldsIf_load_mid (by rfl) 34 _ rfl b6 0 rfl (w3L x6) _ (fun _ h => h.w6.range) Tryd.underlying34 rfl (by kernel_rfl)) (by assumption) ?_
  try simp only [Act.put, List.getElem_toArray, List.getElem_cons_succ, List.getElem_cons_zero, List.setIfInBounds_toArray, List.set_cons_zero, List.set_cons_succ]
  refine wpAnyH_ready (rs := [22]) (by kernel_rfl) (by simp) ?_
  refine AllReadyH.cons rfl (fun K hK => ?_) AllReadyH.nil
  go_simp
  refine (run_any 100001 x6 _).mono ?_
  rintro e V308 ⟨rfl, hj308⟩
  try go_wp2_with fail
  refine hK.out _ _ ?_ (fun hHeld => ?_)
  · (try dsimp only); (exact hHeld.kept hj308)
  clear hK K
  try simp only [Act.put, List.getElem_toArray, List.getElem_cons_succ, List.getElem_cons_zero, List.setIfInBounds_toArray, List.set_cons_zero, List.set_cons_succ]
  have hK308 := hide ((hK307.out).trans hj308 (by simp))
  refine wpAnyH_ready (rs := [23]) (by kernel_rfl) (by simp) ?_
  refine AllReadyH.cons rfl (fun K hK => ?_) AllReadyH.nil
  go_simp
  try go_wp2_with fail
  refine hK.out _ _ ?_ (fun hHeld => ?_)
  · (try dsimp only); (exact hHeld.kept ((Kept.refl [] _).alloc _))
  clear hK K
  try simp only [Act.put, List.getElem_toArray, List.getElem_cons_succ, List.getElem_cons_zero, List.setIfInBounds_toArray, List.set_cons_zero, List.set_cons_succ]
  have se_0 : Hid (Rd (V308.alloc (.cells #[.int .i64 100001, .int .u64 x6.a, .int .u64 x6.b, .int .u64 x6.c] 67)) (some ⟨V308.heap.size, 0, none⟩) 1 4 (runsV [⟨100001, x6⟩])) := hide (Rd.ofBlock rowRun (heap_new_at (w := V308) (by simp)) rfl)
  refine wpAnyH_ready (rs := [24]) (by kernel_rfl) (by simp) ?_
  refine AllReadyH.cons rfl (fun K hK => ?_) AllReadyH.nil
  go_simp
  refine (runs_any _ _ _ _).mono ?_
  rintro e w' ⟨rfl, rfl⟩
  try go_wp2_with fail
  refine hK.out _ _ ?_ (fun hHeld => ?_)
  · (try dsimp only); (exact hHeld)
  clear hK K
  try simp only [Act.put, List.getElem_toArray, List.getElem_cons_succ, List.getElem_cons_zero, List.setIfInBounds_toArray, List.set_cons_zero, List.set_cons_succ]
  refine wpAnyH_ready (rs := [25]) (by kernel_rfl) (by simp) ?_
  refine AllReadyH.cons rfl (fun K hK => ?_) AllReadyH.nil
  go_simp
  refine (valid5_ask [⟨100001, x6⟩] false (by decide +kernel) _ 1 1 (all_cons (rub (by decide) x6_b) all_nil) _ (ht0.out.kept ((hK308.out).alloc (.cells #[.int .i64 100001, .int .u64 x6.a, .int .u64 x6.b, .int .u64 x6.c] 67))) (se_0.out) (by decide)).mono ?_
  rintro e V309 ⟨rfl, hj309⟩
  try go_wp2_with fail
  refine hK.out _ _ ?_ (fun hHeld => ?_)
  · (try dsimp only); (exact hHeld.kept hj309)
  clear hK K
  try simp only [Act.put, List.getElem_toArray, List.getElem_cons_succ, List.getElem_cons_zero, List.setIfInBounds_toArray, List.set_cons_zero, List.set_cons_succ]
  have hK309 := hide (((hK308.out).alloc (.cells #[.int .i64 100001, .int .u64 x6.a, .int .u64 x6.b, .int .u64 x6.c] 67)).trans hj309 (by simp))
  refine wpAnyH_take (i := 26) (v := ?_) rfl (by kernel_rfl) (by kernel_rfl) (by kernel_rfl) (fun _ _ _ h => h) (Or.inl ⟨by rfl, ?_⟩) (by assumption) ?_
  rotate_left
  · (intro wq hSw; (try dsimp only at hSw); go_simp; try with_reducible rfl)
  try simp only [Act.put, List.getElem_toArray, List.getElem_cons_succ, List.getElem_cons_zero, List.setIfInBounds_toArray, List.set_cons_zero, List.set_cons_succ]
  refine wpAnyH_take (i := 27) (v := ?_) rfl (by kernel_rfl) (by kernel_rfl) (by kernel_rfl) (fun _ _ _ h => h) (Or.inl ⟨by rfl, ?_⟩) (by assumption) ?_
  rotate_left
  · (intro wq hSw; (try dsimp only at hSw); go_simp; try with_reducible rfl)
  try simp only [Act.put, List.getElem_toArray, List.getElem_cons_succ, List.getElem_cons_zero, List.setIfInBounds_toArray, List.set_cons_zero, List.set_cons_succ]
  refine wpAnyH_take (i := 28) (v := ?_) rfl (by kernel_rfl) (by kernel_rfl) (by kernel_rfl) (fun _ _ _ h => h) (Or.inl ⟨by rfl, ?_⟩) (by assumption) ?_
  rotate_left
  · (intro wq hSw; (try dsimp only at hSw); go_simp; try with_reducible rfl)
  try simp only [Act.put, List.getElem_toArray, List.getElem_cons_succ, List.getElem_cons_zero, List.setIfInBounds_toArray, List.set_cons_zero, List.set_cons_succ]
  refine wpAnyH_take (i := 29) (v := .agg #[.int .u64 x6.a, .int .u64 x6.b, .int .u64 x6.c]) rfl (by kernel_rfl) (by kernel_rfl) (by kernel_rfl) (fun _ _ _ h => h) (yieldsIf_load_mid (by rfl) 34 _ rfl b6 0 rfl (w3L x6) _ (fun _ h => h.w6.range) Tryd.underlying34 rfl (by kernel_rfl)) (by assumption) ?_
  try simp only [Act.put, List.getElem_toArray, List.getElem_cons_succ, List.getElem_cons_zero, List.setIfInBounds_toArray, List.set_cons_zero, List.set_cons_succ]
  refine wpAnyH_take (i := 33) (v := .agg #[.int .u64 x7.a, .int .u64 x7.b, .int .u64 x7.c]) rfl (by kernel_rfl) (by kernel_rfl) (by kernel_rfl) (fun _ _ _ h => h) (yieldsIf_load_mid (by rfl) 34 _ rfl b7 0 rfl (w3L x7) _ (fun _ h => h.w7.range) Tryd.underlying34 rfl (by kernel_rfl)) (by assumption) ?_
  try simp only [Act.put, List.getElem_toArray, List.getElem_cons_succ, List.getElem_cons_zero, List.setIfInBounds_toArray, List.set_cons_zero, List.set_cons_succ]
  refine wpAnyH_ready (rs := [30]) (by kernel_rfl) (by simp) ?_
  refine AllReadyH.cons rfl (fun K hK => ?_) AllReadyH.nil
  go_simp
  refine (run_any 100000 x6 _).mono ?_
  rintro e V310 ⟨rfl, hj310⟩
  try go_wp2_with fail
  refine hK.out _ _ ?_ (fun hHeld => ?_)
  · (try dsimp only); (exact hHeld.kept hj310)
  clear hK K
  try simp only [Act.put, List.getElem_toArray, List.getElem_cons_succ, List.getElem_cons_zero, List.setIfInBounds_toArray, List.set_cons_zero, List.set_cons_succ]
  have hK310 := hide ((hK309.out).trans hj310 (by simp))
  refine wpAnyH_ready (rs := [31]) (by kernel_rfl) (by simp) ?_
  refine AllReadyH.cons rfl (fun K hK => ?_) AllReadyH.nil
  go_simp
  try go_wp2_with fail
  refine hK.out _ _ ?_ (fun hHeld => ?_)
  · (try dsimp only); (exact hHeld.kept ((Kept.refl [] _).alloc _))
  clear hK K
  try simp only [Act.put, List.getElem_toArray, List.getElem_cons_succ, List.getElem_cons_zero, List.setIfInBounds_toArray, List.set_cons_zero, List.set_cons_succ]
  have sf_0 : Hid (Rd (V310.alloc (.cells #[.int .i64 100000, .int .u64 x6.a, .int .u64 x6.b, .int .u64 x6.c] 67)) (some ⟨V310.heap.size, 0, none⟩) 1 4 (runsV [⟨100000, x6⟩])) := hide (Rd.ofBlock rowRun (heap_new_at (w := V310) (by simp)) rfl)
  refine wpAnyH_ready (rs := [32]) (by kernel_rfl) (by simp) ?_
  refine AllReadyH.cons rfl (fun K hK => ?_) AllReadyH.nil
  go_simp
  refine (runs_any _ _ _ _).mono ?_
  rintro e w' ⟨rfl, rfl⟩
  try go_wp2_with fail
  refine hK.out _ _ ?_ (fun hHeld => ?_)
  · (try dsimp only); (exact hHeld)
  clear hK K
  try simp only [Act.put, List.getElem_toArray, List.getElem_cons_succ, List.getElem_cons_zero, List.setIfInBounds_toArray, List.set_cons_zero, List.set_cons_succ]
  refine wpAnyH_ready (rs := [34]) (by kernel_rfl) (by simp) ?_
  refine AllReadyH.cons rfl (fun K hK => ?_) AllReadyH.nil
  go_simp
  refine (run_any 1 x7 _).mono ?_
  rintro e V311 ⟨rfl, hj311⟩
  try go_wp2_with fail
  refine hK.out _ _ ?_ (fun hHeld => ?_)
  · (try dsimp only); (exact hHeld.kept hj311)
  clear hK K
  try simp only [Act.put, List.getElem_toArray, List.getElem_cons_succ, List.getElem_cons_zero, List.setIfInBounds_toArray, List.set_cons_zero, List.set_cons_succ]
  have hK311 := hide (((hK310.out).alloc (.cells #[.int .i64 100000, .int .u64 x6.a, .int .u64 x6.b, .int .u64 x6.c] 67)).trans hj311 (by simp))
  have sf_311 := hide (Rd.kept (sf_0.out) hj311 (by simp))
  refine wpAnyH_ready (rs := [35]) (by kernel_rfl) (by simp) ?_
  refine AllReadyH.cons rfl (fun K hK => ?_) AllReadyH.nil
  go_simp
  try go_wp2_with fail
  refine hK.out _ _ ?_ (fun hHeld => ?_)
  · (try dsimp only); (exact hHeld.kept ((Kept.refl [] _).alloc _))
  clear hK K
  try simp only [Act.put, List.getElem_toArray, List.getElem_cons_succ, List.getElem_cons_zero, List.setIfInBounds_toArray, List.set_cons_zero, List.set_cons_succ]
  have sg_0 : Hid (Rd (V311.alloc (.cells #[.int .i64 1, .int .u64 x7.a, .int .u64 x7.b, .int .u64 x7.c] 67)) (some ⟨V311.heap.size, 0, none⟩) 1 4 (runsV [⟨1, x7⟩])) := hide (Rd.ofBlock rowRun (heap_new_at (w := V311) (by simp)) rfl)
  refine wpAnyH_ready (rs := [36]) (by kernel_rfl) (by simp) ?_
  refine AllReadyH.cons rfl (fun K hK => ?_) AllReadyH.nil
  go_simp
  refine (runs_any _ _ _ _).mono ?_
  rintro e w' ⟨rfl, rfl⟩
  try go_wp2_with fail
  refine hK.out _ _ ?_ (fun hHeld => ?_)
  · (try dsimp only); (exact hHeld)
  clear hK K
  try simp only [Act.put, List.getElem_toArray, List.getElem_cons_succ, List.getElem_cons_zero, List.setIfInBounds_toArray, List.set_cons_zero, List.set_cons_succ]
  refine wpAnyH_ready (rs := [37]) (by kernel_rfl) (by simp) ?_
  refine AllReadyH.cons rfl (fun K hK => ?_) AllReadyH.nil
  go_simp
  refine (joins_ask _ 1 1 [⟨100000, x6⟩] _ 1 1 [⟨1, x7⟩] (all_cons (rub (by decide) x6_b) all_nil) (all_cons (rub (by decide) x7_b) all_nil) 5 _ 0 0 [] true (by decide +kernel) _ (ht0.out.kept ((hK311.out).alloc (.cells #[.int .i64 1, .int .u64 x7.a, .int .u64 x7.b, .int .u64 x7.c] 67))) (Rd.kept (sf_311.out) ((Kept.refl [] _).alloc (.cells #[.int .i64 1, .int .u64 x7.a, .int .u64 x7.b, .int .u64 x7.c] 67)) (by simp)) (sg_0.out) (by decide) (by decide) (Rd.nil _ _ _)).mono ?_
  rintro e V312 ⟨rfl, hj312⟩
  try go_wp2_with fail
  refine hK.out _ _ ?_ (fun hHeld => ?_)
  · (try dsimp only); (exact hHeld.kept hj312)
  clear hK K
  try simp only [Act.put, List.getElem_toArray, List.getElem_cons_succ, List.getElem_cons_zero, List.setIfInBounds_toArray, List.set_cons_zero, List.set_cons_succ]
  have hK312 := hide (((hK311.out).alloc (.cells #[.int .i64 1, .int .u64 x7.a, .int .u64 x7.b, .int .u64 x7.c] 67)).trans hj312 (by simp))
  refine wpAnyH_take (i := 38) (v := ?_) rfl (by kernel_rfl) (by kernel_rfl) (by kernel_rfl) (fun _ _ _ h => h) (Or.inl ⟨by rfl, ?_⟩) (by assumption) ?_
  rotate_left
  · (intro wq hSw; (try dsimp only at hSw); go_simp; try with_reducible rfl)
  try simp only [Act.put, List.getElem_toArray, List.getElem_cons_succ, List.getElem_cons_zero, List.setIfInBounds_toArray, List.set_cons_zero, List.set_cons_succ]
  refine wpAnyH_take (i := 39) (v := ?_) rfl (by kernel_rfl) (by kernel_rfl) (by kernel_rfl) (fun _ _ _ h => h) (Or.inl ⟨by rfl, ?_⟩) (by assumption) ?_
  rotate_left
  · (intro wq hSw; (try dsimp only at hSw); go_simp; try with_reducible rfl)
  try simp only [Act.put, List.getElem_toArray, List.getElem_cons_succ, List.getElem_cons_zero, List.setIfInBounds_toArray, List.set_cons_zero, List.set_cons_succ]
  refine wpAnyH_done (by kernel_rfl) ?_ _
  go_wp2_with fail
  go_ret
  exact ⟨rfl, hK312.out⟩
end Go.Proofs.YtpdjlollijbdeaaDoor
