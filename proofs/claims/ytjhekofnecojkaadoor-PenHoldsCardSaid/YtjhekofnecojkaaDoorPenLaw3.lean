/- The walk of PenHolds. -/
import Derived.Test.YtjhekofnecojkaaDoorPenBag
import Derived.Deep.Cut
import Derived.Deep.CutRange
namespace Go.Proofs.YtjhekofnecojkaaDoor
open Go.RowKit
set_option linter.unusedVariables false

set_option maxHeartbeats 1000000 in
theorem pen_ne (p q : Pn) (h : p ≠ q) (w : World) : (binOp .eql 27 (.agg #[.int .i64 p.f.k, .int .u8 p.f.i, .int .u8 p.f.r, .int .u8 p.f.g, .int .u8 p.f.b, .int .i64 p.b.k, .int .u8 p.b.i, .int .u8 p.b.r, .int .u8 p.b.g, .int .u8 p.b.b, .int .u8 p.fl]) (.agg #[.int .i64 q.f.k, .int .u8 q.f.i, .int .u8 q.f.r, .int .u8 q.f.g, .int .u8 q.f.b, .int .i64 q.b.k, .int .u8 q.b.i, .int .u8 q.b.r, .int .u8 q.b.g, .int .u8 q.b.b, .int .u8 q.fl])).run Tryd.prog w = .ok (.bool false) w := by
  rcases Classical.em (¬ p.f.k = q.f.k) with h0 | h0
  · go_simp
  replace h0 := Classical.not_not.1 h0
  rcases Classical.em (¬ p.f.i = q.f.i) with h1 | h1
  · go_simp
  replace h1 := Classical.not_not.1 h1
  rcases Classical.em (¬ p.f.r = q.f.r) with h2 | h2
  · go_simp
  replace h2 := Classical.not_not.1 h2
  rcases Classical.em (¬ p.f.g = q.f.g) with h3 | h3
  · go_simp
  replace h3 := Classical.not_not.1 h3
  rcases Classical.em (¬ p.f.b = q.f.b) with h4 | h4
  · go_simp
  replace h4 := Classical.not_not.1 h4
  rcases Classical.em (¬ p.b.k = q.b.k) with h5 | h5
  · go_simp
  replace h5 := Classical.not_not.1 h5
  rcases Classical.em (¬ p.b.i = q.b.i) with h6 | h6
  · go_simp
  replace h6 := Classical.not_not.1 h6
  rcases Classical.em (¬ p.b.r = q.b.r) with h7 | h7
  · go_simp
  replace h7 := Classical.not_not.1 h7
  rcases Classical.em (¬ p.b.g = q.b.g) with h8 | h8
  · go_simp
  replace h8 := Classical.not_not.1 h8
  rcases Classical.em (¬ p.b.b = q.b.b) with h9 | h9
  · go_simp
  replace h9 := Classical.not_not.1 h9
  rcases Classical.em (¬ p.fl = q.fl) with h10 | h10
  · go_simp
  replace h10 := Classical.not_not.1 h10
  exfalso
  apply h
  obtain ⟨⟨a0, a1, a2, a3, a4⟩, ⟨a5, a6, a7, a8, a9⟩, a10⟩ := p
  obtain ⟨⟨b0, b1, b2, b3, b4⟩, ⟨b5, b6, b7, b8, b9⟩, b10⟩ := q
  simp only at h0 h1 h2 h3 h4 h5 h6 h7 h8 h9 h10
  subst h0 h1 h2 h3 h4 h5 h6 h7 h8 h9 h10
  rfl

set_option maxRecDepth 100000 in
set_option maxHeartbeats 4000000 in
theorem PenHolds_long (p q : Pn) (v : Int) (al : Option Addr) (n c : Nat) (hn : 20 < n) (w : World) (ht : WordsAt w) :
    Calls Tryd.prog 7 #[.agg #[.int .i64 p.f.k, .int .u8 p.f.i, .int .u8 p.f.r, .int .u8 p.f.g, .int .u8 p.f.b, .int .i64 p.b.k, .int .u8 p.b.i, .int .u8 p.b.r, .int .u8 p.b.g, .int .u8 p.b.b, .int .u8 p.fl], .agg #[.int .i64 q.f.k, .int .u8 q.f.i, .int .u8 q.f.r, .int .u8 q.f.g, .int .u8 q.f.b, .int .i64 q.b.k, .int .u8 q.b.i, .int .u8 q.b.r, .int .u8 q.b.g, .int .u8 q.b.b, .int .u8 q.fl], .int .u64 v, .slice al n c] w fun e w' => e = .returned (.bool true) ∧ Kept [] w w' := by
  have hkn := hide (fun w1 hk => known_any w1 (ht.kept hk (by simp)) : ∀ w1, Kept [] w w1 → _)
  clear ht
  have hn2 : (20 : Int) < (n : Int) := by omega
  go_enter Tryd.func7, Tryd.ntmps7
  go_wp2_with fail
  have hk0 : Kept [] w ((w.alloc (.cells #[.int .i64 p.f.k, .int .u8 p.f.i, .int .u8 p.f.r, .int .u8 p.f.g, .int .u8 p.f.b, .int .i64 p.b.k, .int .u8 p.b.i, .int .u8 p.b.r, .int .u8 p.b.g, .int .u8 p.b.b, .int .u8 p.fl] 27)).alloc (.cells #[.int .i64 q.f.k, .int .u8 q.f.i, .int .u8 q.f.r, .int .u8 q.f.g, .int .u8 q.f.b, .int .i64 q.b.k, .int .u8 q.b.i, .int .u8 q.b.r, .int .u8 q.b.g, .int .u8 q.b.b, .int .u8 q.fl] 27)) := ((Kept.refl [] w).alloc _).alloc _
  refine (hkn.out _ hk0).mono ?_
  rintro e w1 ⟨rfl, hk1⟩
  go_wp2_with fail
  go_ret
  exact ⟨rfl, hk0.trans hk1 (by simp)⟩

/-- Eight Booleans as an array. -/
def thV (f : Nat → Bool) : List Value := [.bool (f 0), .bool (f 1), .bool (f 2), .bool (f 3), .bool (f 4), .bool (f 5), .bool (f 6), .bool (f 7)]
theorem th_at0 (f : Nat → Bool) (w : World) : (Instr.index 55 (.agg (thV f).toArray) (.int .i64 ((0 : Nat) : Int))).run Tryd.prog w = .ok (.bool (f 0)) w := by kernel_rfl
theorem th_at1 (f : Nat → Bool) (w : World) : (Instr.index 55 (.agg (thV f).toArray) (.int .i64 ((1 : Nat) : Int))).run Tryd.prog w = .ok (.bool (f 1)) w := by kernel_rfl
theorem th_at2 (f : Nat → Bool) (w : World) : (Instr.index 55 (.agg (thV f).toArray) (.int .i64 ((2 : Nat) : Int))).run Tryd.prog w = .ok (.bool (f 2)) w := by kernel_rfl
theorem th_at3 (f : Nat → Bool) (w : World) : (Instr.index 55 (.agg (thV f).toArray) (.int .i64 ((3 : Nat) : Int))).run Tryd.prog w = .ok (.bool (f 3)) w := by kernel_rfl
theorem th_at4 (f : Nat → Bool) (w : World) : (Instr.index 55 (.agg (thV f).toArray) (.int .i64 ((4 : Nat) : Int))).run Tryd.prog w = .ok (.bool (f 4)) w := by kernel_rfl
theorem th_at5 (f : Nat → Bool) (w : World) : (Instr.index 55 (.agg (thV f).toArray) (.int .i64 ((5 : Nat) : Int))).run Tryd.prog w = .ok (.bool (f 5)) w := by kernel_rfl
theorem th_at6 (f : Nat → Bool) (w : World) : (Instr.index 55 (.agg (thV f).toArray) (.int .i64 ((6 : Nat) : Int))).run Tryd.prog w = .ok (.bool (f 6)) w := by kernel_rfl
theorem th_at7 (f : Nat → Bool) (w : World) : (Instr.index 55 (.agg (thV f).toArray) (.int .i64 ((7 : Nat) : Int))).run Tryd.prog w = .ok (.bool (f 7)) w := by kernel_rfl
theorem th_at (f : Nat → Bool) (i : Nat) (hi : i < 8) (w : World) : (Instr.index 55 (.agg (thV f).toArray) (.int .i64 i)).run Tryd.prog w = .ok (.bool (f i)) w := by
  have hc : i = 0 ∨ i = 1 ∨ i = 2 ∨ i = 3 ∨ i = 4 ∨ i = 5 ∨ i = 6 ∨ i = 7 := by omega
  rcases hc with rfl | rfl | rfl | rfl | rfl | rfl | rfl | rfl
  · exact th_at0 f w
  · exact th_at1 f w
  · exact th_at2 f w
  · exact th_at3 f w
  · exact th_at4 f w
  · exact th_at5 f w
  · exact th_at6 f w
  · exact th_at7 f w
theorem th_range {w : World} {T : Nat} {f : Nat → Bool} (h : ∀ j, j < 8 → w.cell? ⟨T, j, none⟩ = some (.bool (f j))) : w.rangeAt T 0 (thV f) := by
  intro j v hv
  have hj : j < 8 := (List.getElem?_eq_some_iff.1 hv).1
  rw [Nat.zero_add, h j hj]
  have hc : j = 0 ∨ j = 1 ∨ j = 2 ∨ j = 3 ∨ j = 4 ∨ j = 5 ∨ j = 6 ∨ j = 7 := by omega
  rcases hc with rfl | rfl | rfl | rfl | rfl | rfl | rfl | rfl <;> exact hv

/-- The blocks of PenHolds are five. -/
structure Apart (B G T X Y : Nat) : Prop where
  bg : B < G
  gt : G < T
  tx : T < X
  ty : T < Y
  xy : X ≠ Y
/-- What holds behind k rounds: both pens have the flags that the first k numbers gave, from either end. -/
structure HInv (w wr : World) (l : List Int) (p : Pn) (B G T X Y k : Nat) : Prop where
  kept : Kept [] w wr
  pen : PenIn wr B p
  all : ∀ j, j < 8 → wr.cell? ⟨G, j, none⟩ = some (.int .u8 (flagI j))
  there : ∀ j, j < 8 → wr.cell? ⟨T, j, none⟩ = some (.bool (th (l.take k) j)) ∧ wr.frozen? ⟨T, j, none⟩ = false
  x : PenIn wr X ⟨p.f, p.b, flN (l.take k)⟩
  y : PenIn wr Y ⟨p.f, p.b, flN (l.reverse.take k)⟩

set_option maxRecDepth 100000 in
set_option maxHeartbeats 4000000 in
theorem PenHolds_short (p q : Pn) (hp : PnB p) (hq : PnB q) (v : Int) (hv : 0 ≤ v ∧ v < 18446744073709551616) (al : Option Addr) (n c : Nat) (hn : n ≤ 20) (l : List Int) (w : World) (hl : Rd w al n 1 (ints .u8 l)) (hlb : ∀ x ∈ l, Byte x) (ht : WordsAt w) :
    Calls Tryd.prog 7 #[.agg #[.int .i64 p.f.k, .int .u8 p.f.i, .int .u8 p.f.r, .int .u8 p.f.g, .int .u8 p.f.b, .int .i64 p.b.k, .int .u8 p.b.i, .int .u8 p.b.r, .int .u8 p.b.g, .int .u8 p.b.b, .int .u8 p.fl], .agg #[.int .i64 q.f.k, .int .u8 q.f.i, .int .u8 q.f.r, .int .u8 q.f.g, .int .u8 q.f.b, .int .i64 q.b.k, .int .u8 q.b.i, .int .u8 q.b.r, .int .u8 q.b.g, .int .u8 q.b.b, .int .u8 q.fl], .int .u64 v, .slice al n c] w fun e w' => e = .returned (.bool true) ∧ Kept [] w w' := by
  have hkn := hide (fun w1 hk => known_any w1 (ht.kept hk (by simp)) : ∀ w1, Kept [] w w1 → _)
  clear ht
  have hn2 : (n : Int) ≤ 20 := by omega
  obtain ⟨⟨a, e⟩, hae⟩ : ∃ x, packE p = x := ⟨_, rfl⟩
  obtain ⟨⟨b, f⟩, hbf⟩ : ∃ x, packE q = x := ⟨_, rfl⟩
  obtain ⟨⟨x, g⟩, hxg⟩ : ∃ y, unpackE v = y := ⟨_, rfl⟩
  have hP := hide (fun w1 => Pack_is p hp a e hae w1)
  have hQ := hide (fun w1 => Pack_is q hq b f hbf w1)
  have hU := hide (fun w1 => Unpack_is v hv x g hxg w1)
  have hV := hide (fun w1 => valid_is p (decide (penOk p)) rfl w1)
  have hAE := hide hae
  have hBF := hide hbf
  have hXG := hide hxg
  have hPB := hide hp
  have hQB := hide hq
  have hL := hide hl
  have hLB := hide hlb
  clear hae hbf hxg hp hq hl hlb
  go_enter Tryd.func7, Tryd.ntmps7
  go_wp2_with fail
  obtain ⟨W0, hW0⟩ : ∃ z : World, z = (w.alloc (.cells #[.int .i64 p.f.k, .int .u8 p.f.i, .int .u8 p.f.r, .int .u8 p.f.g, .int .u8 p.f.b, .int .i64 p.b.k, .int .u8 p.b.i, .int .u8 p.b.r, .int .u8 p.b.g, .int .u8 p.b.b, .int .u8 p.fl] 27)).alloc (.cells #[.int .i64 q.f.k, .int .u8 q.f.i, .int .u8 q.f.r, .int .u8 q.f.g, .int .u8 q.f.b, .int .i64 q.b.k, .int .u8 q.b.i, .int .u8 q.b.r, .int .u8 q.b.g, .int .u8 q.b.b, .int .u8 q.fl] 27) := ⟨_, rfl⟩
  have hk0 : Kept [] w W0 := by rw [hW0]; exact ((Kept.refl [] w).alloc _).alloc _
  have hs1 : (w.alloc (.cells #[.int .i64 p.f.k, .int .u8 p.f.i, .int .u8 p.f.r, .int .u8 p.f.g, .int .u8 p.f.b, .int .i64 p.b.k, .int .u8 p.b.i, .int .u8 p.b.r, .int .u8 p.b.g, .int .u8 p.b.b, .int .u8 p.fl] 27)).heap.size = w.heap.size + 1 := by simp
  have hp0 : Hid (PenIn W0 w.heap.size p) := hide (by rw [hW0]; exact (PenIn.new w p).kept ((Kept.refl [] _).alloc _) (by simp))
  have hq0 : Hid (PenIn W0 (w.heap.size + 1) q) := hide (by rw [hW0, ← hs1]; exact PenIn.new _ q)
  rw [← hW0]
  clear hW0 hs1
  refine (hP.out _).mono ?_
  rintro r w1 ⟨rfl, hk1⟩
  have hp1 := hide (hp0.out.kept hk1 (by simp))
  have hq1 := hide (hq0.out.kept hk1 (by simp))
  have hK1 := hk0.trans hk1 (by simp)
  clear hp0 hq0 hk0 hk1
  obtain ⟨z0, z1, z2, z3, z4, z5, z6, z7, z8, z9, z10⟩ := hq1.out.at
  go_wp2_with fail
  clear z0 z1 z2 z3 z4 z5 z6 z7 z8 z9 z10
  refine (hQ.out _).mono ?_
  rintro r w2 ⟨rfl, hk2⟩
  have hp2 := hide (hp1.out.kept hk2 (by simp))
  have hq2 := hide (hq1.out.kept hk2 (by simp))
  have hK2 := hK1.trans hk2 (by simp)
  clear hp1 hq1 hK1 hk2
  go_upto_region 5 with fail
  go_cut [74] from 25 (fun s74 wc => s74 = .bool false ∧ Kept [] w2 wc)
  case first =>
    obtain ⟨z0, z1, z2, z3, z4, z5, z6, z7, z8, z9, z10⟩ := hp2.out.at
    by_cases cp : penOk p
    · obtain ⟨rfl, rfl⟩ : packI p = a ∧ (0 : Int) = e := by have := hAE.out; unfold packE at this; rw [if_pos cp] at this; cases this; exact ⟨rfl, rfl⟩
      have hVt := hide (hV.out)
      rw [decide_eq_true cp] at hVt
      obtain ⟨_, _, _, a0, a1⟩ := pack_parts cp hPB.out
      have hUp := hide (fun w1 => unpacks_is (packI p) ⟨a0, by omega⟩ p 0 (by unfold unpackE; rw [unpack_pack cp hPB.out, if_pos rfl]) w1)
      by_cases cq : penOk q
      · obtain ⟨rfl, rfl⟩ : packI q = b ∧ (0 : Int) = f := by have := hBF.out; unfold packE at this; rw [if_pos cq] at this; cases this; exact ⟨rfl, rfl⟩
        by_cases hpq : p = q
        · subst hpq
          have hd : decide ((1152921504606846976 : Int) ≤ packI p) = false := decide_eq_false (by omega)
          generalize packI p = a at *
          go_wp2_with fail
          refine (hVt.out _).mono ?_
          rintro r w3 ⟨rfl, hk3⟩
          clear z0 z1 z2 z3 z4 z5 z6 z7 z8 z9 z10
          obtain ⟨z0, z1, z2, z3, z4, z5, z6, z7, z8, z9, z10⟩ := (hp2.out.kept hk3 (by simp)).at
          go_wp2_with fail
          refine (hUp.out _).mono ?_
          rintro r w4 ⟨rfl, hk4⟩
          clear z0 z1 z2 z3 z4 z5 z6 z7 z8 z9 z10
          obtain ⟨z0, z1, z2, z3, z4, z5, z6, z7, z8, z9, z10⟩ := (hp2.out.kept (hk3.trans hk4 (by simp)) (by simp)).at
          obtain ⟨y0, y1, y2, y3, y4, y5, y6, y7, y8, y9, y10⟩ := (hq2.out.kept (hk3.trans hk4 (by simp)) (by simp)).at
          go_wp2_with fail
          go_meet
          case rel => exact ⟨rfl, hk3.trans hk4 (by simp)⟩
        · have hne := hide (pen_ne p q hpq)
          have hab : (packI p == packI q) = false := by
            rw [beq_eq_false_iff_ne]
            exact fun h => hpq (pack_inj cp hPB.out cq hQB.out h)
          have hd : decide ((1152921504606846976 : Int) ≤ packI p) = false := decide_eq_false (by omega)
          generalize packI p = a at *
          generalize packI q = b at *
          go_wp2_with fail
          refine (hVt.out _).mono ?_
          rintro r w3 ⟨rfl, hk3⟩
          clear z0 z1 z2 z3 z4 z5 z6 z7 z8 z9 z10
          obtain ⟨z0, z1, z2, z3, z4, z5, z6, z7, z8, z9, z10⟩ := (hp2.out.kept hk3 (by simp)).at
          go_wp2_with fail
          refine (hUp.out _).mono ?_
          rintro r w4 ⟨rfl, hk4⟩
          clear z0 z1 z2 z3 z4 z5 z6 z7 z8 z9 z10
          obtain ⟨z0, z1, z2, z3, z4, z5, z6, z7, z8, z9, z10⟩ := (hp2.out.kept (hk3.trans hk4 (by simp)) (by simp)).at
          obtain ⟨y0, y1, y2, y3, y4, y5, y6, y7, y8, y9, y10⟩ := (hq2.out.kept (hk3.trans hk4 (by simp)) (by simp)).at
          have hne2 := hne.out
          go_wp2_with fail
          go_meet
          case rel => exact ⟨rfl, hk3.trans hk4 (by simp)⟩
      · obtain ⟨rfl, rfl⟩ : (0 : Int) = b ∧ (2 : Int) = f := by have := hBF.out; unfold packE at this; rw [if_neg cq] at this; cases this; exact ⟨rfl, rfl⟩
        have hd : decide ((1152921504606846976 : Int) ≤ packI p) = false := decide_eq_false (by omega)
        generalize packI p = a at *
        go_wp2_with fail
        refine (hVt.out _).mono ?_
        rintro r w3 ⟨rfl, hk3⟩
        clear z0 z1 z2 z3 z4 z5 z6 z7 z8 z9 z10
        obtain ⟨z0, z1, z2, z3, z4, z5, z6, z7, z8, z9, z10⟩ := (hp2.out.kept hk3 (by simp)).at
        go_wp2_with fail
        refine (hUp.out _).mono ?_
        rintro r w4 ⟨rfl, hk4⟩
        go_wp2_with fail
        go_meet
        case rel => exact ⟨rfl, hk3.trans hk4 (by simp)⟩
    · obtain ⟨rfl, rfl⟩ : (0 : Int) = a ∧ (2 : Int) = e := by have := hAE.out; unfold packE at this; rw [if_neg cp] at this; cases this; exact ⟨rfl, rfl⟩
      have hVt := hide (hV.out)
      rw [decide_eq_false cp] at hVt
      go_wp2_with fail
      refine (hVt.out _).mono ?_
      rintro r w3 ⟨rfl, hk3⟩
      go_wp2_with fail
      go_meet
      case rel => exact ⟨rfl, hk3⟩
  case rest =>
    obtain ⟨rfl, hkc⟩ := hcut
    obtain ⟨w3, hw3⟩ : ∃ z : World, z = wc := ⟨_, rfl⟩
    subst hw3
    have hp3 := hide (hp2.out.kept hkc (by simp))
    have hK3 := hide (hK2.trans hkc (by simp))
    clear hP hQ hV hBF hq2 hQB hp2 hK2 hkc
    go_wp2_with fail
    refine (hU.out _).mono ?_
    rintro r w4 ⟨rfl, hk4⟩
    have hp4 := hide (hp3.out.kept hk4 (by simp))
    have hK4 := hide (hK3.out.trans hk4 (by simp))
    clear hp3 hK3 hk4 hU
    go_upto_region 8 with fail
    obtain ⟨W5, hW5⟩ : ∃ z : World, z = w4.alloc (.cells #[.int .i64 x.f.k, .int .u8 x.f.i, .int .u8 x.f.r, .int .u8 x.f.g, .int .u8 x.f.b, .int .i64 x.b.k, .int .u8 x.b.i, .int .u8 x.b.r, .int .u8 x.b.g, .int .u8 x.b.b, .int .u8 x.fl] 27) := ⟨_, rfl⟩
    have hk5 : Kept [] w4 W5 := by rw [hW5]; exact (Kept.refl [] w4).alloc _
    have hx5 : Hid (PenIn W5 w4.heap.size x) := hide (by rw [hW5]; exact PenIn.new w4 x)
    rw [← hW5]
    clear hW5
    generalize hbx : w4.heap.size = bx at *
    have hp5 := hide (hp4.out.kept hk5 (by simp))
    have hK5 := hide (hK4.out.trans hk5 (by simp))
    clear hp4 hK4 hk5 hbx
    go_cut [92] from 25 (fun s92 wc => s92 = .bool false ∧ Kept [] W5 wc)
    case first =>
      by_cases c : packI (unpackI v) = v
      · obtain ⟨rfl, rfl⟩ : unpackI v = x ∧ (0 : Int) = g := by have := hXG.out; unfold unpackE at this; rw [if_pos c] at this; cases this; exact ⟨rfl, rfl⟩
        have hVx := hide (fun w1 => valid_is (unpackI v) true (decide_eq_true (unpack_ok v)) w1)
        have hPx := hide (fun w1 => packs_is (unpackI v) (unpack_b v) v 0 (by unfold packE; rw [if_pos (unpack_ok v), c]) w1)
        clear c hXG hv
        generalize unpackI v = x at *
        obtain ⟨z0, z1, z2, z3, z4, z5, z6, z7, z8, z9, z10⟩ := hx5.out.at
        go_wp2_with fail
        refine (hVx.out _).mono ?_
        rintro r w6 ⟨rfl, hk6⟩
        clear z0 z1 z2 z3 z4 z5 z6 z7 z8 z9 z10
        obtain ⟨z0, z1, z2, z3, z4, z5, z6, z7, z8, z9, z10⟩ := (hx5.out.kept hk6 (by simp)).at
        go_wp2_with fail
        refine (hPx.out _).mono ?_
        rintro r w7 ⟨rfl, hk7⟩
        go_wp2_with fail
        go_meet
        case rel => exact ⟨rfl, hk6.trans hk7 (by simp)⟩
      · obtain ⟨rfl, rfl⟩ : zeroP = x ∧ (12 : Int) = g := by have := hXG.out; unfold unpackE at this; rw [if_neg c] at this; cases this; exact ⟨rfl, rfl⟩
        go_wp2_with fail
        go_meet
        case rel => exact ⟨rfl, Kept.refl _ _⟩
    case rest =>
      obtain ⟨rfl, hkc⟩ := hcut
      obtain ⟨w6, hw6⟩ : ∃ z : World, z = wc := ⟨_, rfl⟩
      subst hw6
      have hp6 := hide (hp5.out.kept hkc (by simp))
      have hK6 := hide (hK5.out.trans hkc (by simp))
      clear hp5 hK5 hkc hx5 hXG
      go_wp2_with fail
      refine (All_any _).mono ?_
      rintro r w7 ⟨ag, cg, rfl, hO, hk7⟩
      obtain ⟨G, rfl, _⟩ := hO.form (by omega)
      have hGlt : w6.heap.size ≤ G ∧ G < w7.heap.size := hO.ge G (by simp [blk])
      have hPG0 : w.heap.size < G := Nat.lt_of_lt_of_le (World.block_lt_of_cell? w6 _ hp6.out.at.1) hGlt.1
      have hG7 : Hid (∀ j, j < 8 → w7.cell? ⟨G, j, none⟩ = some (.int .u8 (flagI j))) := hide (by
        rcases hO.rd.2 with h0 | ⟨b0, o0, e0, hc⟩
        · simp [ints, flagsL] at h0
        · injection e0 with e0
          injection e0 with e1 e2
          subst e1 e2
          intro j hj
          have := hc j (.int .u8 (flagI j)) (by simp [ints, flagsL_at j hj])
          simpa using this)
      have hp7 := hide (hp6.out.kept hk7 (by simp))
      have hK7 := hide (hK6.out.trans hk7 (by simp))
      clear hO hp6 hk7
      by_cases cp : penOk p
      · obtain ⟨rfl, rfl⟩ : packI p = a ∧ (0 : Int) = e := by have := hAE.out; unfold packE at this; rw [if_pos cp] at this; cases this; exact ⟨rfl, rfl⟩
        have hCP := hide cp
        clear cp hAE
        generalize packI p = a at *
        go_upto_region 14 with fail
        obtain ⟨W8, hW8⟩ : ∃ z : World, z = w7.alloc (.cells #[.bool false, .bool false, .bool false, .bool false, .bool false, .bool false, .bool false, .bool false] 55) := ⟨_, rfl⟩
        have hk8 : Kept [] w7 W8 := by rw [hW8]; exact (Kept.refl [] w7).alloc _
        have hT8 : Hid (W8.heap[w7.heap.size]? = some (.cells #[.bool false, .bool false, .bool false, .bool false, .bool false, .bool false, .bool false, .bool false] 55 (0, 0))) := hide (by rw [hW8]; exact heap_alloc_new w7 _)
        have hs8 : W8.heap.size = w7.heap.size + 1 := by rw [hW8]; simp
        rw [← hW8]
        clear hW8
        have hp8 := hide (hp7.out.kept hk8 (by simp))
        have hK8 := hide (hK7.out.trans hk8 (by simp))
        have hG8 := hide (fun j hj => hk8.cell (hG7.out j hj) (by simp) : ∀ j, j < 8 → W8.cell? ⟨G, j, none⟩ = some (.int .u8 (flagI j)))
        clear hp7 hG7 hk8
        obtain ⟨z0, z1, z2, z3, z4, z5, z6, z7, z8, z9, z10⟩ := hp8.out.at
        have hlt8 : w.heap.size < W8.heap.size := World.block_lt_of_cell? W8 _ z0
        have hTw : Hid (w.heap.size ≤ w7.heap.size ∧ w7.heap.size < W8.heap.size ∧ G < w7.heap.size ∧ w.heap.size ≤ G) := hide ⟨hK7.out.size, by omega, hGlt.2, Nat.le_trans hK6.out.size hGlt.1⟩
        clear hK7 hs8 hGlt hK6
        generalize w7.heap.size = T at *
        have hPG : w.heap.size < G := hPG0
        clear hPG0
        go_cut [17, 18] from 25 (fun s17 s18 wc => ∃ X Y : Nat, s17 = .pointer (some ⟨X, 0, none⟩) ∧ s18 = .pointer (some ⟨Y, 0, none⟩) ∧ X ≠ Y ∧ W8.heap.size ≤ X ∧ W8.heap.size ≤ Y ∧ PenIn wc X ⟨p.f, p.b, 0⟩ ∧ PenIn wc Y ⟨p.f, p.b, 0⟩ ∧ Kept [] W8 wc)
        case first =>
          have h0 := hide (fun (o : Obj) => show (W8.alloc o).heap.size = W8.heap.size + 1 by simp)
          go_region_held3 (fun w' => w'.cell? ⟨w.heap.size, 0, none⟩ = some (.int .i64 p.f.k) ∧ w'.cell? ⟨w.heap.size, 1, none⟩ = some (.int .u8 p.f.i) ∧ w'.cell? ⟨w.heap.size, 2, none⟩ = some (.int .u8 p.f.r) ∧ w'.cell? ⟨w.heap.size, 3, none⟩ = some (.int .u8 p.f.g) ∧ w'.cell? ⟨w.heap.size, 4, none⟩ = some (.int .u8 p.f.b) ∧ w'.cell? ⟨w.heap.size, 5, none⟩ = some (.int .i64 p.b.k) ∧ w'.cell? ⟨w.heap.size, 6, none⟩ = some (.int .u8 p.b.i) ∧ w'.cell? ⟨w.heap.size, 7, none⟩ = some (.int .u8 p.b.r) ∧ w'.cell? ⟨w.heap.size, 8, none⟩ = some (.int .u8 p.b.g) ∧ w'.cell? ⟨w.heap.size, 9, none⟩ = some (.int .u8 p.b.b) ∧ w'.cell? ⟨w.heap.size, 10, none⟩ = some (.int .u8 p.fl))
            (first
              | exact (hp8.out.kept ((Kept.refl [] W8).drew) (by simp)).at
              | exact (hp8.out.kept ((((Kept.refl [] W8).drew).alloc _)) (by simp)).at
              | exact (hp8.out.kept ((((Kept.refl [] W8).alloc _)).drew) (by simp)).at
              | exact (hp8.out.kept (((((Kept.refl [] W8).alloc _)).alloc _).drew) (by simp)).at)
            (fail)
          all_goals go_wp2_with fail
          all_goals go_meet
          · case rel => exact ⟨_, _, rfl, rfl, by omega, by omega, by omega, (PenIn.new W8 ⟨p.f, p.b, 0⟩).kept (((Kept.refl [] _).alloc _).drew) (by simp), by rw [← h0.out]; exact (PenIn.new _ ⟨p.f, p.b, 0⟩).kept ((Kept.refl [] _).drew) (by simp), (((Kept.refl [] W8).alloc _).alloc _).drew⟩
          · case rel => exact ⟨_, _, rfl, rfl, by omega, by omega, by omega, by rw [← h0.out]; exact (PenIn.new _ ⟨p.f, p.b, 0⟩).kept ((Kept.refl [] _).drew) (by simp), (PenIn.new W8 ⟨p.f, p.b, 0⟩).kept (((Kept.refl [] _).alloc _).drew) (by simp), (((Kept.refl [] W8).alloc _).alloc _).drew⟩
        case rest =>
          obtain ⟨X, Y, rfl, rfl, hXY, hX8, hY8, hX, hY, hkc⟩ := hcut
          obtain ⟨W9, hW9⟩ : ∃ z : World, z = wc := ⟨_, rfl⟩
          subst hW9
          have hTc := hide (hTw.out)
          have I0 : Hid (HInv w W9 l p w.heap.size G T X Y 0) := hide ⟨hK8.out.trans hkc (by simp), hp8.out.kept hkc (by simp), fun j hj => hkc.cell (hG8.out j hj) (by simp), (by
              intro j hj
              have hh := hkc.heap hT8.out (by simp)
              refine ⟨?_, frozen_of_row W9 T j _ _ hh⟩
              rw [cell_of_row W9 T j _ _ _ hh]
              have hc : j = 0 ∨ j = 1 ∨ j = 2 ∨ j = 3 ∨ j = 4 ∨ j = 5 ∨ j = 6 ∨ j = 7 := by omega
              rcases hc with rfl | rfl | rfl | rfl | rfl | rfl | rfl | rfl <;> rfl), hX, hY⟩
          have hD : Hid (Apart w.heap.size G T X Y) := hide ⟨hPG, hTc.out.2.2.1, by have := hTc.out.2.1; omega, by have := hTc.out.2.1; omega, hXY⟩
          clear z0 z1 z2 z3 z4 z5 z6 z7 z8 z9 z10 hTw hTc hX hY hkc hT8 hG8 hp8 hXY hX8 hY8 hPG hlt8 hK8
          go_wp2_with fail
          go_loopg [119] n (fun kx s119 wr => ∃ k : Nat, s119 = .int .i64 k ∧ k ≤ n ∧ n - k ≤ kx ∧ Hid (HInv w wr l p w.heap.size G T X Y k))
          case atStart => exact ⟨0, rfl, Nat.zero_le _, by omega, I0⟩
          case round =>
            obtain ⟨k, rfl, hk, hg, I⟩ := hrel
            by_cases hlt : k < n
            · have hkn : (k : Int) < (n : Int) := by omega
              clear I0
              obtain ⟨bb, oo, rfl, hcl⟩ : ∃ bb oo, al = some ⟨bb, oo, none⟩ ∧ ∀ j u, (ints .u8 l)[j]? = some u → w.cell? ⟨bb, oo + j, none⟩ = some u := by
                rcases hL.out.2 with h0 | ⟨bb, oo, h1, h2⟩
                · have h3 := hL.out.1
                  rw [h0] at h3
                  simp at h3
                  omega
                · exact ⟨bb, oo, h1, h2⟩
              have hll : l.length = n := by have := hL.out.1; rw [ints_len] at this; omega
              have hcu : wr.cell? ⟨bb, oo + k, none⟩ = some (.int .u8 (l[k]'(by omega))) := I.out.kept.cell (Rd.at hcl k (by omega)) (by simp)
              have hco : wr.cell? ⟨bb, oo + (n - 1 - k), none⟩ = some (.int .u8 (l[n - 1 - k]'(by omega))) := I.out.kept.cell (Rd.at hcl (n - 1 - k) (by omega)) (by simp)
              have hbu := hLB.out _ (List.getElem_mem (show k < l.length by omega))
              have hbo := hLB.out _ (List.getElem_mem (show n - 1 - k < l.length by omega))
              generalize hu : l[k]'(by omega) = u at *
              generalize ho : l[n - 1 - k]'(by omega) = o at *
              have hu1 := hbu.1
              have hu2 := hbu.2
              have ho1 := hbo.1
              have ho2 := hbo.2
              have hmu : u % 8 = (plc u : Int) := by unfold plc; omega
              have hmo : o % 8 = (plc o : Int) := by unfold plc; omega
              have htu : Int.tmod u 8 = (plc u : Int) := by rw [Int.tmod_eq_emod_of_nonneg hu1]; exact hmu
              have hto : Int.tmod o 8 = (plc o : Int) := by rw [Int.tmod_eq_emod_of_nonneg ho1]; exact hmo
              have hpu := plc_lt u
              have hm2 : (plc u : Int) < 8 := by omega
              have hm4 : (plc o : Int) < 8 := by omega
              have hpo := plc_lt o
              have hTu := (I.out.there (plc u) hpu).1
              have fTu := (I.out.there (plc u) hpu).2
              have hbw : bb < w.heap.size := World.block_lt_of_cell? w _ (hcl k (.int .u8 u) (by simp [ints, List.getElem?_eq_getElem (show k < l.length by omega), hu]))
              have hsu : l.take (k + 1) = l.take k ++ [u] := by rw [take_snoc (by omega), hu]
              have hso : l.reverse.take (k + 1) = l.reverse.take k ++ [o] := by
                rw [take_snoc (by rw [List.length_reverse]; omega), List.getElem_reverse]
                have hix : l.length - 1 - k = n - 1 - k := by omega
                simp only [hix]
                rw [ho]
              have hwx := hide (fun w1 => With_is ⟨p.f, p.b, flN (l.take k)⟩ (flagI (plc u)) (flag_byte hpu) ⟨p.f, p.b, flN (l.take (k + 1))⟩ 0 (by
                unfold withE; rw [if_pos ⟨hCP.out, flag_one hpu⟩]; unfold withI; rw [hsu]; simp only [or_flag]) w1)
              have hwy := hide (fun w1 => With_is ⟨p.f, p.b, flN (l.reverse.take k)⟩ (flagI (plc o)) (flag_byte hpo) ⟨p.f, p.b, flN (l.reverse.take (k + 1))⟩ 0 (by
                unfold withE; rw [if_pos ⟨hCP.out, flag_one hpo⟩]; unfold withI; rw [hso]; simp only [or_flag]) w1)
              have hthk : Hid (∀ j, th (l.take (k + 1)) j = (th (l.take k) j || plc u == j)) := hide (fun j => by rw [hsu, th_snoc])
              have hDD := hD.out
              have hb1 := hDD.bg
              have hb2 := hDD.gt
              have hb3 := hDD.tx
              have hb4 := hDD.ty
              have hb5 := hide hDD.xy
              clear hsu hso hu ho hcl hbu hbo hDD
              go_upto_region 19 with fail
              generalize hW10 : wr.setCell ⟨T, plc u, none⟩ (.bool true) = W10
              have hk10 : Kept [T] wr W10 := by rw [← hW10]; exact (Kept.refl [T] wr).setCell (.inl (by simp)) _
              have hKw10 : Hid (Kept [] w W10) := hide (by rw [← hW10]; exact I.out.kept.setCell (.inr (show w.heap.size ≤ T by omega)) _)
              have hcell10 : Hid (∀ j, j < 8 → W10.cell? ⟨T, j, none⟩ = some (.bool (th (l.take (k + 1)) j)) ∧ W10.frozen? ⟨T, j, none⟩ = false) := hide (by
                intro j hj
                rw [← hW10, World.frozen?_setCell]
                refine ⟨?_, (I.out.there j hj).2⟩
                rw [hthk.out j]
                by_cases hju : plc u = j
                · subst hju
                  rw [World.cell?_setCell_same _ _ _ hTu]
                  simp
                · rw [World.cell?_setCell_other _ _ _ _ (by intro e; injection e with e1 e2; exact hju e2), (I.out.there j hj).1]
                  simp [hju])
              clear hW10
              have hx10 := hide (I.out.x.kept hk10 (by simp; omega))
              have hy10 := hide (I.out.y.kept hk10 (by simp; omega))
              have hp10 := hide (I.out.pen.kept hk10 (by simp; omega))
              have hG10 := hide (fun j hj => hk10.cell (I.out.all j hj) (by simp; omega) : ∀ j, j < 8 → W10.cell? ⟨G, j, none⟩ = some (.int .u8 (flagI j)))
              have hco10 := hk10.cell hco (by simp; omega)
              clear I hTu fTu hcu hco hk10 hthk
              generalize (flN (l.take k) : Int) = FX at *
              generalize hFX2 : (flN (l.take (k + 1)) : Int) = FX2 at *
              generalize (flN (l.reverse.take k) : Int) = FY at *
              generalize hFY2 : (flN (l.reverse.take (k + 1)) : Int) = FY2 at *
              go_upto_region 21 with fail
              clear hco10
              go_cut [10, 119] from 119 to 161 (fun s10 s119 wc => s10 = .int .i64 0 ∧ s119 = .int .i64 k ∧ PenIn wc X ⟨p.f, p.b, FX2⟩ ∧ Kept [X] W10 wc)
              case first =>
                have hgu := hG10.out (plc u) hpu
                obtain ⟨z0, z1, z2, z3, z4, z5, z6, z7, z8, z9, z10⟩ := hx10.out.at
                go_region_with (go_at_call 26; refine (hwx.out W10.drew).mono ?_; rintro r w12 ⟨rfl, hj12⟩; have hk12 : Kept [] W10 w12 := ((Kept.refl [] W10).drew).trans hj12 (by simp); have hx12 := hx10.out.kept hk12 (by simp); obtain ⟨y0, y1, y2, y3, y4, y5, y6, y7, y8, y9, y10⟩ := hx12.at; obtain ⟨f0, f1, f2, f3, f4, f5, f6, f7, f8, f9, f10⟩ := hx12.froz)
                all_goals
                  go_wp2_with fail
                  go_meet
                  case rel => exact ⟨rfl, rfl, hx12.set ⟨p.f, p.b, FX2⟩, (hk12.mono (by simp)).setPen (.inl (by simp)) ⟨p.f, p.b, FX2⟩⟩
              case rest =>
                obtain ⟨rfl, rfl, hx13, hkc⟩ := hcut
                obtain ⟨W13, hW13⟩ : ∃ z : World, z = wc := ⟨_, rfl⟩
                subst hW13
                have hX13 := hide hx13
                have hy13 := hide (hy10.out.kept hkc (by simp; exact fun h => hb5.out h.symm))
                have hG13 := hide (fun j hj => hkc.cell (hG10.out j hj) (by simp; omega) : ∀ j, j < 8 → W13.cell? ⟨G, j, none⟩ = some (.int .u8 (flagI j)))
                have hp13 := hide (hp10.out.kept hkc (by simp; omega))
                have hc13 := hide (fun j hj => ⟨hkc.cell (hcell10.out j hj).1 (by simp; omega), hkc.frozen (hcell10.out j hj).1 (hcell10.out j hj).2 (by simp; omega)⟩ : ∀ j, j < 8 → W13.cell? ⟨T, j, none⟩ = some (.bool (th (l.take (k + 1)) j)) ∧ W13.frozen? ⟨T, j, none⟩ = false)
                have hK13 := hide (hKw10.out.trans hkc (by simp; omega))
                clear hx10 hy10 hG10 hp10 hcell10 hKw10 hx13 hkc
                go_upto_region 22 with fail
                go_cut [22, 119] from 119 to 161 (fun s22 s119 wc => s22 = .int .i64 0 ∧ s119 = .int .i64 k ∧ PenIn wc Y ⟨p.f, p.b, FY2⟩ ∧ Kept [Y] W13 wc)
                case first =>
                  have hgo := hG13.out (plc o) hpo
                  obtain ⟨z0, z1, z2, z3, z4, z5, z6, z7, z8, z9, z10⟩ := hy13.out.at
                  go_region_with (go_at_call 26; refine (hwy.out W13.drew).mono ?_; rintro r w12 ⟨rfl, hj12⟩; have hk12 : Kept [] W13 w12 := ((Kept.refl [] W13).drew).trans hj12 (by simp); have hx12 := hy13.out.kept hk12 (by simp); obtain ⟨y0, y1, y2, y3, y4, y5, y6, y7, y8, y9, y10⟩ := hx12.at; obtain ⟨f0, f1, f2, f3, f4, f5, f6, f7, f8, f9, f10⟩ := hx12.froz)
                  all_goals
                    go_wp2_with fail
                    go_meet
                    case rel => exact ⟨rfl, rfl, hx12.set ⟨p.f, p.b, FY2⟩, (hk12.mono (by simp)).setPen (.inl (by simp)) ⟨p.f, p.b, FY2⟩⟩
                case rest =>
                  obtain ⟨rfl, rfl, hy14, hkc⟩ := hcut
                  obtain ⟨W14, hW14⟩ : ∃ z : World, z = wc := ⟨_, rfl⟩
                  subst hW14
                  have I2 : Hid (HInv w W14 l p w.heap.size G T X Y (k + 1)) := hide ⟨hK13.out.trans hkc (by simp; omega), hp13.out.kept hkc (by simp; omega), fun j hj => hkc.cell (hG13.out j hj) (by simp; omega),
                    fun j hj => ⟨hkc.cell (hc13.out j hj).1 (by simp; omega), hkc.frozen (hc13.out j hj).1 (hc13.out j hj).2 (by simp; omega)⟩, by rw [hFX2]; exact hX13.out.kept hkc (by simp; exact hb5.out), by rw [hFY2]; exact hy14⟩
                  clear hX13 hy13 hG13 hp13 hc13 hK13 hy14 hkc
                  go_wp2_with fail
                  go_roundg (n - (k + 1))
                  case measure => omega
                  case rel => exact ⟨k + 1, by push_cast; rfl, by omega, Nat.le_refl _, I2⟩
            · obtain rfl : k = n := by omega
              have hll : l.length = k := by have := hL.out.1; rw [ints_len] at this; omega
              have ht1 : l.take k = l := List.take_of_length_le (by omega)
              have ht2 : l.reverse.take k = l.reverse := List.take_of_length_le (by rw [List.length_reverse]; omega)
              have hxE := hide (show PenIn wr X ⟨p.f, p.b, flN l⟩ by have := I.out.x; rw [ht1] at this; exact this)
              have hyE := hide (show PenIn wr Y ⟨p.f, p.b, flN l⟩ by have := I.out.y; rw [ht2, flN_reverse] at this; exact this)
              have hpE := hide I.out.pen
              have hrE := hide (th_range (fun j hj => (show wr.cell? ⟨T, j, none⟩ = some (.bool (th l j)) by have := (I.out.there j hj).1; rw [ht1] at this; exact this)))
              have hGE := hide I.out.all
              have hKE := hide I.out.kept
              have hHas := hide (fun i hi w1 => has_is ⟨p.f, p.b, flN l⟩ (flagI i) (flag_byte hi) (th l i) (has_flag l i hi) w1 : ∀ i, i < 8 → ∀ w1, _)
              have hIdx := hide (th_at (th l))
              clear I I0 ht1 ht2 hll hL hLB hCP hPB
              generalize (flN l : Int) = FX at *
              generalize th l = TH at *
              go_upto_region 26 with fail
              obtain ⟨z0, z1, z2, z3, z4, z5, z6, z7, z8, z9, z10⟩ := hxE.out.at
              obtain ⟨y0, y1, y2, y3, y4, y5, y6, y7, y8, y9, y10⟩ := hyE.out.at
              obtain ⟨s0, s1, s2, s3, s4, s5, s6, s7, s8, s9, s10⟩ := hpE.out.at
              go_upto_region 28 with fail
              clear z0 z1 z2 z3 z4 z5 z6 z7 z8 z9 z10 y0 y1 y2 y3 y4 y5 y6 y7 y8 y9 y10 s0 s1 s2 s3 s4 s5 s6 s7 s8 s9 s10 hyE hpE
              refine wp_region_list ?_
              refine wpList_load_mid rfl 55 (.tmp 16) rfl T 0 rfl (thV TH) _ hrE.out Tryd.underlying55 rfl (by kernel_rfl) ?_
              clear hrE
              generalize (thV TH).toArray = cs at *
              go_wp2_with fail
              obtain ⟨WE, hWE⟩ : ∃ z : World, z = wr := ⟨_, rfl⟩
              subst hWE
              go_loopg [180] 8 (fun kx s180 wr => ∃ i : Nat, s180 = .int .i64 i ∧ i ≤ 8 ∧ 8 - i ≤ kx ∧ Kept [] WE wr)
              case atStart => exact ⟨0, rfl, Nat.zero_le _, by omega, Kept.refl _ _⟩
              case round =>
                obtain ⟨i, rfl, hi, hgi, hki⟩ := hrel
                by_cases hi8 : i < 8
                · have hin : (i : Int) < 8 := by omega
                  have hix := hIdx.out i hi8
                  have hH := hide (hHas.out i hi8)
                  have hxi := hide (hxE.out.kept hki (by simp))
                  have hgi8 := hki.cell (hGE.out i hi8) (by simp)
                  generalize TH i = bi at *
                  generalize flagI i = fl at *
                  go_upto_region 31 with fail
                  go_cut [191, 180] from 180 to 192 (fun s191 s180 wc => s191 = .bool false ∧ s180 = .int .i64 i ∧ Kept [] wr wc)
                  case first =>
                    obtain ⟨z0, z1, z2, z3, z4, z5, z6, z7, z8, z9, z10⟩ := hxi.out.at
                    go_region_with (go_at_call 27; refine (hH.out wr.drew).mono ?_; rintro r w12 ⟨rfl, hj12⟩; have hk12 : Kept [] wr w12 := ((Kept.refl [] wr).drew).trans hj12 (by simp))
                    all_goals
                      go_wp2_with fail
                      go_meet
                      case rel => exact ⟨by simp, rfl, hk12⟩
                  case rest =>
                    obtain ⟨rfl, rfl, hkc⟩ := hcut
                    obtain ⟨W15, hW15⟩ : ∃ z : World, z = wc := ⟨_, rfl⟩
                    subst hW15
                    have hkk := hki.trans hkc (by simp)
                    clear hxi hgi8 hki hkc
                    go_wp2_with fail
                    go_roundg (8 - (i + 1))
                    case measure => omega
                    case rel => exact ⟨i + 1, by push_cast; rfl, by omega, Nat.le_refl _, hkk⟩
                · obtain rfl : i = 8 := by omega
                  have hKF := hKE.out.trans hki (by simp)
                  clear hki
                  go_wp2_with fail
                  refine (hkn.out _ hKF).mono ?_
                  rintro r w16 ⟨rfl, hk16⟩
                  go_wp2_with fail
                  go_ret
                  exact ⟨rfl, hKF.trans hk16 (by simp)⟩
      · obtain ⟨rfl, rfl⟩ : (0 : Int) = a ∧ (2 : Int) = e := by have := hAE.out; unfold packE at this; rw [if_neg cp] at this; cases this; exact ⟨rfl, rfl⟩
        clear cp hAE
        go_wp2_with fail
        refine (hkn.out _ hK7.out).mono ?_
        rintro r w8 ⟨rfl, hk8⟩
        go_wp2_with fail
        go_ret
        exact ⟨rfl, hK7.out.trans hk8 (by simp)⟩
end Go.Proofs.YtjhekofnecojkaaDoor
