/- The decoder of layer 1: what comes of bytes. -/
import Derived.Test.YtjcoeapopkkcbaaUtfDec
namespace Go.Proofs.Ytjcoeapopkkcbaa
open Go.RowKit

theorem elRune : ElemT Try.prog 25 21 (.int .i32 0) 1 4 := ⟨Try.underlying25, by kernel_rfl, rfl, by omega, by omega⟩
theorem elByte : ElemT Try.prog 22 5 (.int .u8 0) 1 1 := ⟨Try.underlying22, by kernel_rfl, rfl, by omega, by omega⟩

/-- A function of a decoder at ⟨b, o⟩ that appends runes to a list, and leaves p pending. -/
def DecRet (base b o : Nat) (w : World) (a0 : Option Addr) (l p : List Int) (e : Ending) (w' : World) : Prop :=
  SliceRet 21 .i32 base (b :: blk a0) w a0 l e w' ∧ Dec w' b o p ∧ Within b o 4 w w'

set_option maxHeartbeats 400000 in
theorem appendEnd_none (b o base : Nat) (a : Option Addr) (n c : Nat) (l : List Int) (w : World) (hd : Dec w b o []) (hown : Own w base 21 a n c 1 (ints .i32 l)) :
    Calls Try.prog 25 #[.pointer (some ⟨b, o, none⟩), .slice a n c] w (DecRet base b o w a l []) := by
  have hd' := hide hd
  obtain ⟨c0, c1, c2, c3, f0, f1, f2, f3⟩ := hd
  simp at c0 c1 c2 c3
  go_enter Try.func25, Try.ntmps25
  go_wp2
  go_ret
  exact ⟨⟨a, n, c, rfl, hown, Kept.refl _ _, fun g hg => .inl hg⟩, hd'.out, Within.refl _ _ _ _⟩

set_option maxHeartbeats 400000 in
theorem appendEnd_some (b o base : Nat) (a : Option Addr) (n c : Nat) (l p : List Int) (w : World) (hd : Dec w b o p) (hown : Own w base 21 a n c 1 (ints .i32 l)) (hp : 0 < p.length) (hb : b ∉ blk a) (hbase : base ≤ w.heap.size) (hn : n ≤ 1000000) :
    Calls Try.prog 25 #[.pointer (some ⟨b, o, none⟩), .slice a n c] w (DecRet base b o w a (l ++ [65533]) []) := by
  have hr := hide (reset_any b o p w hd)
  obtain ⟨c0, c1, c2, c3, f0, f1, f2, f3⟩ := hd
  have hz : ((p.length : Int) == 0) = false := beq_eq_false_iff_ne.2 (by omega)
  go_enter Try.func25, Try.ntmps25
  go_wp2_with fail
  refine hr.out.mono ?_
  rintro e w1 ⟨rfl, hk1, hd1, hw1⟩
  have ho1 := hown.kept hk1 (by intro g hg; simp; intro h; subst h; exact hb hg)
  have hsz := hk1.size
  go_wp2_with (at_builtin; refine wpList_app ?_ rfl elRune rfl rfl (ho1.alloc _) rfl (Rd.block (heap_alloc_new w1 _) rfl) ?o1 ?o2 ?o3; intro a' c' w2 ho2 hk2 hat2)
  go_ret
  have hk : Kept (b :: blk a) w w2 := (((hk1.mono (T := b :: blk a) (by simp)).alloc _)).trans hk2 (by intro x hx; exact .inl (by simp [hx]))
  have hw2 : Within b o 4 w w2 := hw1.trans (within_of (((Kept.refl (blk a) w1).alloc _).trans hk2 (fun x hx => .inl hx)) hd1.lt hb)
  exact ⟨⟨a', _, c', rfl, by rw [← ints_snoc]; exact ho2, hk, fun g hg => (hat2 g hg).imp id (fun h => by simp at h; omega)⟩, hd1.kept (((Kept.refl (blk a) w1).alloc _).trans hk2 (fun x hx => .inl hx)) hb, hw2⟩
  case o1 => simp [Value.oneCell']
  case o2 => omega
  case o3 => simp; omega

theorem appendEnd_any (b o base : Nat) (a : Option Addr) (n c : Nat) (l p : List Int) (w : World) (hd : Dec w b o p) (hown : Own w base 21 a n c 1 (ints .i32 l)) (hb : b ∉ blk a) (hbase : base ≤ w.heap.size) (hn : n ≤ 1000000) :
    Calls Try.prog 25 #[.pointer (some ⟨b, o, none⟩), .slice a n c] w (DecRet base b o w a (l ++ endR p) []) := by
  match p with
  | [] => simpa [endR] using appendEnd_none b o base a n c l w hd hown
  | x :: r => simpa [endR] using appendEnd_some b o base a n c l (x :: r) w hd hown (by simp) hb hbase hn

set_option maxHeartbeats 400000 in
theorem appendFurther_more (b o base : Nat) (a : Option Addr) (n c : Nat) (l : List Int) (x : Int) (r : List Int) (v : Int) (w : World) (hd : Dec w b o (x :: r)) (hown : Own w base 21 a n c 1 (ints .i32 l)) (hb : b ∉ blk a)
    (hx : 0 ≤ x ∧ x ≤ 255) (hm : (r.length : Int) + 2 < sizeI x) (hs : sizeI x ≤ 4) :
    Calls Try.prog 33 #[.pointer (some ⟨b, o, none⟩), .slice a n c, .int .u8 v] w (DecRet base b o w a l (x :: r ++ [v])) := by
  have hh := hide (fun w' (h : Dec w' b o (x :: r)) => hold_any b o (x :: r) v w' h (by simp; omega))
  have hd' := hide hd
  obtain ⟨c0, c1, c2, c3, f0, f1, f2, f3⟩ := hd
  simp at c0 c1 c2 c3
  have hx0 := hx.1
  have hx1 := hx.2
  have hrl : (r.length : Int) ≤ 1 := by omega
  clear hs hx
  generalize hsx : sizeI x = s at *
  have Hs := hide (fun w' => size_any x w' hx0 hx1)
  rw [hsx] at Hs
  clear hsx
  go_enter Try.func33, Try.ntmps33
  go_wp2_with fail
  go_quiet ((go_at_call 34; exact quiet_left (Hs.out _)))
  go_wp2_with fail
  refine (hh.out _ (hd'.out.kept (Kept.drewN (Kept.refl [] w) nq) (by simp))).mono ?_
  rintro e w1 ⟨rfl, hk1, hd1, hw1⟩
  go_wp2_with fail
  go_ret
  have hk : Kept (b :: blk a) w w1 := ((Kept.refl (b :: blk a) w).drewN nq).trans hk1 (by simp)
  exact ⟨⟨a, n, c, rfl, hown.kept (S := [b]) ((Kept.drewN (Kept.refl [b] w) nq).trans hk1 (by simp)) (by intro g hg; simp; intro h; subst h; exact hb hg), hk, fun g hg => .inl hg⟩, hd1, hw1⟩

set_option maxHeartbeats 400000 in
theorem appendFurther_done2 (b o base : Nat) (a : Option Addr) (n c : Nat) (l : List Int) (x v : Int) (w : World) (hd : Dec w b o [x]) (hown : Own w base 21 a n c 1 (ints .i32 l)) (hb : b ∉ blk a)
    (hbase : base ≤ w.heap.size) (hn : n ≤ 1000000) (hx : 194 ≤ x ∧ x < 224) (hv : 0 ≤ v ∧ v ≤ 255) :
    Calls Try.prog 33 #[.pointer (some ⟨b, o, none⟩), .slice a n c, .int .u8 v] w (DecRet base b o w a (l ++ [fbI x * 64 + v % 64]) []) := by
  have hh := hide (fun w' (h : Dec w' b o [x]) => reset_any b o [x] w' h)
  have hd' := hide hd
  obtain ⟨c0, c1, c2, c3, f0, f1, f2, f3⟩ := hd
  simp at c0 c1 c2 c3
  have hx0 := hx.1
  have hx1 := hx.2
  have hv0 := hv.1
  have hv1 := hv.2
  have hsx : sizeI x = 2 := by unfold sizeI; rw [if_neg (by omega), if_neg (by omega), if_pos hx1]
  have Hs := hide (fun w' => size_any x w' (by omega) (by omega))
  rw [hsx] at Hs
  clear hsx
  have Hf := hide (fun w' => firstBits_any x w' (by omega) (by omega))
  have hfb : 0 ≤ fbI x ∧ fbI x < 32 := by unfold fbI; rw [if_pos hx1]; omega
  have hf0 := hfb.1
  have hf1 := hfb.2
  clear hfb hx hv
  generalize fbI x = y at *
  have Ha := hide (fun w' => addBits_any y v w' (by omega) (by omega) hv0 hv1)
  have m1 : (0 : Int) < 3 := by omega
  go_enter Try.func33, Try.ntmps33
  go_wp2_with fail
  go_quiet ((go_at_call 34; exact quiet_left (Hs.out _)))
  go_wp2_with fail
  refine (Hf.out _).mono ?_
  rintro e w1 ⟨rfl, rfl⟩
  go_wp2_with fail
  go_quiet (fail)
  go_wp2_with fail
  refine wp_loop_rounds 1 ?_
  rw [rounds_succ]
  go_wp2_with fail
  refine (hh.out _ (hd'.out.kept ((Kept.refl [] w).drewN _) (by simp))).mono ?_
  rintro e w1 ⟨rfl, hk1, hd1, hw1⟩
  have hk0 : Kept (b :: blk a) w w1 := ((Kept.refl (b :: blk a) w).drewN _).trans hk1 (by simp)
  have ho1 := hown.kept (S := [b]) (((Kept.refl [b] w).drewN _).trans hk1 (by simp)) (by intro g hg; simp; intro h; subst h; exact hb hg)
  have hw0 : Within b o 4 w w1 := hw1
  have hsz := hk0.size
  clear hk1 hw1
  go_wp2_with (first | (go_at_call 43; refine (Ha.out _).mono ?_; rintro e w' ⟨rfl, rfl⟩) | (at_builtin; refine wpList_app ?_ rfl elRune rfl rfl (ho1.alloc _) rfl (Rd.block (heap_alloc_new w1 _) rfl) ?o1 ?o2 ?o3; intro a' c' w2 ho2 hk2 hat2))
  go_ret
  have hk3 : Kept (blk a) w1 w2 := ((Kept.refl (blk a) w1).alloc _).trans hk2 (fun x hx => .inl hx)
  exact ⟨⟨a', _, c', rfl, by rw [← ints_snoc]; exact ho2, hk0.trans hk3 (by intro x hx; exact .inl (by simp [hx])), fun g hg => (hat2 g hg).imp id (fun h => by simp at h; omega)⟩, hd1.kept hk3 hb, hw0.trans (within_of hk3 hd1.lt hb)⟩
  case o1 => simp [Value.oneCell']
  case o2 => omega
  case o3 => simp; omega

set_option maxHeartbeats 400000 in
theorem appendFurther_done3 (b o base : Nat) (a : Option Addr) (n c : Nat) (l : List Int) (x y v : Int) (w : World) (hd : Dec w b o [x, y]) (hown : Own w base 21 a n c 1 (ints .i32 l)) (hb : b ∉ blk a)
    (hbase : base ≤ w.heap.size) (hn : n ≤ 1000000) (hx : 224 ≤ x ∧ x < 240) (hy : 0 ≤ y ∧ y ≤ 255) (hv : 0 ≤ v ∧ v ≤ 255) :
    Calls Try.prog 33 #[.pointer (some ⟨b, o, none⟩), .slice a n c, .int .u8 v] w (DecRet base b o w a (l ++ [(fbI x * 64 + y % 64) * 64 + v % 64]) []) := by
  have hh := hide (fun w' (h : Dec w' b o [x, y]) => reset_any b o [x, y] w' h)
  have hd' := hide hd
  obtain ⟨c0, c1, c2, c3, f0, f1, f2, f3⟩ := hd
  simp at c0 c1 c2 c3
  have hx0 := hx.1
  have hx1 := hx.2
  have hv0 := hv.1
  have hv1 := hv.2
  have hsx : sizeI x = 3 := by unfold sizeI; rw [if_neg (by omega), if_neg (by omega), if_neg (by omega), if_pos hx1]
  have Hs := hide (fun w' => size_any x w' (by omega) (by omega))
  rw [hsx] at Hs
  clear hsx
  have Hf := hide (fun w' => firstBits_any x w' (by omega) (by omega))
  have hfb : 0 ≤ fbI x ∧ fbI x < 16 := by unfold fbI; rw [if_neg (by omega), if_pos hx1]; omega
  have hf0 := hfb.1
  have hf1 := hfb.2
  clear hfb hx hv
  generalize fbI x = q at *
  have hy0 := hy.1
  have hy1 := hy.2
  have Ha := hide (fun w' => addBits_any q y w' (by omega) (by omega) hy0 hy1)
  have Hb := hide (fun w' => addBits_any (q * 64 + y % 64) v w' (by omega) (by omega) hv0 hv1)
  go_enter Try.func33, Try.ntmps33
  go_wp2_with fail
  go_quiet ((go_at_call 34; exact quiet_left (Hs.out _)))
  go_wp2_with fail
  refine (Hf.out _).mono ?_
  rintro e w1 ⟨rfl, rfl⟩
  go_wp2_with fail
  go_quiet (fail)
  go_wp2_with fail
  refine wp_loop_rounds 2 ?_
  rw [rounds_succ]
  go_wp2_with fail
  refine (Ha.out _).mono ?_
  rintro e w1 ⟨rfl, rfl⟩
  go_wp2_with fail
  rw [rounds_succ]
  go_wp2_with fail
  refine (hh.out _ (hd'.out.kept ((Kept.refl [] w).drewN _) (by simp))).mono ?_
  rintro e w1 ⟨rfl, hk1, hd1, hw1⟩
  have hk0 : Kept (b :: blk a) w w1 := ((Kept.refl (b :: blk a) w).drewN _).trans hk1 (by simp)
  have ho1 := hown.kept (S := [b]) (((Kept.refl [b] w).drewN _).trans hk1 (by simp)) (by intro g hg; simp; intro h; subst h; exact hb hg)
  have hw0 : Within b o 4 w w1 := hw1
  have hsz := hk0.size
  clear hk1 hw1
  go_wp2_with (first | (go_at_call 43; refine (Hb.out _).mono ?_; rintro e w' ⟨rfl, rfl⟩) | (at_builtin; refine wpList_app ?_ rfl elRune rfl rfl (ho1.alloc _) rfl (Rd.block (heap_alloc_new w1 _) rfl) ?o1 ?o2 ?o3; intro a' c' w2 ho2 hk2 hat2))
  go_ret
  have hk3 : Kept (blk a) w1 w2 := ((Kept.refl (blk a) w1).alloc _).trans hk2 (fun x hx => .inl hx)
  exact ⟨⟨a', _, c', rfl, by rw [← ints_snoc]; exact ho2, hk0.trans hk3 (by intro x hx; exact .inl (by simp [hx])), fun g hg => (hat2 g hg).imp id (fun h => by simp at h; omega)⟩, hd1.kept hk3 hb, hw0.trans (within_of hk3 hd1.lt hb)⟩
  case o1 => simp [Value.oneCell']
  case o2 => omega
  case o3 => simp; omega

set_option maxHeartbeats 400000 in
theorem appendFurther_done4 (b o base : Nat) (a : Option Addr) (n c : Nat) (l : List Int) (x y z v : Int) (w : World) (hd : Dec w b o [x, y, z]) (hown : Own w base 21 a n c 1 (ints .i32 l)) (hb : b ∉ blk a)
    (hbase : base ≤ w.heap.size) (hn : n ≤ 1000000) (hx : 240 ≤ x ∧ x < 245) (hy : 0 ≤ y ∧ y ≤ 255) (hz : 0 ≤ z ∧ z ≤ 255) (hv : 0 ≤ v ∧ v ≤ 255) :
    Calls Try.prog 33 #[.pointer (some ⟨b, o, none⟩), .slice a n c, .int .u8 v] w (DecRet base b o w a (l ++ [((fbI x * 64 + y % 64) * 64 + z % 64) * 64 + v % 64]) []) := by
  have hh := hide (fun w' (h : Dec w' b o [x, y, z]) => reset_any b o [x, y, z] w' h)
  have hd' := hide hd
  obtain ⟨c0, c1, c2, c3, f0, f1, f2, f3⟩ := hd
  simp at c0 c1 c2 c3
  have hx0 := hx.1
  have hx1 := hx.2
  have hv0 := hv.1
  have hv1 := hv.2
  have hsx : sizeI x = 4 := by unfold sizeI; rw [if_neg (by omega), if_neg (by omega), if_neg (by omega), if_neg (by omega), if_pos hx1]
  have Hs := hide (fun w' => size_any x w' (by omega) (by omega))
  rw [hsx] at Hs
  clear hsx
  have Hf := hide (fun w' => firstBits_any x w' (by omega) (by omega))
  have hfb : 0 ≤ fbI x ∧ fbI x < 8 := by unfold fbI; rw [if_neg (by omega), if_neg (by omega)]; omega
  have hf0 := hfb.1
  have hf1 := hfb.2
  clear hfb hx hv
  generalize fbI x = q at *
  have hy0 := hy.1
  have hy1 := hy.2
  have hz0 := hz.1
  have hz1 := hz.2
  have Ha := hide (fun w' => addBits_any q y w' (by omega) (by omega) hy0 hy1)
  have Hc := hide (fun w' => addBits_any (q * 64 + y % 64) z w' (by omega) (by omega) hz0 hz1)
  have Hb := hide (fun w' => addBits_any ((q * 64 + y % 64) * 64 + z % 64) v w' (by omega) (by omega) hv0 hv1)
  go_enter Try.func33, Try.ntmps33
  go_wp2_with fail
  go_quiet ((go_at_call 34; exact quiet_left (Hs.out _)))
  go_wp2_with fail
  refine (Hf.out _).mono ?_
  rintro e w1 ⟨rfl, rfl⟩
  go_wp2_with fail
  go_quiet (fail)
  go_wp2_with fail
  refine wp_loop_rounds 3 ?_
  rw [rounds_succ]
  go_wp2_with fail
  refine (Ha.out _).mono ?_
  rintro e w1 ⟨rfl, rfl⟩
  go_wp2_with fail
  rw [rounds_succ]
  go_wp2_with fail
  refine (Hc.out _).mono ?_
  rintro e w1 ⟨rfl, rfl⟩
  go_wp2_with fail
  rw [rounds_succ]
  go_wp2_with fail
  refine (hh.out _ (hd'.out.kept ((Kept.refl [] w).drewN _) (by simp))).mono ?_
  rintro e w1 ⟨rfl, hk1, hd1, hw1⟩
  have hk0 : Kept (b :: blk a) w w1 := ((Kept.refl (b :: blk a) w).drewN _).trans hk1 (by simp)
  have ho1 := hown.kept (S := [b]) (((Kept.refl [b] w).drewN _).trans hk1 (by simp)) (by intro g hg; simp; intro h; subst h; exact hb hg)
  have hw0 : Within b o 4 w w1 := hw1
  have hsz := hk0.size
  clear hk1 hw1
  go_wp2_with (first | (go_at_call 43; refine (Hb.out _).mono ?_; rintro e w' ⟨rfl, rfl⟩) | (at_builtin; refine wpList_app ?_ rfl elRune rfl rfl (ho1.alloc _) rfl (Rd.block (heap_alloc_new w1 _) rfl) ?o1 ?o2 ?o3; intro a' c' w2 ho2 hk2 hat2))
  go_ret
  have hk3 : Kept (blk a) w1 w2 := ((Kept.refl (blk a) w1).alloc _).trans hk2 (fun x hx => .inl hx)
  exact ⟨⟨a', _, c', rfl, by rw [← ints_snoc]; exact ho2, hk0.trans hk3 (by intro x hx; exact .inl (by simp [hx])), fun g hg => (hat2 g hg).imp id (fun h => by simp at h; omega)⟩, hd1.kept hk3 hb, hw0.trans (within_of hk3 hd1.lt hb)⟩
  case o1 => simp [Value.oneCell']
  case o2 => omega
  case o3 => simp; omega
end Go.Proofs.Ytjcoeapopkkcbaa
