/- The decoder of layer 1: appendStep, Step, Feed, End, Pending, Copy. -/
import Derived.Test.YtjcoeapopkkcbaaUtfFeed
namespace Go.Proofs.Ytjcoeapopkkcbaa
open Go.RowKit

theorem appendFurther_any (b o base : Nat) (a : Option Addr) (n c : Nat) (l p : List Int) (v : Int) (w : World) (hd : Dec w b o p) (hown : Own w base 21 a n c 1 (ints .i32 l)) (hb : b ∉ blk a)
    (hbase : base ≤ w.heap.size) (hn : n ≤ 1000000) (hi : Inv p) (hv : 0 ≤ v ∧ v ≤ 255) (hg : goesB p v = true) :
    Calls Try.prog 33 #[.pointer (some ⟨b, o, none⟩), .slice a n c, .int .u8 v] w (DecRet base b o w a (l ++ stepR p v) (stepP p v)) := by
  unfold stepR stepP
  rw [if_pos hg, if_pos hg]
  by_cases hm : (p.length : Int) + 1 < sizeI (p.headD 0)
  · rw [if_pos hm, if_pos hm, List.append_nil]
    match p, hi with
    | [], _ => simp [goesB] at hg
    | x :: r, hi =>
      have hx := hi.byte x (by simp)
      have hs := size_cases x
      exact appendFurther_more b o base a n c l x r v w hd hown hb hx (by simp at hm; omega) (by omega)
  · rw [if_neg hm, if_neg hm]
    match p, hi with
    | [], _ => simp [goesB] at hg
    | [x], h =>
      simp only [Inv] at h
      have hs := size_cases x
      simp at hm
      exact appendFurther_done2 b o base a n c l x v w hd hown hb hbase hn (by omega) hv
    | [x, y], h =>
      have hy := h.byte y (by simp)
      simp only [Inv] at h
      have hs := size_cases x
      simp at hm
      exact appendFurther_done3 b o base a n c l x y v w hd hown hb hbase hn (by omega) hy hv
    | [x, y, z], h =>
      have hy := h.byte y (by simp)
      have hz := h.byte z (by simp)
      simp only [Inv] at h
      have hs := size_cases x
      simp at hm
      exact appendFurther_done4 b o base a n c l x y z v w hd hown hb hbase hn (by omega) hy hz hv

set_option maxHeartbeats 400000 in
theorem appendStep_goes (b o base : Nat) (a : Option Addr) (n c : Nat) (l p : List Int) (v : Int) (w : World) (hd : Dec w b o p) (hown : Own w base 21 a n c 1 (ints .i32 l)) (hb : b ∉ blk a)
    (hbase : base ≤ w.heap.size) (hn : n ≤ 1000000) (hi : Inv p) (hv : 0 ≤ v ∧ v ≤ 255) (hg : goesB p v = true) :
    Calls Try.prog 27 #[.pointer (some ⟨b, o, none⟩), .slice a n c, .int .u8 v] w (DecRet base b o w a (l ++ stepR p v) (stepP p v)) := by
  have h1 := hide (goesOn_any b o p v w hd hi.byte)
  rw [hg] at h1
  have h2 := hide (appendFurther_any b o base a n c l p v w hd hown hb hbase hn hi hv hg)
  clear hg hi
  go_enter Try.func27, Try.ntmps27
  go_wp2_with fail
  refine h1.out.mono ?_
  rintro e w1 ⟨rfl, rfl⟩
  go_wp2_with fail
  refine h2.out.mono ?_
  rintro e w1 ⟨⟨a1, n1, c1, rfl, ho1, hk1, hat1⟩, hd1, hw1⟩
  go_wp2_with fail
  go_ret
  exact ⟨⟨a1, n1, c1, rfl, ho1, hk1, hat1⟩, hd1, hw1⟩

set_option maxHeartbeats 800000 in
theorem appendStep_not (b o base : Nat) (a : Option Addr) (n c : Nat) (l p : List Int) (v : Int) (w : World) (hd : Dec w b o p) (hown : Own w base 21 a n c 1 (ints .i32 l)) (hb : b ∉ blk a)
    (hbase : base ≤ w.heap.size) (hn : n ≤ 900000) (hi : Inv p) (hv : 0 ≤ v ∧ v ≤ 255) (hg : goesB p v = false) :
    Calls Try.prog 27 #[.pointer (some ⟨b, o, none⟩), .slice a n c, .int .u8 v] w (DecRet base b o w a (l ++ stepR p v) (stepP p v)) := by
  have h1 := hide (goesOn_any b o p v w hd hi.byte)
  rw [hg] at h1
  have h2 := hide (appendEnd_any b o base a n c l p w hd hown hb hbase (by omega))
  have eR : stepR p v = endR p ++ (if sizeI v = 0 then [65533] else if sizeI v = 1 then [v] else []) := by unfold stepR; rw [if_neg (by rw [hg]; simp)]
  have eP : stepP p v = if 2 ≤ sizeI v then [v] else [] := by unfold stepP; rw [if_neg (by rw [hg]; simp)]
  have hsv := size_cases v
  have hl : (endR p).length ≤ 1 := by unfold endR; split <;> simp
  have hnl : l.length = n := by have := hown.len; rw [ints_len] at this; omega
  have hblt := hd.lt
  have hbn : ∀ a1 : Option Addr, (∀ g ∈ blk a1, g ∈ blk a ∨ w.heap.size ≤ g) → b ∉ blk a1 := by
    intro a1 h hm
    rcases h b hm with h | h
    · exact hb h
    · omega
  clear hg hi
  have Hs := hide (fun w' => size_any v w' hv.1 hv.2)
  rw [eR, eP]
  clear eR eP
  by_cases h0 : sizeI v = 0
  · rw [if_pos h0, if_neg (by omega), ← List.append_assoc]
    rw [h0] at Hs
    clear h0
    go_enter Try.func27, Try.ntmps27
    go_wp2_with fail
    refine h1.out.mono ?_
    rintro e w1 ⟨rfl, rfl⟩
    go_wp2_with fail
    refine h2.out.mono ?_
    rintro e w1 ⟨⟨a1, n1, c1, rfl, ho1, hk1, hat1⟩, hd1, hw1⟩
    have hn1 : n1 ≤ 900001 := by have := ho1.len; simp [ints_len] at this; omega
    have hsz := hk1.size
    go_wp2_with fail
    refine (Hs.out _).mono ?_
    rintro e w2 ⟨rfl, rfl⟩
    go_wp2_with (at_builtin; refine wpList_app ?_ rfl elRune rfl rfl (ho1.alloc _) rfl (Rd.block (heap_alloc_new w1 _) rfl) ?o1 ?o2 ?o3; intro a' c' w2 ho2 hk2 hat2)
    go_ret
    have hk3 : Kept (blk a1) w1 w2 := ((Kept.refl (blk a1) w1).alloc _).trans hk2 (fun x hx => .inl hx)
    refine ⟨⟨a', _, c', rfl, by simpa only [ints_snoc, List.append_assoc] using ho2, hk1.trans hk3 (fun x hx => (hat1 x hx).imp (by intro h; simp [h]) id), fun g hg => ?_⟩, hd1.kept hk3 (hbn a1 hat1), hw1.trans (within_of hk3 hd1.lt (hbn a1 hat1))⟩
    rcases hat2 g hg with h | h
    · exact hat1 g h
    · right; simp at h; omega
    case o1 => simp [Value.oneCell']
    case o2 => omega
    case o3 => simp; omega
  · by_cases h01 : sizeI v = 1
    · rw [if_neg h0, if_pos h01, if_neg (by omega), ← List.append_assoc]
      rw [h01] at Hs
      clear h0 h01
      have hv0 := hv.1
      have hv1 := hv.2
      go_enter Try.func27, Try.ntmps27
      go_wp2_with fail
      refine h1.out.mono ?_
      rintro e w1 ⟨rfl, rfl⟩
      go_wp2_with fail
      refine h2.out.mono ?_
      rintro e w1 ⟨⟨a1, n1, c1, rfl, ho1, hk1, hat1⟩, hd1, hw1⟩
      have hn1 : n1 ≤ 900001 := by have := ho1.len; simp [ints_len] at this; omega
      have hsz := hk1.size
      go_wp2_with fail
      refine (Hs.out _).mono ?_
      rintro e w2 ⟨rfl, rfl⟩
      go_wp2_with (at_builtin; refine wpList_app ?_ rfl elRune rfl rfl (ho1.alloc _) rfl (Rd.block (heap_alloc_new w1 _) rfl) ?o1 ?o2 ?o3; intro a' c' w2 ho2 hk2 hat2)
      go_ret
      have hk3 : Kept (blk a1) w1 w2 := ((Kept.refl (blk a1) w1).alloc _).trans hk2 (fun x hx => .inl hx)
      refine ⟨⟨a', _, c', rfl, by simpa only [ints_snoc, List.append_assoc] using ho2, hk1.trans hk3 (fun x hx => (hat1 x hx).imp (by intro h; simp [h]) id), fun g hg => ?_⟩, hd1.kept hk3 (hbn a1 hat1), hw1.trans (within_of hk3 hd1.lt (hbn a1 hat1))⟩
      rcases hat2 g hg with h | h
      · exact hat1 g h
      · right; simp at h; omega
      case o1 => simp [Value.oneCell']
      case o2 => omega
      case o3 => simp; omega
    · have h2s : 2 ≤ sizeI v := by omega
      rw [if_neg h0, if_neg h01, if_pos h2s, List.append_nil]
      generalize sizeI v = s at *
      have b0 : (s == 0) = false := beq_eq_false_iff_ne.2 h0
      have b1 : (s == 1) = false := beq_eq_false_iff_ne.2 h01
      have hh := hide (fun w' (h : Dec w' b o []) => hold_any b o [] v w' h (by simp))
      clear h0 h01 hsv
      go_enter Try.func27, Try.ntmps27
      go_wp2_with fail
      refine h1.out.mono ?_
      rintro e w1 ⟨rfl, rfl⟩
      go_wp2_with fail
      refine h2.out.mono ?_
      rintro e w1 ⟨⟨a1, n1, c1, rfl, ho1, hk1, hat1⟩, hd1, hw1⟩
      go_wp2_with fail
      refine (Hs.out _).mono ?_
      rintro e w2 ⟨rfl, rfl⟩
      go_wp2_with fail
      refine (hh.out _ hd1).mono ?_
      rintro e w2 ⟨rfl, hk2, hd2, hw2⟩
      go_wp2_with fail
      go_ret
      exact ⟨⟨a1, n1, c1, rfl, ho1.kept hk2 (by intro g hg; simp; intro h; subst h; exact hbn a1 hat1 hg), hk1.trans hk2 (by simp), hat1⟩, hd2, hw1.trans hw2⟩

theorem appendStep_any (b o base : Nat) (a : Option Addr) (n c : Nat) (l p : List Int) (v : Int) (w : World) (hd : Dec w b o p) (hown : Own w base 21 a n c 1 (ints .i32 l)) (hb : b ∉ blk a)
    (hbase : base ≤ w.heap.size) (hn : n ≤ 900000) (hi : Inv p) (hv : 0 ≤ v ∧ v ≤ 255) :
    Calls Try.prog 27 #[.pointer (some ⟨b, o, none⟩), .slice a n c, .int .u8 v] w (DecRet base b o w a (l ++ stepR p v) (stepP p v)) := by
  cases hg : goesB p v
  · exact appendStep_not b o base a n c l p v w hd hown hb hbase hn hi hv hg
  · exact appendStep_goes b o base a n c l p v w hd hown hb hbase (by omega) hi hv hg

set_option maxHeartbeats 400000 in
theorem Step_any (b o : Nat) (p : List Int) (v : Int) (w : World) (hd : Dec w b o p) (hi : Inv p) (hv : 0 ≤ v ∧ v ≤ 255) :
    Calls Try.prog 14 #[.pointer (some ⟨b, o, none⟩), .int .u8 v] w (DecRet w.heap.size b o w none (stepR p v) (stepP p v)) := by
  have h1 := hide (appendStep_any b o w.heap.size none 0 0 [] p v w hd (Own.nil _ _ _ _) (by simp [blk]) (Nat.le_refl _) (by omega) hi hv)
  go_enter Try.func14, Try.ntmps14
  go_wp2_with fail
  refine h1.out.mono ?_
  rintro e w1 ⟨⟨a1, n1, c1, rfl, ho1, hk1, hat1⟩, hd1, hw1⟩
  go_wp2_with fail
  go_ret
  exact ⟨⟨a1, n1, c1, rfl, ho1, hk1, hat1⟩, hd1, hw1⟩

set_option maxHeartbeats 400000 in
theorem End_any (b o : Nat) (p : List Int) (w : World) (hd : Dec w b o p) :
    Calls Try.prog 17 #[.pointer (some ⟨b, o, none⟩)] w (DecRet w.heap.size b o w none (endR p) []) := by
  have h1 := hide (appendEnd_any b o w.heap.size none 0 0 [] p w hd (Own.nil _ _ _ _) (by simp [blk]) (Nat.le_refl _) (by omega))
  go_enter Try.func17, Try.ntmps17
  go_wp2_with fail
  refine h1.out.mono ?_
  rintro e w1 ⟨⟨a1, n1, c1, rfl, ho1, hk1, hat1⟩, hd1, hw1⟩
  go_wp2_with fail
  go_ret
  exact ⟨⟨a1, n1, c1, rfl, ho1, hk1, hat1⟩, hd1, hw1⟩

set_option maxHeartbeats 400000 in
theorem Feed_some (b o : Nat) (p : List Int) (bb oo cb : Nat) (bs : List Int) (w : World) (hd : Dec w b o p) (hi : Inv p) (hbs : ∀ x ∈ bs, 0 ≤ x ∧ x ≤ 255)
    (hr : ∀ j u, (ints .u8 bs)[j]? = some u → w.cell? ⟨bb, oo + j, none⟩ = some u) (hb : b ≠ bb) (hn : bs.length ≤ 100000) :
    Calls Try.prog 22 #[.pointer (some ⟨b, o, none⟩), .slice (some ⟨bb, oo, none⟩) bs.length cb] w (DecRet w.heap.size b o w none (feedR p bs) (feedP p bs)) := by
  have hd' := hide hd
  have hblt := hd.lt
  go_enter Try.func22, Try.ntmps22
  go_wp2_with fail
  go_loopw [5, 12] (fun v i wr => ∃ (k : Nat) (a : Option Addr) (n c : Nat), k ≤ bs.length ∧ i = .int .i64 k ∧ v = .slice a n c ∧ Own wr w.heap.size 21 a n c 1 (ints .i32 (feedR p (bs.take k))) ∧ Kept [b] w wr ∧ Dec wr b o (feedP p (bs.take k)) ∧ Within b o 4 w wr) (fun _ i _ => bs.length - (intOf i).toNat)
  case atStart => exact ⟨0, none, 0, 0, Nat.zero_le _, rfl, rfl, Own.nil _ _ _ _, Kept.refl _ _, hd'.out, Within.refl _ _ _ _⟩
  case round =>
    obtain ⟨k, a, n, c, hk, rfl, rfl, ho, hkk, hdk, hwk⟩ := hrel
    have hblt' : b < wr.heap.size := hdk.lt
    have hlen := ho.len
    rw [ints_len] at hlen
    have hfl := feedR_len (bs.take k) p
    have htl : (bs.take k).length ≤ k := List.length_take_le _ _
    by_cases hlt : k < bs.length
    · have hc : wr.cell? ⟨bb, oo + k, none⟩ = some (.int .u8 bs[k]) := hkk.cell (Rd.at hr k hlt) (by simp; exact fun h => hb h.symm)
      have hv := hbs bs[k] (List.getElem_mem hlt)
      have hts := hide (take_snoc hlt)
      generalize bs[k] = v at *
      have hge := ho.ge
      have h1 := hide (appendStep_any b o w.heap.size a n c (feedR p (bs.take k)) (feedP p (bs.take k)) v wr hdk ho (by intro hm; have := (hge b hm).1; omega) hkk.size (by omega) (hi.feed _) hv)
      have ho' := hide ho
      have hdk' := hide hdk
      clear hdk ho hlen hfl htl hv
      go_wp2_with fail
      refine h1.out.mono ?_
      rintro e w1 ⟨⟨a1, n1, c1, rfl, ho1, hk1, hat1⟩, hd1, hw1⟩
      rw [← feedR_snoc, ← hts.out] at ho1
      rw [← feedP_snoc, ← hts.out] at hd1
      go_wp2_with fail
      go_roundw
      case rel => exact ⟨k + 1, a1, n1, c1, by omega, by go_num, rfl, ho1, hkk.trans hk1 (by intro x hx; simp at hx; rcases hx with rfl | hx; exact .inl (by simp); exact .inr (hge x hx).1), hd1, hwk.trans hw1⟩
      case measure => simp [intOf]; omega
    · obtain rfl : k = bs.length := by omega
      rw [List.take_length] at ho hdk
      have hat := hide (fun g hg => (ho.ge g hg).1)
      have ho' := hide ho
      have hdk' := hide hdk
      clear ho hdk hfl htl hlen
      go_wp2_with fail
      go_ret
      exact ⟨⟨a, n, c, rfl, ho'.out, hkk, fun g hg => .inr (hat.out g hg)⟩, hdk'.out, hwk⟩

set_option maxHeartbeats 400000 in
theorem Feed_none (b o : Nat) (p : List Int) (ab : Option Addr) (cb : Nat) (w : World) (hd : Dec w b o p) :
    Calls Try.prog 22 #[.pointer (some ⟨b, o, none⟩), .slice ab 0 cb] w (DecRet w.heap.size b o w none [] p) := by
  have hd' := hide hd
  go_enter Try.func22, Try.ntmps22
  go_wp2_with fail
  refine wp_loop_rounds 1 ?_
  rw [rounds_succ]
  go_wp2_with fail
  go_ret
  exact ⟨⟨none, 0, 0, rfl, Own.nil _ _ _ _, Kept.refl _ _, by simp [blk]⟩, hd'.out, Within.refl _ _ _ _⟩

theorem Feed_any (b o : Nat) (p : List Int) (ab : Option Addr) (nb cb : Nat) (bs : List Int) (w : World) (hd : Dec w b o p) (hi : Inv p) (hbs : ∀ x ∈ bs, 0 ≤ x ∧ x ≤ 255)
    (hr : Rd w ab nb 1 (ints .u8 bs)) (hb : bs ≠ [] → b ∉ blk ab) (hn : bs.length ≤ 100000) :
    Calls Try.prog 22 #[.pointer (some ⟨b, o, none⟩), .slice ab nb cb] w (DecRet w.heap.size b o w none (feedR p bs) (feedP p bs)) := by
  have hl : nb = bs.length := by have := hr.1; rw [ints_len] at this; omega
  subst hl
  rcases hr.2 with h0 | ⟨bb, oo, rfl, hc⟩
  · have : bs = [] := by simpa [ints] using h0
    subst this
    exact Feed_none b o p ab cb w hd
  · by_cases hne : bs = []
    · subst hne
      exact Feed_none b o p _ cb w hd
    · exact Feed_some b o p bb oo cb bs w hd hi hbs hc (by simpa [blk] using hb hne) hn
end Go.Proofs.Ytjcoeapopkkcbaa
